/-
  
-/
import Derived.Test.YtjnpndfpajjihacGreatGrTopOrdered31
import Derived.Test.YtjnpndfpajjihacGreatGrTopOrdered39
import Derived.Test.YtjnpndfpajjihacGreatXNewest
set_option maxRecDepth 100000
set_option maxHeartbeats 40000000
namespace Go.Proofs.YtjnpndfpajjihacGreat
open Go.RowKit
theorem zrc(W:World)(q:Int):IsTx W (.agg #[.int .i64 q,.slice none 0 0,.slice none 0 0,.slice none 0 0,.bool false,.int .i64 0,.bool false,.int .i64 0,.bool false,.int .i64 0]) (zcv q):=
 ⟨none,0,none,0,none,0,rfl,.inl rfl,.inl rfl,.inl rfl,Nat.zero_le _,Nat.zero_le _,Nat.zero_le _⟩
theorem z3c(q:Int):RoomTx (.agg #[.int .i64 q,.slice none 0 0,.slice none 0 0,.slice none 0 0,.bool false,.int .i64 0,.bool false,.int .i64 0,.bool false,.int .i64 0]):=
 ⟨_,_,_,_,_,_,_,_,_,_,_,_,_,_,_,_,rfl,Nat.le_refl _,Nat.le_refl _,Nat.le_refl _⟩
theorem ButL.setRow{X:List Nat}{base:Nat}{w w1:World}(h:ButL X base w w1){b:Nat}(hb:b∈X∨base≤b)(cs:Array Value):ButL X base w (w1.setRow b cs):=
 ⟨h.os,h.tape,h.output,by simpa[World.setRow] using h.size,fun j hj hn=>(setRow_other _ _ _ _ (by intro e;subst e;rcases hb with h1|h1;exact hn h1;omega)).trans (h.block j hj hn)⟩
theorem JAt.putAll{w:World}{B:Nat}{X:List Nat}{j:Jn}{old:Array Value}(hB:B∈X)(hg:w.heap[B]?=some (.cells old 93 (0,0)))(da:Option Addr)(dc:Nat)(db:Option Addr)(dd:Nat)(na:Option Addr)(nc:Nat)(nb:Option Addr)(nd:Nat)(ne:Option Addr)(nf:Nat)(sa:Option Addr)(sc:Nat)(sb:Option Addr)(sd:Nat)(se:Option Addr)(sf:Nat)(ca:Option Addr)(cc:Nat)(fa:Option Addr)(fc:Nat)(ta:Option Addr)(tc:Nat)(hr:RowsJ w X j da dc db dd na nc nb nd ne nf sa sc sb sd se sf ca cc fa fc ta tc):JAt (w.setRow B (zbs j da dc db dd na nc nb nd ne nf sa sc sb sd se sf ca cc fa fc ta tc)) B X j:=
 ⟨hB,da,dc,db,dd,na,nc,nb,nd,ne,nf,sa,sc,sb,sd,se,sf,ca,cc,fa,fc,ta,tc,setRow_heap w B old _ _ _ hg,hr.ext (Ext.butL ((ButL.refl X _ w).setRow (.inl hB) _))⟩
theorem zh1(j:Jn)(da:Option Addr)(dc:Nat)(db:Option Addr)(dd:Nat)(na:Option Addr)(nc:Nat)(nb:Option Addr)(nd:Nat)(ne:Option Addr)(nf:Nat)(sa:Option Addr)(sc:Nat)(sb:Option Addr)(sd:Nat)(se:Option Addr)(sf:Nat)(ca:Option Addr)(cc:Nat)(fa:Option Addr)(fc:Nat)(ta:Option Addr)(tc:Nat):(zbs j da dc db dd na nc nb nd ne nf sa sc sb sd se sf ca cc fa fc ta tc).all (·.oneCell')=true:=by kernel_rfl
theorem z3d(j:Jn)(da:Option Addr)(dc:Nat)(db:Option Addr)(dd:Nat)(na:Option Addr)(nc:Nat)(nb:Option Addr)(nd:Nat)(ne:Option Addr)(nf:Nat)(sa:Option Addr)(sc:Nat)(sb:Option Addr)(sd:Nat)(se:Option Addr)(sf:Nat)(ca:Option Addr)(cc:Nat)(fa:Option Addr)(fc:Nat)(ta:Option Addr)(tc:Nat):(Tryz.prog.info? 93).map (·.size)=some (zbs j da dc db dd na nc nb nd ne nf sa sc sb sd se sf ca cc fa fc ta tc).size:=by kernel_rfl
theorem zpi{X:List Nat}{B:Nat}(hB:B∈X)(w:World)(v0 v1 v2 v3 v4 v5 v6 v7 v8 v9:Value):Ext (zau w X) (zau ((((((((((w.setCell ⟨B,0,none⟩ (v0)).setCell ⟨B,1,none⟩ (v1)).setCell ⟨B,2,none⟩ (v2)).setCell ⟨B,3,none⟩ (v3)).setCell ⟨B,4,none⟩ (v4)).setCell ⟨B,5,none⟩ (v5)).setCell ⟨B,6,none⟩ (v6)).setCell ⟨B,7,none⟩ (v7)).setCell ⟨B,8,none⟩ (v8)).setCell ⟨B,9,none⟩ (v9)) X):=
 Ext.butL (((((((((((ButL.refl X _ w).set (.inl hB) 0 v0).set (.inl hB) 1 v1).set (.inl hB) 2 v2).set (.inl hB) 3 v3).set (.inl hB) 4 v4).set (.inl hB) 5 v5).set (.inl hB) 6 v6).set (.inl hB) 7 v7).set (.inl hB) 8 v8).set (.inl hB) 9 v9)
theorem zin{t:Tx}{h b:Int}(e:reachE t h b=0):0≤b∧b≤11:=by
 unfold reachE at e;split at e
 ·cases e
 ·split at e
  ·cases e
  ·rename_i hx;omega
theorem zro{t:Tx}{h b:Int}{s:ByteArray}(e:changeE t h b s=0):0≤b∧b≤11:=by
 unfold changeE at e;split at e
 ·rename_i A;exact absurd e A
 ·rename_i A;exact zin (by simpa using A)
theorem zxm{t:Tx}{h b:Int}{s:ByteArray}(e:fillE t h b s=0):0≤b∧b≤11:=by
 unfold fillE at e;split at e
 ·rename_i A;exact absurd e A
 ·rename_i A;exact zin (by simpa using A)
theorem zrp{t:Tx}{h b:Int}(e:revokeE t h b=0):0≤b∧b≤11:=by
 unfold revokeE at e;split at e
 ·rename_i A;exact absurd e A
 ·rename_i A;exact zin (by simpa using A)
section
variable {w:World} {X:List Nat} {n:Nat}
theorem IsTx.hideF{v:Value}{t:Tx}(h:IsTx w v t)(hF:zpf n v t)(hX:∀x∈X,x<n):IsTx (zau w X) v t:=by
 obtain⟨a,c,E,C,r,d,rfl,D,A,B,J⟩:=h;obtain⟨b0,b1,b2,b3,b4,b5,e,f1,F,I⟩:=hF;simp only[Value.agg.injEq]at e
 injection e with e
 simp only[List.cons.injEq,Value.slice.injEq,true_and,and_true]at e;obtain⟨⟨rfl,rfl⟩,⟨rfl,rfl⟩,rfl,rfl⟩:=e;exact⟨a,c,E,C,r,d,rfl,D.hideF f1 hX,A.hideF F hX,B.hideF I hX,J⟩
theorem SegW.as{a:Option Addr}{l l2:List (Int×ByteArray)}(h:SegW (zau w X) a l)(h2:SegW w a l2)(e:l.length=l2.length):SegW (zau w X) a l2:=by
 rcases h2 with t|⟨x,off,rfl,hlt,hc⟩
 ·exact .inl t
 ·rcases h with s|⟨y,off',he,hlt',hc'⟩
  ·exact .inl (List.eq_nil_of_length_eq_zero (by rw[←e,s];rfl))
  ·cases he;by_cases h0:l2.length=0
   ·exact .inl (List.eq_nil_of_length_eq_zero h0)
   ·have A:=(zbv (hc' 0 (by omega)).1).1;exact .inr ⟨x,off,rfl,by rw[zbf];exact hlt,fun i hi=>⟨zbz A (hc i hi).1,zbz A (hc i hi).2⟩⟩
theorem SegI.as{a:Option Addr}{l l2:List Int}(h:SegI (zau w X) a l)(h2:SegI w a l2)(e:l.length=l2.length):SegI (zau w X) a l2:=by
 rcases h2 with t|⟨x,off,rfl,hlt,hc⟩
 ·exact .inl t
 ·rcases h with s|⟨y,off',he,hlt',hc'⟩
  ·exact .inl (List.eq_nil_of_length_eq_zero (by rw[←e,s];rfl))
  ·cases he;by_cases h0:l2.length=0
   ·exact .inl (List.eq_nil_of_length_eq_zero h0)
   ·have A:=(zbv (hc' 0 (by omega))).1;exact .inr ⟨x,off,rfl,by rw[zbf];exact hlt,fun i hi=>zbz A (hc i hi)⟩
theorem IsTx.asTx{v:Value}{t t2:Tx}(h:IsTx (zau w X) v t)(h2:IsTx w v t2):IsTx (zau w X) v t2:=by
 obtain⟨a,c,J,I,r,d,rfl,F,B,C,_⟩:=h;obtain⟨b0,b1,b2,b3,b4,b5,e,E,A,N,K⟩:=h2;have O:=e;simp only[Value.agg.injEq]at e
 injection e with e
 simp only[List.cons.injEq,Value.slice.injEq,and_true]at e;obtain⟨_,⟨rfl,M,rfl⟩,⟨rfl,L,rfl⟩,⟨rfl,D,rfl⟩,_⟩:=e;exact⟨a,c,J,I,r,d,O,F.as E M,B.as A L,C.as N D,K⟩
end
def zmk (W:World)(u:Value)(w:World):Prop:=Below W.heap.size W w∧(u=undef∨∃T,u=.pointer (some ⟨T,0,none⟩)∧W.heap.size≤T∧T<w.heap.size∧∃c0 c1 c2 c3 c4 c5 c6 c7 c8 c9,w.heap[T]?=some (.cells #[c0,c1,c2,c3,c4,c5,c6,c7,c8,c9] 40 (0,0)))
theorem zf6{W:World}{u:Value}{w w':World}(h:zmk W u w)(hb:Below w.heap.size w w'):zmk W u w':=
 ⟨zae h.1 hb,h.2.imp id fun⟨T,h1,h2,h3,c0,c1,c2,c3,c4,c5,c6,c7,c8,c9,h4⟩=>⟨T,h1,h2,Nat.lt_of_lt_of_le h3 hb.size,c0,c1,c2,c3,c4,c5,c6,c7,c8,c9,zad hb h3 h4⟩⟩
def okTx (X:List Nat)(t:Tx)(v2 u:Value)(w:World):Prop:=IsTx (zau w X) v2 t∧RoomTx v2∧∀T,u=.pointer (some ⟨T,0,none⟩)→IsTx (zau w (T::X)) v2 t
theorem okTx.below{X:List Nat}{t:Tx}{v2 u:Value}{w w':World}(h:okTx X t v2 u w)(hb:Below w.heap.size w w'):okTx X t v2 u w':=
 ⟨h.1.ext (Ext.freshL hb),h.2.1,fun T e=>(h.2.2 T e).ext (Ext.freshL hb)⟩
theorem okTx.alloc{X:List Nat}{t:Tx}{v2 u:Value}{w:World}(h:okTx X t v2 u w)(o:Obj):okTx X t v2 (.pointer (some ⟨w.heap.size,0,none⟩)) (w.alloc o):=
 ⟨h.1.ext (Ext.freshL (zaa _ _)),h.2.1,fun T e=>by cases e;exact h.1.ext (Ext.newL (zaa _ _) (Nat.le_refl _))⟩
theorem okTx.store{X:List Nat}{t:Tx}{x:Value}{T:Nat}{w:World}(h:okTx X t x (.pointer (some ⟨T,0,none⟩)) w)(v0 v1 v2 v3 v4 v5 v6 v7 v8 v9:Value):okTx X t x (.pointer (some ⟨T,0,none⟩)) ((((((((((w.setCell ⟨T,0,none⟩ (v0)).setCell ⟨T,1,none⟩ (v1)).setCell ⟨T,2,none⟩ (v2)).setCell ⟨T,3,none⟩ (v3)).setCell ⟨T,4,none⟩ (v4)).setCell ⟨T,5,none⟩ (v5)).setCell ⟨T,6,none⟩ (v6)).setCell ⟨T,7,none⟩ (v7)).setCell ⟨T,8,none⟩ (v8)).setCell ⟨T,9,none⟩ (v9)):=by
 have k:=(h.2.2 T rfl).ext (zpi (X:=T::X) (B:=T) (by simp) w v0 v1 v2 v3 v4 v5 v6 v7 v8 v9);exact⟨k.ext (Ext.lessL T),h.2.1,fun T' e=>by cases e;exact k⟩
theorem okTx.made{X:List Nat}{t t2:Tx}{v v2 u:Value}{W w w2:World}(hX:∀x∈X,x<W.heap.size)(hT:IsTx (zau W X) v t)(hR:RoomTx v)(hB:zmk W u w)(h2:IsTx w2 v2 t2)(hb:Below w.heap.size w w2)(hv:v2=v∨za2 w.heap.size v2 t2):okTx X t2 v2 u w2:=by
 have A:=zae hB.1 hb
 have B:∀T,u=.pointer (some ⟨T,0,none⟩)→W.heap.size≤T∧T<w.heap.size:=by
  intro T e;rcases hB.2 with h0|⟨T',e',h3,h4,_⟩
  ·rw[h0]at e;cases e
  ·rw[e']at e;cases e;exact⟨h3,h4⟩
 rcases hv with rfl|hv
 ·exact⟨(hT.ext (Ext.freshL A)).asTx h2,hR,fun T e=>(hT.ext (Ext.newL A (B T e).1)).asTx h2⟩
 ·have hs:=hB.1.size
  exact⟨h2.hideF hv.1 (fun x hx=>by have:=hX x hx;omega),hv.2,fun T e=>h2.hideF hv.1 (fun x hx=>by
   rcases List.mem_cons.1 hx with rfl|hx
   ·exact(B _ e).2
   ·have:=hX x hx;omega)⟩
theorem JAt.role{w:World}{B:Nat}{X:List Nat}{j:Jn}(h:JAt w B X j)(b:Nat)(hb:b<12):w.cell? ⟨B,7+b*2,none⟩=some (.int .i64 (j.role b))∧w.cell? ⟨B,7+b*2+1,none⟩=some (.int .i64 (j.freed b))∧w.frozen? ⟨B,7+b*2,none⟩=false∧w.frozen? ⟨B,7+b*2+1,none⟩=false:=by
 obtain⟨_,da,dc,db,dd,na,nc,nb,nd,ne,nf,sa,sc,sb,sd,se,sf,ca,cc,fa,fc,ta,tc,A,_⟩:=h;have C:=zak A (7+b*2);have D:=zak A (7+b*2+1);refine⟨C.trans ?_,D.trans ?_,frozen_of_row w _ _ _ _ A,frozen_of_row w _ _ _ _ A⟩
 ·match b,hb with
  |0,_=>rfl
  |1,_=>rfl
  |2,_=>rfl
  |3,_=>rfl
  |4,_=>rfl
  |5,_=>rfl
  |6,_=>rfl
  |7,_=>rfl
  |8,_=>rfl
  |9,_=>rfl
  |10,_=>rfl
  |11,_=>rfl
  |n+12,hb=>omega
 ·match b,hb with
  |0,_=>rfl
  |1,_=>rfl
  |2,_=>rfl
  |3,_=>rfl
  |4,_=>rfl
  |5,_=>rfl
  |6,_=>rfl
  |7,_=>rfl
  |8,_=>rfl
  |9,_=>rfl
  |10,_=>rfl
  |11,_=>rfl
  |n+12,hb=>omega
open Go.Proofs.Tryz
def zh7 (b:Int):List (Option Addr×Nat×List (Int×ByteArray))→Option ByteArray
 |[]=>none
 |x::r=>match zai b x.2.2 with
  |some s=>some s
  |none=>zh7 b r
theorem ztx{b:Int}{L:List (Option Addr×Nat×List (Int×ByteArray))}{k:Nat}{x:Option Addr×Nat×List (Int×ByteArray)}(h:L[k]?=some x):zh7 b (L.drop k)=match zai b x.2.2 with|some s=>some s|none=>zh7 b (L.drop (k+1)):=by
 have A:=(List.getElem?_eq_some_iff.1 h).1;rw[List.drop_eq_getElem_cons A,(List.getElem?_eq_some_iff.1 h).2,zh7]
theorem zty(j:Jn)(b:Int)(na nb sa sb ya:Option Addr)(nc nd sc sd yc:Nat):textJ j b=match zh7 b [(na,nc,j.now.info),(nb,nd,j.now.data),(sa,sc,j.sealed.info),(sb,sd,j.sealed.data),(ya,yc,newestL j.done)] with|some s=>(s,0)|none=>(zal j.disk (25+b),readE j.disk (25+b)):=by
 simp only[textJ,zh7]
 cases zai b j.now.info with
 |some s=>rfl
 |none=>
  cases zai b j.now.data with
  |some s=>rfl
  |none=>
   cases zai b j.sealed.info with
   |some s=>rfl
   |none=>
    cases zai b j.sealed.data with
    |some s=>rfl
    |none=>cases zai b (newestL j.done)<;>rfl
def zrq (B:Nat)(j:Jn)(na:Option Addr)(nc:Nat)(nb:Option Addr)(nd:Nat)(sa:Option Addr)(sc:Nat)(sb:Option Addr)(sd:Nat)(ca:Option Addr)(cc:Nat):Nat→Value→World→Prop
 |0,v,_=>v=.pointer (some ⟨B,0,none⟩)
 |1,v,_=>v=.pointer (some ⟨B,0,none⟩)
 |2,v,_=>v=.pointer (some ⟨B,31,none⟩)
 |3,v,_=>v=.pointer (some ⟨B,32,none⟩)
 |4,v,_=>v=.slice na j.now.info.length nc
 |5,v,_=>v=.pointer (some ⟨B,0,none⟩)
 |6,v,_=>v=.pointer (some ⟨B,0,none⟩)
 |7,v,_=>v=.pointer (some ⟨B,31,none⟩)
 |8,v,_=>v=.pointer (some ⟨B,33,none⟩)
 |9,v,_=>v=.slice nb j.now.data.length nd
 |10,v,_=>v=.pointer (some ⟨B,0,none⟩)
 |11,v,_=>v=.pointer (some ⟨B,0,none⟩)
 |12,v,_=>v=.pointer (some ⟨B,41,none⟩)
 |13,v,_=>v=.pointer (some ⟨B,42,none⟩)
 |14,v,_=>v=.slice sa j.sealed.info.length sc
 |15,v,_=>v=.pointer (some ⟨B,0,none⟩)
 |16,v,_=>v=.pointer (some ⟨B,0,none⟩)
 |17,v,_=>v=.pointer (some ⟨B,41,none⟩)
 |18,v,_=>v=.pointer (some ⟨B,43,none⟩)
 |19,v,_=>v=.slice sb j.sealed.data.length sd
 |20,v,_=>v=.pointer (some ⟨B,0,none⟩)
 |21,v,_=>v=.pointer (some ⟨B,0,none⟩)
 |22,v,_=>v=.pointer (some ⟨B,51,none⟩)
 |23,v,_=>v=.slice ca j.done.length cc
 |24,v,w=>∃(ya:Option Addr) (yc:Nat),v=.slice ya (newestL j.done).length yc∧SegW w ya (newestL j.done)
 |25,v,w=>∃(Bx:Nat) (ya:Option Addr) (yc:Nat),v=.slice (some ⟨Bx,0,none⟩) 5 5∧w.heap[Bx]?=some (.cells #[.slice na j.now.info.length nc,.slice nb j.now.data.length nd,.slice sa j.sealed.info.length sc,.slice sb j.sealed.data.length sd,.slice ya (newestL j.done).length yc] 34 (0,0))∧SegW w ya (newestL j.done)
 |26,v,_=>v=.int .i64 5
 |27,v,_=>v=.int .i64 0
 |_,_,_=>True
theorem zkr{B:Nat}{j:Jn}{na:Option Addr}{nc:Nat}{nb:Option Addr}{nd:Nat}{sa:Option Addr}{sc:Nat}{sb:Option Addr}{sd:Nat}{ca:Option Addr}{cc:Nat}{w w':World}(hb:Below w.heap.size w w'){i:Nat}:∀kk uu,kk≠i→zrq B j na nc nb nd sa sc sb sd ca cc kk uu w→zrq B j na nc nb nd sa sc sb sd ca cc kk uu w':=by
 intro kk uu _ h
 match kk,h with
 |0,h|1,h|2,h|3,h|4,h|5,h|6,h|7,h|8,h|9,h|10,h|11,h|12,h|13,h|14,h|15,h|16,h|17,h|18,h|19,h|20,h|21,h|22,h|23,h=>exact h
 |24,⟨ya,yc,h1,h2⟩=>exact⟨ya,yc,h1,h2.below hb⟩
 |25,⟨Bx,ya,yc,h1,h2,h3⟩=>exact⟨Bx,ya,yc,h1,zad hb (Array.getElem?_eq_some_iff.1 h2).1 h2,h3.below hb⟩
 |26,h|27,h=>exact h
 |_+28,_=>exact trivial
theorem z0g(B:Nat)(X:List Nat)(j:Jn)(w:World)(b:Int)(h:JAt w B X j)(hn:j.done.length≤maxLen)(hb0:0≤b)(hb1:b≤11):
  Calls prog 127 #[.pointer (some ⟨B,0,none⟩),.int .i64 b] w fun e w'=>e=.returned (.tuple #[.string (textJ j b).1,.int .i64 (textJ j b).2])∧Below w.heap.size w w':=by
 have HJ:=zab h;have M:=h.lt;have HN:=zab hn;obtain⟨_,da,dc,db,dd,U,Y,O,N,ne,nf,R,Q,S,Z,se,sf,ca,cc,fa,fc,ta,tc,q,hr⟩:=id h;have c1:w.cell? ⟨B,1,none⟩=some (.slice da j.disk.safe.length dc):=zak q 1;have c2:w.cell? ⟨B,2,none⟩=some (.slice db j.disk.wr.length dd):=zak q 2;have B3:w.cell? ⟨B,32,none⟩=some (.slice U j.now.info.length Y):=zak q 32;have C3:w.cell? ⟨B,33,none⟩=some (.slice O j.now.data.length N):=zak q 33;have B8:w.cell? ⟨B,42,none⟩=some (.slice R j.sealed.info.length Q):=zak q 42;have C0:w.cell? ⟨B,43,none⟩=some (.slice S j.sealed.data.length Z):=zak q 43;have B5:w.cell? ⟨B,51,none⟩=some (.slice ca j.done.length cc):=zak q 51;have D4:=zab B3;have D9:=zab C3;have D3:=zab B8;have D8:=zab C0;have D2:=zab B5;have C7:=zab (hr.2.2.2.1.ext (Ext.seenL w X));have A3:=zab (hr.2.1.ext (Ext.seenL w X)).rows;have A5:=zab (hr.2.2.1.ext (Ext.seenL w X)).rows;have D1:=zab (hr.1.ext (Ext.seenL w X));clear h hn q hr B3 C3 B8 C0 B5;go_enter func127,ntmps127;go_wp2;rename_i KK B0
 have A9:∀(g:Nat→Value) (I:World) (Bx:Nat) (D:Option Addr) (E:Nat),I.heap[Bx]?=some (.cells #[.slice U j.now.info.length Y,.slice O j.now.data.length N,.slice R j.sealed.info.length Q,.slice S j.sealed.data.length Z,.slice D (newestL j.done).length E] 34 (0,0))→SegW I D (newestL j.done)→Below w.heap.size w I→KK ⟨#[.pointer (some ⟨B,0,none⟩),.int .i64 b,g 2,g 3,.string ⟨#[]⟩,.int .i64 0,g 6,g 7,g 8,g 9,g 10,g 11,g 12,g 13,g 14,g 15,g 16,g 17,g 18,g 19,g 20,g 21,g 22,g 23,g 24,g 25,g 26,g 27,g 28,g 29,g 30,g 31,g 32,g 33,g 34,.slice (some ⟨Bx,0,none⟩) 5 5,.int .i64 5,.int .i64 0,g 38,g 39,g 40,g 41,g 42,g 43,g 44,g 45,g 46,g 47,g 48,g 49,g 50,g 51,g 52,g 53,g 54,g 55,g 56,g 57,g 58],[]⟩ I:=by
  intro g I Bx D E L A1 d;apply B0;clear B0;have A4:=zab (zty j b U O R S D Y N Q Z E);obtain⟨l,A6⟩:∃l,l=[(U,Y,j.now.info),(O,N,j.now.data),(R,Q,j.sealed.info),(S,Z,j.sealed.data),(D,E,newestL j.done)]:=⟨_,rfl⟩;rw[←A6]at A4
  have B1:Hid (∀k x,l[k]?=some x→I.cell? ⟨Bx,k,none⟩=some (.slice x.1 x.2.2.length x.2.1)∧SegW I x.1 x.2.2∧x.2.2.length≤maxLen):=by
   intro k x F;rw[A6]at F
   match k,F with
   |0,F=>cases F;exact⟨(cell_of_row I _ 0 _ _ _ L).trans rfl,A3.o.1.below d,A3.o.2.2.2.1⟩
   |1,F=>cases F;exact⟨(cell_of_row I _ 1 _ _ _ L).trans rfl,A3.o.2.1.below d,A3.o.2.2.2.2.1⟩
   |2,F=>cases F;exact⟨(cell_of_row I _ 2 _ _ _ L).trans rfl,A5.o.1.below d,A5.o.2.2.2.1⟩
   |3,F=>cases F;exact⟨(cell_of_row I _ 3 _ _ _ L).trans rfl,A5.o.2.1.below d,A5.o.2.2.2.2.1⟩
   |4,F=>cases F;exact⟨(cell_of_row I _ 4 _ _ _ L).trans rfl,A1,by have E0:(newestL j.done).length≤12:=zej _ _;unfold maxLen;show(newestL j.done).length≤_;omega⟩
   |k+5,F=>simp at F
  have C4:Hid (l.length=5):=by rw[Hid,A6];rfl
  have D6:Bx<I.heap.size:=(Array.getElem?_eq_some_iff.1 L).1;have B6:=zab d;clear A6 L A1 d;go_wp2
  go_loopw [37] (fun i wr=>∃k:Nat,k≤5∧i=.int .i64 k∧Hid (zh7 b l=zh7 b (l.drop k))∧Hid (Below I.heap.size I wr)) (fun i _=>5 - (intOf i).toNat)
  case atStart=>exact⟨0,by omega,rfl,rfl,Below.refl _ _⟩
  case round=>
   obtain⟨k,hk,rfl,A2,u⟩:=hrel;by_cases hk5:k<5
   ·have E2:(k:Int)<5:=by omega
    obtain⟨x,F⟩:∃x,l[k]?=some x:=⟨_,List.getElem?_eq_getElem (by have:=C4.o;omega)⟩;obtain⟨r1,r2,r3⟩:=B1.o k x F;have c:=zac u.o D6 r1;have HS:=zab (r2.below u.o);have HM:=zab r3;have r:=zab (ztx (b:=b) F);obtain⟨xa,xc,xl⟩:=x;dsimp only at c HS HM r;clear r1 r2 r3 F;go_wp2_with fail;refine(zle xa xc xl b _ HS.o HM.o).mono ?_;rintro e wq ⟨rfl,n⟩;have A7:=zab (zae u.o n);clear n c HS u
    cases ht:zai b xl with
    |some s=>
     have HT:Hid (textJ j b=(s,0)):=by
      have h2:=r.o;rw[ht]at h2;rw[Hid,A4.o,A2.o,h2]
     have C5:((some s:Option ByteArray).getD ⟨#[]⟩)=s:=rfl;have m:(some s:Option ByteArray).isSome=true:=rfl;rw[C5,m];clear ht C5 m r;go_wp2;refine bodyPost_ret (results_tmp2 rfl _ _ _) rfl ⟨by rw[HT.o];rfl,zae B6.o A7.o⟩
    |none=>
     have C6:Hid (zh7 b l=zh7 b (l.drop (k+1))):=by
      have h2:=r.o;rw[ht]at h2;rw[Hid,A2.o,h2]
     have m:(none:Option ByteArray).isSome=false:=rfl;rw[m];clear ht m r;go_wp2
     go_roundw
     case rel=>exact⟨k+1,by omega,by go_num,C6,A7⟩
     case measure=>first|(simp[intOf];omega)|simp[intOf]
   ·have e:k=5:=by omega
    subst e
    have HT:Hid (textJ j b=(zal j.disk (25+b),readE j.disk (25+b))):=by
     rw[Hid,A4.o,A2.o,List.drop_of_length_le (by have:=C4.o;omega)];rfl
    have A8:=zab (zae B6.o u.o);have d1:=zac A8.o M c1;have d2:=zac A8.o M c2;have HD:=zab (D1.o.below A8.o);have E1:IntKind.i64.wrap (25+b)=25+b:=by rw[IntKind.wrap_i64];omega
    clear A2 A4 B1;go_wp2_with fail;refine(zk4 _ j.disk (25+b) _ HD.o).mono ?_;rintro e wq ⟨rfl,n⟩;have A7:=zab (zae A8.o n);clear n d1 d2;go_wp2;refine bodyPost_ret (results_tmp2 rfl _ _ _) rfl ⟨by rw[HT.o];rfl,A7.o⟩
 have B2:=zab A9;clear A9 B0;refine(show∀A0:Act,A0=_→Code.wp prog _ _ A0 _ from fun A0 hA0=>?_) _ rfl;have A:A0.tmps.size=59:=by rw[hA0];rfl
 have D5:A0.defers=[]:=by rw[hA0]
 have v0:A0.eval (.tmp 0)=.pointer (some ⟨B,0,none⟩):=by rw[hA0];rfl
 have v1:A0.eval (.tmp 1)=.int .i64 b:=by rw[hA0];rfl
 have v4:A0.eval (.tmp 4)=.string ⟨#[]⟩:=by rw[hA0];rfl
 have v5:A0.eval (.tmp 5)=.int .i64 0:=by rw[hA0];rfl
 clear hA0;refine ze2 (fun w'=>Below w.heap.size w w') [10,11,12,13,14,15,16,17,18,19,20,21,22,23,24,25,26,27,28,29,30,31,32,33,34,35,36,37] (zrq B j U Y O N R Q S Z ca cc) (by kernel_rfl) (by kernel_rfl) (by kernel_rfl) ((Below.refl _ _).drew) ⟨?_,?_,?_,?_,?_,?_,?_,?_,?_,?_,?_,?_,?_,?_,?_,?_,?_,?_,?_,?_,?_,?_,?_,?_,?_,?_,?_,?_,trivial⟩ ?_
 ·exact zbg v0 A (fun _=>rfl) fun ρ w' C z=>by simp only[execOp];go_simp
 ·exact zam 0 10 A (fun _ _ h=>h) (fun _=>rfl) fun ρ w' C p=>by simp only[execOp];go_simp
 ·exact zam 1 11 A (fun _ _ h=>h) (fun _=>rfl) fun ρ w' C p=>by simp only[execOp];go_simp
 ·exact zam 2 12 A (fun _ _ h=>h) (fun _=>rfl) fun ρ w' C p=>by simp only[execOp];go_simp
 ·exact zam 3 13 A (fun _ _ h=>h) (fun _=>rfl) fun ρ w' C p=>by have c0:w'.cell? ⟨B,32,none⟩=some (.slice U j.now.info.length Y):=zac C M D4.o;simp only[execOp];go_simp
 ·exact zbg v0 A (fun _=>rfl) fun ρ w' C z=>by simp only[execOp];go_simp
 ·exact zam 5 15 A (fun _ _ h=>h) (fun _=>rfl) fun ρ w' C p=>by simp only[execOp];go_simp
 ·exact zam 6 16 A (fun _ _ h=>h) (fun _=>rfl) fun ρ w' C p=>by simp only[execOp];go_simp
 ·exact zam 7 17 A (fun _ _ h=>h) (fun _=>rfl) fun ρ w' C p=>by simp only[execOp];go_simp
 ·exact zam 8 18 A (fun _ _ h=>h) (fun _=>rfl) fun ρ w' C p=>by have c0:w'.cell? ⟨B,33,none⟩=some (.slice O j.now.data.length N):=zac C M D9.o;simp only[execOp];go_simp
 ·exact zbg v0 A (fun _=>rfl) fun ρ w' C z=>by simp only[execOp];go_simp
 ·exact zam 10 20 A (fun _ _ h=>h) (fun _=>rfl) fun ρ w' C p=>by simp only[execOp];go_simp
 ·exact zam 11 21 A (fun _ _ h=>h) (fun _=>rfl) fun ρ w' C p=>by simp only[execOp];go_simp
 ·exact zam 12 22 A (fun _ _ h=>h) (fun _=>rfl) fun ρ w' C p=>by simp only[execOp];go_simp
 ·exact zam 13 23 A (fun _ _ h=>h) (fun _=>rfl) fun ρ w' C p=>by have c0:w'.cell? ⟨B,42,none⟩=some (.slice R j.sealed.info.length Q):=zac C M D3.o;simp only[execOp];go_simp
 ·exact zbg v0 A (fun _=>rfl) fun ρ w' C z=>by simp only[execOp];go_simp
 ·exact zam 15 25 A (fun _ _ h=>h) (fun _=>rfl) fun ρ w' C p=>by simp only[execOp];go_simp
 ·exact zam 16 26 A (fun _ _ h=>h) (fun _=>rfl) fun ρ w' C p=>by simp only[execOp];go_simp
 ·exact zam 17 27 A (fun _ _ h=>h) (fun _=>rfl) fun ρ w' C p=>by simp only[execOp];go_simp
 ·exact zam 18 28 A (fun _ _ h=>h) (fun _=>rfl) fun ρ w' C p=>by have c0:w'.cell? ⟨B,43,none⟩=some (.slice S j.sealed.data.length Z):=zac C M D8.o;simp only[execOp];go_simp
 ·exact zbg v0 A (fun _=>rfl) fun ρ w' C z=>by simp only[execOp];go_simp
 ·exact zam 20 30 A (fun _ _ h=>h) (fun _=>rfl) fun ρ w' C p=>by simp only[execOp];go_simp
 ·exact zam 21 31 A (fun _ _ h=>h) (fun _=>rfl) fun ρ w' C p=>by simp only[execOp];go_simp
 ·exact zam 22 32 A (fun _ _ h=>h) (fun _=>rfl) fun ρ w' C p=>by have c0:w'.cell? ⟨B,51,none⟩=some (.slice ca j.done.length cc):=zac C M D2.o;simp only[execOp];go_simp
 ·intro a w' K C J;have p33:a.eval (.tmp 33)=.slice ca j.done.length cc:=J ⟨23,.data⟩ (by simp) rfl;refine zbp 126 #[.slice ca j.done.length cc] rfl rfl (by have pf:=Act.eval_func a 126;revert p33 pf;generalize a.eval=ρ;intro p33 pf;simp only[execOp];go_simp) _ (zml ca cc j.done _ (C7.o.below C) HN.o) ?_;rintro e w2 ⟨v7,rfl,D7,B7⟩;obtain⟨D,E,rfl,C9,_⟩:=SegC.of_owns D7;refine⟨_,rfl,_,rfl,zae C B7,?_,zkr B7⟩;show zrq _ _ _ _ _ _ _ _ _ _ _ _ _ ((a.put (some 34) _).eval (.tmp 34)) w2;rw[zan K A (by decide)];exact⟨D,E,rfl,C9⟩
 ·intro a w' K C J;have B4:a.eval (.tmp 14)=.slice U j.now.info.length Y:=J ⟨4,.data⟩ (by simp) rfl;have C2:a.eval (.tmp 19)=.slice O j.now.data.length N:=J ⟨9,.data⟩ (by simp) rfl;have B9:a.eval (.tmp 24)=.slice R j.sealed.info.length Q:=J ⟨14,.data⟩ (by simp) rfl;have p29:a.eval (.tmp 29)=.slice S j.sealed.data.length Z:=J ⟨19,.data⟩ (by simp) rfl;obtain⟨D,E,p34,hS⟩:∃(D:Option Addr) (E:Nat),a.eval (.tmp 34)=.slice D (newestL j.done).length E∧SegW w' D (newestL j.done):=J ⟨24,.data⟩ (by simp) rfl;refine zfl (.slice (some ⟨w'.heap.size,0,none⟩) 5 5) rfl rfl (w':=w'.alloc (.cells #[.slice U j.now.info.length Y,.slice O j.now.data.length N,.slice R j.sealed.info.length Q,.slice S j.sealed.data.length Z,.slice D (newestL j.done).length E] 34)) (by revert B4 C2 B9 p29 p34;generalize a.eval=ρ;intro B4 C2 B9 p29 p34;simp only[execOp];go_simp) ⟨_,rfl,C.alloc C.size _,?_,zkr (zaa _ _)⟩;show zrq _ _ _ _ _ _ _ _ _ _ _ _ _ ((a.put (some 35) _).eval (.tmp 35)) _;rw[zan K A (by decide)];exact⟨_,D,E,rfl,heap_alloc_new _ _,hS.below (zaa _ _)⟩
 ·intro a w' K C J;obtain⟨Bx,D,E,p35,_⟩:∃(Bx:Nat) (D:Option Addr) (E:Nat),a.eval (.tmp 35)=.slice (some ⟨Bx,0,none⟩) 5 5∧w'.heap[Bx]?=some (.cells #[.slice U j.now.info.length Y,.slice O j.now.data.length N,.slice R j.sealed.info.length Q,.slice S j.sealed.data.length Z,.slice D (newestL j.done).length E] 34 (0,0))∧SegW w' D (newestL j.done):=J ⟨25,.data⟩ (by simp) rfl;exact zgo _ rfl rfl (by revert p35;generalize a.eval=ρ;intro p35;simp only[execOp];go_simp) K A C rfl
 ·intro a w' K C J;exact zgo _ rfl rfl (by have C1:=Act.eval_const a (.int .i64 0);revert C1;generalize a.eval=ρ;intro C1;simp only[execOp];go_simp) K A C rfl
 ·intro a W K C J;obtain⟨Bx,D,E,p35,L,A1⟩:∃(Bx:Nat) (D:Option Addr) (E:Nat),a.eval (.tmp 35)=.slice (some ⟨Bx,0,none⟩) 5 5∧W.heap[Bx]?=some (.cells #[.slice U j.now.info.length Y,.slice O j.now.data.length N,.slice R j.sealed.info.length Q,.slice S j.sealed.data.length Z,.slice D (newestL j.done).length E] 34 (0,0))∧SegW W D (newestL j.done):=J 25 (by decide);have p36:a.eval (.tmp 36)=.int .i64 5:=J 26 (by decide);have p37:a.eval (.tmp 37)=.int .i64 0:=J 27 (by decide);have C8:a.tmps.size=59:=K.size.trans A;have f0:a.eval (.tmp 0)=.pointer (some ⟨B,0,none⟩):=(K.other 0 rfl).trans v0;have f1:a.eval (.tmp 1)=.int .i64 b:=(K.other 1 rfl).trans v1;have f4:a.eval (.tmp 4)=.string ⟨#[]⟩:=(K.other 4 rfl).trans v4;have f5:a.eval (.tmp 5)=.int .i64 0:=(K.other 5 rfl).trans v5;have y:a=⟨#[_,_,_,_,_,_,_,_,_,_,_,_,_,_,_,_,_,_,_,_,_,_,_,_,_,_,_,_,_,_,_,_,_,_,_,_,_,_,_,_,_,_,_,_,_,_,_,_,_,_,_,_,_,_,_,_,_,_,_],[]⟩:=zcn a 59 C8 (K.defers.trans D5);dsimp only at y;rw[f0,f1,f4,f5,p35,p36,p37]at y;show KK a _;exact(congrArg (fun x=>KK x _) y).mpr (B2.o (fun k=>a.eval (.tmp k)) _ Bx D E L A1 C)
theorem z0h(B:Nat)(X:List Nat)(j:Jn)(w:World)(b:Int)(h:JAt w B X j)(hn:j.done.length≤maxLen):
  Calls prog 87 #[.pointer (some ⟨B,0,none⟩),.int .i64 b] w (zdj w B X (j,zj0 j b)):=by
 have y:=zab h;have A3:=h.lt;have O:=h.1;have x:=zab hn;clear h hn;have A1:¬w.heap.size=B:=by omega
 have N:w.heap.size≠B:=by omega
 obtain⟨L,K⟩:∃L,L=w.alloc (.cells #[.int .i64 0,.int .i64 0,.string ⟨#[]⟩] 31):=⟨_,rfl⟩;have J:Hid (JAt L B (w.heap.size::X) j):=by rw[K];exact y.o.more (zaa _ _) (Nat.le_refl _)
 have D:Hid (ButL [B] w.heap.size w L):=by rw[K];exact ButL.of_below (zaa _ _)
 have U:Hid (L.heap[w.heap.size]?=some (.cells #[.int .i64 0,.int .i64 0,.string ⟨#[]⟩] 31 (0,0))):=by rw[K];exact heap_alloc_new _ _
 have M:w.heap.size<L.heap.size:=by rw[K];simp
 have c:=zab K;clear K;by_cases h0:b<0
 ·have a:Hid ((j,zj0 j b)=(j,zat 4)):=by rw[Hid,zj0,if_pos (.inl h0)]
  go_enter func87,ntmps87;go_wp2_with fail;rw[←c.o];clear h0;refine(zav 4 _).mono ?_;rintro e Z ⟨rfl,A⟩;have C:=zab (zad A M U.o);have I:=zab (J.o.below A);have F:=zab (D.o.trans (Y:=[]) (ButL.of_below A) D.o.size (by simp));clear A;obtain⟨⟨n,q,m⟩,p⟩:=zbn C.o;go_wp2;exact zbd a.o C.o I.o F.o N O fun W u0 u1 u2=>by simp[results,results87,go_sem,u0,u1,u2]
 ·by_cases h12:11<b
  ·have a:Hid ((j,zj0 j b)=(j,zat 4)):=by rw[Hid,zj0,if_pos (.inr h12)]
   have S:b≥12:=by omega
   go_enter func87,ntmps87;go_wp2_with fail;rw[←c.o];clear h0 h12 S;refine(zav 4 _).mono ?_;rintro e Z ⟨rfl,A⟩;have C:=zab (zad A M U.o);have I:=zab (J.o.below A);have F:=zab (D.o.trans (Y:=[]) (ButL.of_below A) D.o.size (by simp));clear A;obtain⟨⟨n,q,m⟩,p⟩:=zbn C.o;go_wp2;exact zbd a.o C.o I.o F.o N O fun W u0 u1 u2=>by simp[results,results87,go_sem,u0,u1,u2]
  ·have Q:Hid (zj0 j b=if(textJ j b).2=0 then⟨0,j.role b.toNat,(textJ j b).1⟩ else zat (textJ j b).2):=by rw[Hid,zj0,if_neg (by omega)]
   have u:0≤b:=by omega
   have s:b≤11:=by omega
   have S:¬(b≥12):=by omega
   have A0:b<12:=by omega
   go_enter func87,ntmps87;go_wp2_with fail;rw[←c.o];refine(z0g B (w.heap.size::X) j L b J.o x.o u s).mono ?_;rintro e Z ⟨rfl,A⟩;have R:=zab (J.o.below A);have i:Hid (ButL [B] w.heap.size w Z):=D.o.trans (Y:=[]) (ButL.of_below A) D.o.size (by simp);have l:=zab (zad A M U.o);have A4:L.heap.size≤Z.heap.size:=A.size;have r:w.heap.size<Z.heap.size:=by omega
   clear A;by_cases he:(textJ j b).2=0
   ·have d:Hid ((j,zj0 j b)=(j,⟨0,j.role b.toNat,(textJ j b).1⟩)):=by rw[Hid,Q.o,if_pos he]
    rw[he];clear he Q;generalize (textJ j b).1=TT at *;obtain⟨k,rfl⟩:∃k:Nat,b=(k:Int):=⟨b.toNat,by omega⟩;obtain⟨e1,_,_,_⟩:=R.o.role k (by omega);rw[Int.toNat_natCast]at d;have C:=l;have I:=R;have F:=i;obtain⟨⟨n,q,m⟩,p⟩:=zbn C.o;go_wp2;exact zbd d.o C.o I.o F.o N O fun W u0 u1 u2=>by simp[results,results87,go_sem,u0,u1,u2]
   ·have a:Hid ((j,zj0 j b)=(j,zat (textJ j b).2)):=by rw[Hid,Q.o,if_neg he]
    have A2:((textJ j b).2 !=0)=true:=by simpa using he
    clear he Q;generalize (textJ j b).2=E at *;have J:=R;have D:=i;have U:=l;have M:=r;go_wp2_with fail;refine(zav E _).mono ?_;rintro e w3 ⟨rfl,A⟩;have C:=zab (zad A M U.o);have I:=zab (J.o.below A);have F:=zab (D.o.trans (Y:=[]) (ButL.of_below A) D.o.size (by simp));clear A;obtain⟨⟨n,q,m⟩,p⟩:=zbn C.o;go_wp2;exact zbd a.o C.o I.o F.o N O fun W u0 u1 u2=>by simp[results,results87,go_sem,u0,u1,u2]
theorem zt1(t:Tx)(ua:Option Addr)(uc:Nat)(ub:Option Addr)(ud:Nat)(ue:Option Addr)(uf:Nat)(w:World):
  Calls prog 124 #[.agg #[.int .i64 t.seq,.slice ua t.info.length uc,.slice ub t.data.length ud,.slice ue t.rev.length uf,.bool t.h0.on,.int .i64 t.h0.left,.bool t.h1.on,.int .i64 t.h1.left,.bool t.h2.on,.int .i64 t.h2.left]] w fun e w'=>e=.returned (.bool (zfd t))∧Below w.heap.size w w':=by
 by_cases h1:t.info.length=0
 ·by_cases h2:t.data.length=0
  ·by_cases h3:t.rev.length=0
   ·have A:Hid (zfd t=true):=by simp[Hid,zfd,h1,h2,h3]
    rw[h1,h2,h3];clear h1 h2 h3;go_enter func124,ntmps124;go_wp2;go_ret;exact⟨by rw[A.o];rfl,zaa _ _⟩
   ·have A:Hid (zfd t=false):=by simp[Hid,zfd,h1,h2,h3]
    have A5:(t.rev.length==0)=false:=by simpa using h3
    have A1:((t.rev.length:Int)==0)=false:=by simpa using h3
    rw[h1,h2];clear h1 h2 h3;go_enter func124,ntmps124;go_wp2;go_ret;exact⟨by rw[A.o];rfl,zaa _ _⟩
  ·have A:Hid (zfd t=false):=by simp[Hid,zfd,h1,h2]
   have A2:(t.data.length==0)=false:=by simpa using h2
   have A0:((t.data.length:Int)==0)=false:=by simpa using h2
   rw[h1];clear h1 h2;go_enter func124,ntmps124;go_wp2;go_ret;exact⟨by rw[A.o];rfl,zaa _ _⟩
 ·have A:Hid (zfd t=false):=by simp[Hid,zfd,h1]
  have A4:(t.info.length==0)=false:=by simpa using h1
  have A3:((t.info.length:Int)==0)=false:=by simpa using h1
  clear h1;go_enter func124,ntmps124;go_wp2;go_ret;exact⟨by rw[A.o];rfl,zaa _ _⟩
theorem zhg{w:World}{X:List Nat}{base:Nat}{e:TypeId}{size:Nat}{v:Value}{n:Nat}{xs:List Value}(h:w.ownsRow base e size v n xs)(hX:∀x∈X,x<base):(zau w X).ownsRow base e size v n xs:=by
 refine⟨h.1,?_⟩;rcases h.2 with h0|⟨g,cap,cur,hv,hg,hh,r⟩
 ·exact .inl h0
 ·exact .inr ⟨g,cap,cur,hv,hg,(zlp (zpy hX hg)).trans hh,r⟩
theorem ScPost.foundH{w w':World}{d:Dk}{e:Ending}(h:ScPost w w' d e){X:List Nat}(hX:∀x∈X,x<w.heap.size):∃va vc,e=.returned (.tuple #[.agg #[.slice va (fndL d).length vc,.int .i64 (fndN d),.int .i64 (fndP d)],.int .i64 (scanE d)])∧SegTx (zau w' X) va (fndL d)∧Below w.heap.size w w':=by
 obtain⟨v,rfl,hb,O,M⟩:=h;by_cases hE:scanE d=0
 ·obtain⟨q,va,vc,rfl,C,Q,F⟩:=M hE;have E:=zhg Q hX
  have I:∀x∈q,OwnR (zau w' X) w.heap.size x:=fun x hx=>by
   obtain⟨L,K,J⟩:=F x hx;exact⟨zhg L hX,zhg K hX,zhg J hX⟩
  obtain⟨a,c,D,N,_⟩:=SegTx.of_owns E I;simp only[Value.slice.injEq]at D;obtain⟨rfl,_,rfl⟩:=D;have B:fndL d=q.map (·.t):=by rw[fndL,if_pos hE,C]
  have A:q.length=(zbw d).1.length:=by rw[←C,List.length_map]
  refine⟨va,vc,?_,by rw[B];exact N,hb⟩;rw[B,fndN,fndP,if_pos hE,if_pos hE,List.length_map,A]
 ·rw[O hE];refine⟨none,0,?_,.inl (by rw[fndL,if_neg hE]),hb⟩;rw[fndL,fndN,fndP,if_neg hE,if_neg hE,if_neg hE];rfl
def zpl (B:Nat)(D:Nat)(va:Option Addr)(vc:Nat)(d:Dk)(cs:List (Int×ByteArray)):Nat→Value→World→Prop
 |0,v,_=>v=.pointer (some ⟨B,0,none⟩)
 |1,v,_=>v=.pointer (some ⟨D,0,none⟩)
 |2,v,_=>v=.slice va (fndL d).length vc
 |3,v,w=>∃a c,v=.slice a cs.length c∧SegW w a cs
 |4,v,_=>v=.pointer (some ⟨D,2,none⟩)
 |5,v,_=>v=.int .i64 (fndP d)
 |6,v,_=>v=.pointer (some ⟨D,1,none⟩)
 |7,v,_=>v=.int .i64 (fndN d)
 |_,_,_=>True
theorem zpm{B:Nat}{D:Nat}{va:Option Addr}{vc:Nat}{d:Dk}{cs:List (Int×ByteArray)}{w w':World}(hb:Below w.heap.size w w'){i:Nat}:∀kk uu,kk≠i→zpl B D va vc d cs kk uu w→zpl B D va vc d cs kk uu w':=by
 intro kk uu _ h
 match kk,h with
 |0,h|1,h|2,h=>exact h
 |3,⟨a,c,h1,h2⟩=>exact⟨a,c,h1,h2.below hb⟩
 |4,h|5,h|6,h|7,h=>exact h
 |_+8,_=>exact trivial
theorem z0k(B:Nat)(X:List Nat)(j:Jn)(w:World)(h:JAt w B X j)(hX:∀x∈X,x<w.heap.size)(hFew0:j.down=true→j.steps=[]→∀t∈fndL j.disk,Few t):
  Calls prog 46 #[.pointer (some ⟨B,0,none⟩)] w (zdj w B X (zb8 j)):=by
 have HJ:=zab h;have F2:=h.lt;have r:=h.1;have HX:=zab hX;obtain⟨_,da,dc,db,dd,na,nc,nb,nd,ne,nf,sa,sc,sb,sd,se,sf,ca,cc,fa,fc,ta,tc,N,hr⟩:=h;have c1:w.cell? ⟨B,1,none⟩=some (.slice da j.disk.safe.length dc):=zak N 1;have c2:w.cell? ⟨B,2,none⟩=some (.slice db j.disk.wr.length dd):=zak N 2;have c6:w.cell? ⟨B,6,none⟩=some (.bool j.down):=zak N 6;have E3:=zab (hr.1.ext (Ext.seenL w X));clear N hr hX;have F1:¬w.heap.size=B:=by omega
 cases hd:j.down with
 |false=>
  have HE:Hid (zb8 j=(j,zat 9)):=by rw[Hid,zb8,if_pos (.inl hd)]
  rw[hd]at c6;clear hd;go_enter func46,ntmps46;go_wp2_with fail;obtain⟨c,J⟩:∃c,c=w.alloc (.cells #[.int .i64 0,.int .i64 0,.string ⟨#[]⟩] 31):=⟨_,rfl⟩;have F:Hid (JAt c B (w.heap.size::X) j):=by rw[J];exact HJ.o.more (zaa _ _) (Nat.le_refl _)
  have C:Hid (ButL [B] w.heap.size w c):=by rw[J];exact ButL.of_below (zaa _ _)
  have m:Hid (c.heap[w.heap.size]?=some (.cells #[.int .i64 0,.int .i64 0,.string ⟨#[]⟩] 31 (0,0))):=by rw[J];exact heap_alloc_new _ _
  have I:w.heap.size<c.heap.size:=by rw[J];simp
  have Q:w.heap.size≠B:=by omega
  rw[←J];clear J;refine(zav 9 _).mono ?_;rintro e w2 ⟨rfl,A⟩;have D:=zab (zad A I m.o);have U:=zab (F.o.below A);have S:=zab (C.o.trans (Y:=[]) (ButL.of_below A) C.o.size (by simp));clear A;obtain⟨⟨y0,y1,y2⟩,yf⟩:=zbn D.o;go_wp2;exact zbd HE.o D.o U.o S.o Q r fun W u0 u1 u2=>by simp[results,results46,go_sem,u0,u1,u2]
 |true=>
  rw[hd]at c6;go_enter func46,ntmps46;go_wp2_with fail;obtain⟨c,J⟩:∃c,c=w.alloc (.cells #[.int .i64 0,.int .i64 0,.string ⟨#[]⟩] 31):=⟨_,rfl⟩;have F:Hid (JAt c B (w.heap.size::X) j):=by rw[J];exact HJ.o.more (zaa _ _) (Nat.le_refl _)
  have C:Hid (ButL [B] w.heap.size w c):=by rw[J];exact ButL.of_below (zaa _ _)
  have m:Hid (c.heap[w.heap.size]?=some (.cells #[.int .i64 0,.int .i64 0,.string ⟨#[]⟩] 31 (0,0))):=by rw[J];exact heap_alloc_new _ _
  have I:w.heap.size<c.heap.size:=by rw[J];simp
  have Q:w.heap.size≠B:=by omega
  rw[←J];clear J;refine(zfn B (w.heap.size::X) j c F.o).mono ?_;rintro e M ⟨rfl,rfl⟩;by_cases hs:0<j.steps.length
  ·have HE:Hid (zb8 j=(j,zat 9)):=by rw[Hid,zb8,if_pos (.inr (by intro e;rw[e]at hs;simp at hs))]
   have A1:decide (0<j.steps.length)=true:=by simpa using hs
   rw[A1];clear hs A1 hd;go_wp2_with fail;refine(zav 9 _).mono ?_;rintro e w2 ⟨rfl,A⟩;have D:=zab (zad A I m.o);have U:=zab (F.o.below A);have S:=zab (C.o.trans (Y:=[]) (ButL.of_below A) C.o.size (by simp));clear A;obtain⟨⟨y0,y1,y2⟩,yf⟩:=zbn D.o;go_wp2;exact zbd HE.o D.o U.o S.o Q r fun W u0 u1 u2=>by simp[results,results46,go_sem,u0,u1,u2]
  ·have A1:decide (0<j.steps.length)=false:=by simpa using hs
   have C1:j.steps=[]:=List.eq_nil_of_length_eq_zero (by omega);have C9:¬(j.down=false∨j.steps≠[]):=by simp[hd,C1]
   have B7:=hFew0 hd C1;clear hFew0;have D5:=zab C9;rw[A1];clear hs A1 hd C1 C9 c1 c2 c6;obtain⟨_,ka,kc,kb,kd,na,nc,nb,nd,ne,nf,sa,sc,sb,sd,se,sf,ca,cc,fa,fc,ta,tc,N,hr⟩:=id F.o;have c1:M.cell? ⟨B,1,none⟩=some (.slice ka j.disk.safe.length kc):=zak N 1;have c2:M.cell? ⟨B,2,none⟩=some (.slice kb j.disk.wr.length kd):=zak N 2;have C8:=zab (hr.1.ext (Ext.seenL M _));clear N hr E3;go_wp2_with fail;refine(z2c _ _ _ _ j.disk _ C8.o).mono ?_;intro e K hP
   obtain⟨va,vc,rfl,D3,A2⟩:=hP.foundH (X:=w.heap.size::X) (fun x hx=>by
    rcases List.mem_cons.1 hx with rfl|hx
    ·exact I
    ·have:=HX.o x hx;omega)
   have A5:=zab D3;have A3:=zab (F.o.below A2);have B1:=zab (zad A2 I m.o);have s:=zab (C.o.trans (Y:=[]) (ButL.of_below A2) C.o.size (by simp));have A9:w.heap.size<K.heap.size:=Nat.lt_of_lt_of_le I A2.size;clear hP D3 A2 F m C c1 c2 C8 I HJ;obtain⟨d,hd⟩:∃d,d=j.disk:=⟨_,rfl⟩;rw[←hd]at A5 B7⊢;have C7:=zab hd;clear hd
   have E6:Hid (∀x∈w.heap.size::X,x<K.heap.size):=fun x hx=>by
    rcases List.mem_cons.1 hx with rfl|hx
    ·exact A9
    ·have:=HX.o x hx;omega
   by_cases hE:scanE d=0
   ·have A8:Hid (zb8 j=if checkE (newestL (fndL d)) (fndP d) (fndN d)=0 then({j with work:=11,steps:=zbr (newestL (fndL d)) (fndP d) (fndN d),fL:=fndL d,fN:=fndN d,fP:=fndP d},zat 0) else(j,zat (checkE (newestL (fndL d)) (fndP d) (fndN d)))):=by
     rw[Hid,zb8,if_neg D5.o,←C7.o,if_pos hE]
    rw[hE];clear hE;go_wp2;rename_i KK B6;obtain⟨O,b⟩:∃O,O=K.alloc (.cells #[.slice va (fndL d).length vc,.int .i64 (fndN d),.int .i64 (fndP d)] 90):=⟨_,rfl⟩;have A:Below K.heap.size K O:=by rw[b];exact zaa _ _
    have B3:=zab (A5.o.ext (Ext.freshL A));have C4:=zab (A3.o.below A);have C5:=zab (zad A A9 B1.o);have B4:=zab (s.o.trans (Y:=[]) (ButL.of_below A) s.o.size (by simp));have KF:Hid (O.heap[K.heap.size]?=some (.cells #[.slice va (fndL d).length vc,.int .i64 (fndN d),.int .i64 (fndP d)] 90 (0,0))):=by rw[b];exact heap_alloc_new _ _
    have B0:K.heap.size<O.heap.size:=by rw[b];simp
    obtain⟨⟨y0,y1,y2⟩,_⟩:=zbn KF.o;have Y0:=zab y0;have Y1:=zab y1;have Y2:=zab y2;have F0:B<K.heap.size:=A3.o.lt;rw[←b];clear b A y0 y1 y2 A5 A3 B1 s
    have B2:∀(g:Nat→Value) (R:World),JAt R B (w.heap.size::X) (zdx j 11 (newestL (fndL d)) (fndP d) (fndN d)).1→ButL [B] O.heap.size O R→KK ⟨#[.pointer (some ⟨B,0,none⟩),g 1,.pointer (some ⟨w.heap.size,0,none⟩),.pointer (some ⟨K.heap.size,0,none⟩),.int .i64 (zdx j 11 (newestL (fndL d)) (fndP d) (fndN d)).2,g 5,g 6,g 7,g 8,g 9,g 10,g 11,g 12,g 13,g 14,g 15,g 16,g 17,g 18,g 19,g 20,g 21,g 22,g 23,g 24,g 25,g 26,g 27,g 28,g 29,g 30,g 31,g 32,g 33,g 34,g 35,g 36,g 37,g 38,g 39,g 40,g 41,g 42,g 43],[]⟩ R:=by
     intro g R hJ u;apply B6;clear B6;have C0:=zab ((u.block _ (show w.heap.size<O.heap.size by omega) (by simp;omega)).trans C5.o);have C3:=zab ((u.block _ B0 (by simp;omega)).trans KF.o);have D4:=zab (B3.o.ext (Ext.butL (u.wider (Y:=w.heap.size::X) (by simp[r]))));have B9:=zab (B4.o.trans (Y:=[B]) u B4.o.size (by simp));have A6:w.heap.size<R.heap.size:=by have:=u.size;omega
     have Q:w.heap.size≠B:=by omega
     have i:=zab hJ;clear hJ u Y0 Y1 Y2 B3 C4 C5 B4 KF;by_cases hc:checkE (newestL (fndL d)) (fndP d) (fndN d)=0
     ·have A4:zdx j 11 (newestL (fndL d)) (fndP d) (fndN d)=({j with work:=11,steps:=zbr (newestL (fndL d)) (fndP d) (fndN d)},0):=by rw[zdx,if_pos hc]
      have HE:Hid (zb8 j=({j with work:=11,steps:=zbr (newestL (fndL d)) (fndP d) (fndN d),fL:=fndL d,fN:=fndN d,fP:=fndP d},zat 0)):=by rw[Hid,A8.o,if_pos hc]
      rw[A4]at i⊢;clear A4 hc A8;dsimp only at i⊢;obtain⟨_,da,dc,db,dd,na,nc,nb,nd,ne,nf,sa,sc,sb,sd,se,sf,ca,cc,fa,fc,ta,tc,N,_⟩:=id i.o;have E8:R.cell? ⟨B,52,none⟩=some (.slice fa j.fL.length fc):=zak N 52;have E4:R.cell? ⟨B,53,none⟩=some (.int .i64 j.fN):=zak N 53;have E9:R.cell? ⟨B,54,none⟩=some (.int .i64 j.fP):=zak N 54;have D8:R.frozen? ⟨B,52,none⟩=false:=frozen_of_row R _ _ _ _ N;have E0:R.frozen? ⟨B,53,none⟩=false:=frozen_of_row R _ _ _ _ N;have D9:R.frozen? ⟨B,54,none⟩=false:=frozen_of_row R _ _ _ _ N;clear N;obtain⟨⟨y0,y1,y2⟩,yf⟩:=zbn C3.o;go_wp2_with fail;obtain⟨W4,y⟩:∃W4,W4=((R.setCell ⟨B,52,none⟩ (.slice va (fndL d).length vc)).setCell ⟨B,53,none⟩ (.int .i64 (fndN d))).setCell ⟨B,54,none⟩ (.int .i64 (fndP d)):=⟨_,rfl⟩;have F:Hid (JAt W4 B (w.heap.size::X) {j with work:=11,steps:=zbr (newestL (fndL d)) (fndP d) (fndN d),fL:=fndL d,fN:=fndN d,fP:=fndP d}):=by rw[y];exact i.o.putFound (fndN d) (fndP d) D4.o
      have C:Hid (ButL [B] w.heap.size w W4):=by rw[y];exact((B9.o.set (.inl (by simp)) 52 _).set (.inl (by simp)) 53 _).set (.inl (by simp)) 54 _
      have m:Hid (W4.heap[w.heap.size]?=some (.cells #[.int .i64 0,.int .i64 0,.string ⟨#[]⟩] 31 (0,0))):=by rw[y];exact(Below.heap_setCell _ _ _ _ Q).trans ((Below.heap_setCell _ _ _ _ Q).trans ((Below.heap_setCell _ _ _ _ Q).trans C0.o))
      have I:w.heap.size<W4.heap.size:=by rw[y];simpa[World.setCell] using A6
      rw[←y];clear y y0 y1 y2 yf E8 E4 E9 D8 E0 D9 C0 C3 D4 B9 i A6;refine(zav 0 _).mono ?_;rintro e w2 ⟨rfl,A⟩;have D:=zab (zad A I m.o);have U:=zab (F.o.below A);have S:=zab (C.o.trans (Y:=[]) (ButL.of_below A) C.o.size (by simp));clear A;obtain⟨⟨y0,y1,y2⟩,yf⟩:=zbn D.o;go_wp2;exact zbd HE.o D.o U.o S.o Q r fun W u0 u1 u2=>by simp[results,results46,go_sem,u0,u1,u2]
     ·have A4:zdx j 11 (newestL (fndL d)) (fndP d) (fndN d)=(j,checkE (newestL (fndL d)) (fndP d) (fndN d)):=by rw[zdx,if_neg hc]
      have HE:Hid (zb8 j=(j,zat (checkE (newestL (fndL d)) (fndP d) (fndN d)))):=by rw[Hid,A8.o,if_neg hc]
      rw[A4]at i⊢;dsimp only at i⊢;have F3:(checkE (newestL (fndL d)) (fndP d) (fndN d)==0)=false:=by simpa using hc
      clear A4 hc A8;generalize checkE (newestL (fndL d)) (fndP d) (fndN d)=E at *;go_wp2_with fail;have F:=i;have C:=B9;have m:=C0;have I:=A6;refine(zav E _).mono ?_;rintro e w2 ⟨rfl,A⟩;have D:=zab (zad A I m.o);have U:=zab (F.o.below A);have S:=zab (C.o.trans (Y:=[]) (ButL.of_below A) C.o.size (by simp));clear A;obtain⟨⟨y0,y1,y2⟩,yf⟩:=zbn D.o;go_wp2;exact zbd HE.o D.o U.o S.o Q r fun W u0 u1 u2=>by simp[results,results46,go_sem,u0,u1,u2]
    have C2:=zab B2;clear B2 B6;refine(show∀A0:Act,A0=_→Code.wp prog _ _ A0 _ from fun A0 hA0=>?_) _ rfl;have Z:A0.tmps.size=44:=by rw[hA0];rfl
    have E7:A0.defers=[]:=by rw[hA0]
    have v0:A0.eval (.tmp 0)=.pointer (some ⟨B,0,none⟩):=by rw[hA0];rfl
    have v2:A0.eval (.tmp 2)=.pointer (some ⟨w.heap.size,0,none⟩):=by rw[hA0];rfl
    have v3:A0.eval (.tmp 3)=.pointer (some ⟨K.heap.size,0,none⟩):=by rw[hA0];rfl
    clear hA0;refine zbi 8 (fun M=>Below O.heap.size O M) [27,28,29,30,31,32,33,34] (zpl B K.heap.size va vc d (newestL (fndL d))) (by kernel_rfl) (by kernel_rfl) (by kernel_rfl) (by kernel_rfl) (by decide) ((Below.refl _ _).drew) ⟨?_,?_,?_,?_,?_,?_,?_,?_,trivial⟩ ?_
    ·exact zbg v0 Z (fun _=>rfl) fun ρ M L z=>by simp only[execOp];go_simp
    ·exact zbg v3 Z (fun _=>rfl) fun ρ M L z=>by simp only[execOp];go_simp
    ·exact zam 1 28 Z (fun _ _ h=>h) (fun _=>rfl) fun ρ M L p=>by have c0:M.cell? ⟨K.heap.size,0,none⟩=some (.slice va (fndL d).length vc):=zac L B0 Y0.o;simp only[execOp];go_simp
    ·intro a M hF L hp;have p29:a.eval (.tmp 29)=.slice va (fndL d).length vc:=hp ⟨2,.data⟩ (by simp) rfl;refine zbp 78 #[.slice va (fndL d).length vc] rfl rfl (by have pf:=Act.eval_func a 78;revert p29 pf;generalize a.eval=ρ;intro p29 pf;simp only[execOp];go_simp) _ (zxv va vc (fndL d) _ ((B3.o.ext (Ext.seenL O (w.heap.size::X))).below L) (by have:=zou d;omega) B7) ?_;rintro e w2 ⟨v7,rfl,E5,C6⟩;obtain⟨ya,yc,rfl,B5,_⟩:=SegC.of_owns E5;refine⟨_,rfl,_,rfl,zae L C6,?_,zpm C6⟩;show zpl _ _ _ _ _ _ _ ((a.put (some 30) _).eval (.tmp 30)) w2;rw[zan hF Z (by decide)];exact⟨ya,yc,rfl,B5⟩
    ·exact zbg v3 Z (fun _=>rfl) fun ρ M L z=>by simp only[execOp];go_simp
    ·exact zam 4 31 Z (fun _ _ h=>h) (fun _=>rfl) fun ρ M L p=>by have c0:M.cell? ⟨K.heap.size,2,none⟩=some (.int .i64 (fndP d)):=zac L B0 Y2.o;simp only[execOp];go_simp
    ·exact zbg v3 Z (fun _=>rfl) fun ρ M L z=>by simp only[execOp];go_simp
    ·exact zam 6 33 Z (fun _ _ h=>h) (fun _=>rfl) fun ρ M L p=>by have c0:M.cell? ⟨K.heap.size,1,none⟩=some (.int .i64 (fndN d)):=zac L B0 Y1.o;simp only[execOp];go_simp
    ·intro a W hF L hp;have p0:a.eval (.tmp 27)=.pointer (some ⟨B,0,none⟩):=hp 0 (by decide);obtain⟨ya,yc,p3,B5⟩:∃ya yc,a.eval (.tmp 30)=.slice ya (newestL (fndL d)).length yc∧SegW W ya (newestL (fndL d)):=hp 3 (by decide);have p5:a.eval (.tmp 32)=.int .i64 (fndP d):=hp 5 (by decide);have p7:a.eval (.tmp 34)=.int .i64 (fndN d):=hp 7 (by decide);show wpOps prog _ _ [8,9] a W;rw[wpOps_cons];refine zbp 77 #[.pointer (some ⟨B,0,none⟩),.int .i64 11,.slice ya (newestL (fndL d)).length yc,.int .i64 (fndP d),.int .i64 (fndN d)] rfl rfl (by have pf:=Act.eval_func a 77;have D1:=Act.eval_const a (.int .i64 11);revert p0 p3 p5 p7 pf D1;generalize a.eval=ρ;intro p0 p3 p5 p7 pf D1;simp only[execOp];go_simp) _ (zrb B (w.heap.size::X) j W (C4.o.below L) (fun x hx=>Nat.lt_of_lt_of_le (E6.o x hx) (by have:=L.size;omega)) 11 ya yc (newestL (fndL d)) B5 (by have:=zej (newestF (fndL d)) 12;unfold newestL;omega) (fndP d) (fndN d)) ?_;rintro e w5 ⟨rfl,E1,E2⟩;refine⟨_,rfl,?_⟩;rw[wpOps_cons];have D2:a.tmps.size=44:=hF.size.trans Z;obtain⟨n,l⟩:∃n,n=a.put (some 35) (.int .i64 (zdx j 11 (newestL (fndL d)) (fndP d) (fndN d)).2):=⟨_,rfl⟩;have D6:n.eval (.tmp 35)=.int .i64 (zdx j 11 (newestL (fndL d)) (fndP d) (fndN d)).2:=by rw[l];exact Act.eval_put_same _ _ _ (by rw[D2];decide)
     have B8:n.tmps.size=44:=by rw[l,Act.size_put];exact D2
     have D7:n.defers=[]:=by rw[l,Act.defers_put'];exact hF.defers.trans E7
     have o0:n.eval (.tmp 0)=.pointer (some ⟨B,0,none⟩):=by rw[l,Act.eval_put_ne _ _ _ _ (by decide)];exact(hF.other 0 rfl).trans v0
     have o2:n.eval (.tmp 2)=.pointer (some ⟨w.heap.size,0,none⟩):=by rw[l,Act.eval_put_ne _ _ _ _ (by decide)];exact(hF.other 2 rfl).trans v2
     have o3:n.eval (.tmp 3)=.pointer (some ⟨K.heap.size,0,none⟩):=by rw[l,Act.eval_put_ne _ _ _ _ (by decide)];exact(hF.other 3 rfl).trans v3
     show wpOp prog _ _ _ _ (a.put (some 35) (.int .i64 (zdx j 11 (newestL (fndL d)) (fndP d) (fndN d)).2)) w5;rw[←l];clear l;refine zar (.int .i64 (zdx j 11 (newestL (fndL d)) (fndP d) (fndN d)).2) rfl rfl (by revert D6;generalize n.eval=ρ;intro D6;simp only[execOp];go_simp) ?_;obtain⟨a2,q⟩:∃a2,a2=n.put (some 4) (.int .i64 (zdx j 11 (newestL (fndL d)) (fndP d) (fndN d)).2):=⟨_,rfl⟩;have f4:a2.eval (.tmp 4)=.int .i64 (zdx j 11 (newestL (fndL d)) (fndP d) (fndN d)).2:=by rw[q];exact Act.eval_put_same _ _ _ (by rw[B8];decide)
     have f0:a2.eval (.tmp 0)=.pointer (some ⟨B,0,none⟩):=by rw[q,Act.eval_put_ne _ _ _ _ (by decide)];exact o0
     have f2:a2.eval (.tmp 2)=.pointer (some ⟨w.heap.size,0,none⟩):=by rw[q,Act.eval_put_ne _ _ _ _ (by decide)];exact o2
     have f3:a2.eval (.tmp 3)=.pointer (some ⟨K.heap.size,0,none⟩):=by rw[q,Act.eval_put_ne _ _ _ _ (by decide)];exact o3
     have A7:a2=⟨#[_,_,_,_,_,_,_,_,_,_,_,_,_,_,_,_,_,_,_,_,_,_,_,_,_,_,_,_,_,_,_,_,_,_,_,_,_,_,_,_,_,_,_,_],[]⟩:=zcn a2 44 (by rw[q,Act.size_put];exact B8) (by rw[q,Act.defers_put'];exact D7);dsimp only at A7;rw[f0,f2,f3,f4]at A7;show KK (n.put (some 4) (.int .i64 (zdx j 11 (newestL (fndL d)) (fndP d) (fndN d)).2)) w5;rw[←q];exact(congrArg (fun x=>KK x w5) A7).mpr (C2.o (fun k=>a2.eval (.tmp k)) w5 E1 ((ButL.of_below L).trans (Y:=[B]) E2 L.size (by simp)))
   ·have HE:Hid (zb8 j=(j,zat (scanE d))):=by rw[Hid,zb8,if_neg D5.o,←C7.o,if_neg hE]
    have F4:(scanE d !=0)=true:=by simpa using hE
    clear hE;generalize scanE d=E at *;go_wp2_with fail;obtain⟨O,b⟩:∃O,O=K.alloc (.cells #[.slice va (fndL d).length vc,.int .i64 (fndN d),.int .i64 (fndP d)] 90):=⟨_,rfl⟩;have A:Below K.heap.size K O:=by rw[b];exact zaa _ _
    have F:=zab (A3.o.below A);have m:=zab (zad A A9 B1.o);have C:=zab (s.o.trans (Y:=[]) (ButL.of_below A) s.o.size (by simp));have I:w.heap.size<O.heap.size:=Nat.lt_of_lt_of_le A9 A.size;rw[←b];clear b A A3 B1 s;refine(zav E _).mono ?_;rintro e w2 ⟨rfl,A⟩;have D:=zab (zad A I m.o);have U:=zab (F.o.below A);have S:=zab (C.o.trans (Y:=[]) (ButL.of_below A) C.o.size (by simp));clear A;obtain⟨⟨y0,y1,y2⟩,yf⟩:=zbn D.o;go_wp2;exact zbd HE.o D.o U.o S.o Q r fun W u0 u1 u2=>by simp[results,results46,go_sem,u0,u1,u2]
def zvh (B:Nat)(ca:Option Addr)(cc:Nat)(j:Jn):Nat→Value→World→Prop
 |0,v,_=>v=.pointer (some ⟨B,0,none⟩)
 |1,v,_=>v=.pointer (some ⟨B,0,none⟩)
 |2,v,_=>v=.pointer (some ⟨B,0,none⟩)
 |3,v,_=>v=.pointer (some ⟨B,51,none⟩)
 |4,v,_=>v=.slice ca j.done.length cc
 |5,v,w=>∃a c,v=.slice a (newestL j.done).length c∧SegW w a (newestL j.done)
 |6,v,_=>v=.pointer (some ⟨B,0,none⟩)
 |7,v,_=>v=.pointer (some ⟨B,0,none⟩)
 |8,v,_=>v=.pointer (some ⟨B,3,none⟩)
 |9,v,_=>v=.pointer (some ⟨B,3,none⟩)
 |10,v,_=>v=.int .i64 j.rh
 |11,v,_=>v=.pointer (some ⟨B,0,none⟩)
 |12,v,_=>v=.pointer (some ⟨B,0,none⟩)
 |13,v,_=>v=.pointer (some ⟨B,5,none⟩)
 |14,v,_=>v=.int .i64 j.last
 |15,v,_=>v=.int .i64 (j.last+1)
 |_,_,_=>True
theorem zr4{B:Nat}{ca:Option Addr}{cc:Nat}{j:Jn}{w w':World}(hb:Below w.heap.size w w'){i:Nat}:∀kk uu,kk≠i→zvh B ca cc j kk uu w→zvh B ca cc j kk uu w':=by
 intro kk uu _ h
 match kk,h with
 |0,h|1,h|2,h|3,h|4,h=>exact h
 |5,⟨a,c,h1,h2⟩=>exact⟨a,c,h1,h2.below hb⟩
 |6,h|7,h|8,h|9,h|10,h|11,h|12,h|13,h|14,h|15,h=>exact h
 |_+16,_=>exact trivial
theorem zx1(B:Nat)(X:List Nat)(j:Jn)(w:World)(h:JAt w B X j)(hX:∀x∈X,x<w.heap.size)(hN:j.done.length≤maxLen)(hwp:IntKind.i64.wrap (j.last+1)=j.last+1):
  Calls prog 86 #[.pointer (some ⟨B,0,none⟩)] w (zdj w B X (zg9 j)):=by
 have HJ:=zab h;have D8:=h.lt;have A2:=h.1;have HX:=zab hX;have D4:=zab hwp;clear h hX hwp;have D7:¬w.heap.size=B:=by omega
 go_enter func86,ntmps86;go_wp2_with fail;obtain⟨n,O⟩:∃n,n=w.alloc (.cells #[.int .i64 0,.int .i64 0,.string ⟨#[]⟩] 31):=⟨_,rfl⟩;have Z:Hid (JAt n B (w.heap.size::X) j):=by rw[O];exact HJ.o.more (zaa _ _) (Nat.le_refl _)
 have N:Hid (ButL [B] w.heap.size w n):=by rw[O];exact ButL.of_below (zaa _ _)
 have KR:Hid (n.heap[w.heap.size]?=some (.cells #[.int .i64 0,.int .i64 0,.string ⟨#[]⟩] 31 (0,0))):=by rw[O];exact heap_alloc_new _ _
 have u:w.heap.size<n.heap.size:=by rw[O];simp
 have s:w.heap.size≠B:=by omega
 rw[←O];clear O;refine(zfn B (w.heap.size::X) j n Z.o).mono ?_;rintro e w' ⟨rfl,rfl⟩;by_cases hs:0<j.steps.length
 ·have HE:Hid (zg9 j=(j,zat 9)):=by rw[Hid,zg9,if_pos (by intro e;rw[e]at hs;simp at hs)]
  have U:decide (0<j.steps.length)=true:=by simpa using hs
  rw[U];clear hs U;go_wp2_with fail;refine(zav 9 _).mono ?_;rintro e w2 ⟨rfl,D⟩;have d:=zab (zad D u KR.o);have L:=zab (Z.o.below D);have R:=zab (N.o.trans (Y:=[]) (ButL.of_below D) N.o.size (by simp));clear D;obtain⟨⟨y0,y1,y2⟩,yf⟩:=zbn d.o;go_wp2;exact zbd HE.o d.o L.o R.o s A2 fun W u0 u1 u2=>by simp[results,results86,go_sem,u0,u1,u2]
 ·have U:decide (0<j.steps.length)=false:=by simpa using hs
  have y:j.steps=[]:=List.eq_nil_of_length_eq_zero (by omega);rw[U];clear hs U;obtain⟨_,da,dc,db,dd,na,nc,nb,nd,ne,nf,sa,sc,sb,sd,se,sf,l,r,fa,fc,ta,tc,h1,hr⟩:=id Z.o;have D2:w'.cell? ⟨B,51,none⟩=some (.slice l j.done.length r):=zak h1 51;have C3:Hid (w'.cell? ⟨B,3,none⟩=some (.int .i64 j.rh)):=zak h1 3;have C5:Hid (w'.cell? ⟨B,5,none⟩=some (.int .i64 j.last)):=zak h1 5;have D3:Hid (w'.cell? ⟨B,51,none⟩=some (.slice l j.done.length r)):=zak h1 51;have C9:=zab hr.2.2.2.1;clear h1 hr;by_cases hd:j.done=[]
  ·have HE:Hid (zg9 j=(j,zat 4)):=by rw[Hid,zg9,if_neg (by simp[y]),if_pos hd]
   have hl:j.done.length=0:=by rw[hd];rfl
   clear hd y;go_wp2_with fail;refine(zav 4 _).mono ?_;rintro e w2 ⟨rfl,D⟩;have d:=zab (zad D u KR.o);have L:=zab (Z.o.below D);have R:=zab (N.o.trans (Y:=[]) (ButL.of_below D) N.o.size (by simp));clear D;obtain⟨⟨y0,y1,y2⟩,yf⟩:=zbn d.o;go_wp2;exact zbd HE.o d.o L.o R.o s A2 fun W u0 u1 u2=>by simp[results,results86,go_sem,u0,u1,u2]
  ·have HE:Hid (zg9 j=((zdx j 7 (newestL j.done) j.rh (j.last+1)).1,zat (zdx j 7 (newestL j.done) j.rh (j.last+1)).2)):=by rw[Hid,zg9,if_neg (by simp[y]),if_neg hd]
   have hl:((j.done.length:Int)==0)=false:=by
    have:=mt List.eq_nil_of_length_eq_zero hd;simp only[beq_eq_false_iff_ne];omega
   clear hd y;go_wp2;rename_i KK A6;clear D2 hl;obtain⟨F,B9⟩:∃F,F=w':=⟨_,rfl⟩;rw[←B9];subst B9
   have A3:∀(g:Nat→Value) (W3:World) (E:Int),E=(zdx j 7 (newestL j.done) j.rh (j.last+1)).2→JAt W3 B (w.heap.size::X) (zdx j 7 (newestL j.done) j.rh (j.last+1)).1→ButL [B] F.heap.size F W3→W3.heap[w.heap.size]?=some (.cells #[.int .i64 0,.int .i64 0,.string ⟨#[]⟩] 31 (0,0))→KK ⟨#[.pointer (some ⟨B,0,none⟩),g 1,.pointer (some ⟨w.heap.size,0,none⟩),g 3,g 4,g 5,g 6,g 7,g 8,g 9,g 10,g 11,g 12,g 13,g 14,g 15,g 16,g 17,g 18,g 19,g 20,g 21,g 22,g 23,g 24,g 25,g 26,g 27,g 28,g 29,g 30,g 31,g 32],[]⟩ (((W3.setCell ⟨w.heap.size,0,none⟩ (.int .i64 E)).setCell ⟨w.heap.size,1,none⟩ (.int .i64 0)).setCell ⟨w.heap.size,2,none⟩ (.string ⟨#[]⟩)):=by
    intro g W3 E hE hJ B0 hK;apply A6;clear A6;have L:=zab hJ;have R:=zab (N.o.trans (Y:=[B]) B0 N.o.size (by simp));obtain⟨W,hW⟩:∃W,W=(((W3.setCell ⟨w.heap.size,0,none⟩ (.int .i64 E)).setCell ⟨w.heap.size,1,none⟩ (.int .i64 0)).setCell ⟨w.heap.size,2,none⟩ (.string ⟨#[]⟩)):=⟨_,rfl⟩;have hX:=zge hK (.int .i64 E) (.int .i64 0) (.string ⟨#[]⟩);rw[←hW]at hX⊢;have C0:=zab hW;have C8:=zab hE;clear hW hE hK hJ B0;go_wp2;obtain⟨⟨u0,u1,u2⟩,_⟩:=zbn hX;refine bodyPost_ret (v:=.agg #[.int .i64 E,.int .i64 0,.string ⟨#[]⟩]) (by simp[results,results86,go_sem,u0,u1,u2]) rfl ⟨by rw[HE.o,C8.o];rfl,?_,?_⟩
    ·rw[HE.o,C0.o];exact zw7 L.o s A2 _ _ _
    ·rw[C0.o];exact((R.o.set (.inr (by omega)) 0 _).set (.inr (by omega)) 1 _).set (.inr (by omega)) 2 _
   have A9:=zab A3;clear A3 A6;have L:=Z;have A1:B<F.heap.size:=by omega
   have hwp:=D4.o
   have D1:Hid (∀x∈w.heap.size::X,x<F.heap.size):=fun x hx=>by
    rcases List.mem_cons.1 hx with rfl|hx
    ·exact u
    ·have:=HX.o x hx;omega
   refine(show∀A0:Act,A0=_→Code.wp prog _ _ A0 _ from fun A0 hA0=>?_) _ rfl;have C:A0.tmps.size=33:=by rw[hA0];rfl
   have D5:A0.defers=[]:=by rw[hA0]
   have v0:A0.eval (.tmp 0)=.pointer (some ⟨B,0,none⟩):=by rw[hA0];rfl
   have v2:A0.eval (.tmp 2)=.pointer (some ⟨w.heap.size,0,none⟩):=by rw[hA0];rfl
   clear hA0;refine zbi 16 (fun w'=>Below F.heap.size F w') [15,16,17,18,19,20,21,22,23,24,25,26,27,28,29,30] (zvh B l r j) (by kernel_rfl) (by kernel_rfl) (by kernel_rfl) (by kernel_rfl) (by decide) ((Below.refl _ _).drew) ⟨?_,?_,?_,?_,?_,?_,?_,?_,?_,?_,?_,?_,?_,?_,?_,?_,trivial⟩ ?_
   ·exact zbg v0 C (fun _=>rfl) fun ρ w' A z=>by simp only[execOp];go_simp
   ·exact zbg v0 C (fun _=>rfl) fun ρ w' A z=>by simp only[execOp];go_simp
   ·exact zam 1 16 C (fun _ _ h=>h) (fun _=>rfl) fun ρ w' A p=>by simp only[execOp];go_simp
   ·exact zam 2 17 C (fun _ _ h=>h) (fun _=>rfl) fun ρ w' A p=>by simp only[execOp];go_simp
   ·exact zam 3 18 C (fun _ _ h=>h) (fun _=>rfl) fun ρ w' A p=>by have c0:w'.cell? ⟨B,51,none⟩=some (.slice l j.done.length r):=zac A A1 D3.o;simp only[execOp];go_simp
   ·intro a w' b A S;have B7:a.eval (.tmp 19)=.slice l j.done.length r:=S ⟨4,.data⟩ (by simp) rfl;refine zbp 126 #[.slice l j.done.length r] rfl rfl (by have i:=Act.eval_func a 126;revert B7 i;generalize a.eval=ρ;intro B7 i;simp only[execOp];go_simp) _ (zml l r j.done _ ((C9.o.ext (Ext.seenL F (w.heap.size::X))).below A) hN) ?_;rintro e w2 ⟨v7,rfl,D6,B5⟩;obtain⟨q,yc,rfl,A5,_⟩:=SegC.of_owns D6;refine⟨_,rfl,_,rfl,zae A B5,?_,zr4 B5⟩;show zvh _ _ _ _ _ ((a.put (some 20) _).eval (.tmp 20)) w2;rw[zan b C (by decide)];exact⟨q,yc,rfl,A5⟩
   ·exact zbg v0 C (fun _=>rfl) fun ρ w' A z=>by simp only[execOp];go_simp
   ·exact zam 6 21 C (fun _ _ h=>h) (fun _=>rfl) fun ρ w' A p=>by simp only[execOp];go_simp
   ·exact zam 7 22 C (fun _ _ h=>h) (fun _=>rfl) fun ρ w' A p=>by simp only[execOp];go_simp
   ·exact zam 8 23 C (fun _ _ h=>h) (fun _=>rfl) fun ρ w' A p=>by simp only[execOp];go_simp
   ·exact zam 9 24 C (fun _ _ h=>h) (fun _=>rfl) fun ρ w' A p=>by have c0:w'.cell? ⟨B,3,none⟩=some (.int .i64 j.rh):=zac A A1 C3.o;simp only[execOp];go_simp
   ·exact zbg v0 C (fun _=>rfl) fun ρ w' A z=>by simp only[execOp];go_simp
   ·exact zam 11 26 C (fun _ _ h=>h) (fun _=>rfl) fun ρ w' A p=>by simp only[execOp];go_simp
   ·exact zam 12 27 C (fun _ _ h=>h) (fun _=>rfl) fun ρ w' A p=>by simp only[execOp];go_simp
   ·exact zam 13 28 C (fun _ _ h=>h) (fun _=>rfl) fun ρ w' A p=>by have c0:w'.cell? ⟨B,5,none⟩=some (.int .i64 j.last):=zac A A1 C5.o;simp only[execOp];go_simp
   ·intro a w' b A S;have p29:a.eval (.tmp 29)=.int .i64 j.last:=S ⟨14,.data⟩ (by simp) rfl;exact zgo _ rfl rfl (by have c:=Act.eval_const a (.int .i64 1);revert p29 c;generalize a.eval=ρ;intro p29 c;simp only[execOp];go_simp) b C A rfl
   ·intro a W b A S;have B1:a.eval (.tmp 15)=.pointer (some ⟨B,0,none⟩):=S 0 (by decide);obtain⟨q,yc,B4,A5⟩:∃q yc,a.eval (.tmp 20)=.slice q (newestL j.done).length yc∧SegW W q (newestL j.done):=S 5 (by decide);have p25:a.eval (.tmp 25)=.int .i64 j.rh:=S 10 (by decide);have p30:a.eval (.tmp 30)=.int .i64 (j.last+1):=S 15 (by decide);show wpOps prog _ _ [16,17,18] a W;rw[wpOps_cons];refine zbp 77 #[.pointer (some ⟨B,0,none⟩),.int .i64 7,.slice q (newestL j.done).length yc,.int .i64 j.rh,.int .i64 (j.last+1)] rfl rfl (by have i:=Act.eval_func a 77;have c:=Act.eval_const a (.int .i64 7);revert B1 B4 p25 p30 i c;generalize a.eval=ρ;intro B1 B4 p25 p30 i c;simp only[execOp];go_simp) _ (zrb B (w.heap.size::X) j W (L.o.below A) (fun x hx=>Nat.lt_of_lt_of_le (D1.o x hx) (by have:=A.size;omega)) 7 q yc (newestL j.done) A5 (by have:=zej (newestF j.done) 12;unfold newestL;omega) j.rh (j.last+1)) ?_;rintro e w5 ⟨rfl,C6,C7⟩;refine⟨_,rfl,?_⟩;rw[wpOps_cons];have B3:a.tmps.size=33:=b.size.trans C;obtain⟨E,B2⟩:∃E,E=(zdx j 7 (newestL j.done) j.rh (j.last+1)).2:=⟨_,rfl⟩;obtain⟨K,M⟩:∃K,K=a.put (some 31) (.int .i64 E):=⟨_,rfl⟩;have B8:K.eval (.tmp 31)=.int .i64 E:=by rw[M];exact Act.eval_put_same _ _ _ (by rw[B3];decide)
    have A7:K.tmps.size=33:=by rw[M,Act.size_put];exact B3
    have C1:K.defers=[]:=by rw[M,Act.defers_put'];exact b.defers.trans D5
    have o0:K.eval (.tmp 0)=.pointer (some ⟨B,0,none⟩):=by rw[M,Act.eval_put_ne _ _ _ _ (by decide)];exact(b.other 0 rfl).trans v0
    have o2:K.eval (.tmp 2)=.pointer (some ⟨w.heap.size,0,none⟩):=by rw[M,Act.eval_put_ne _ _ _ _ (by decide)];exact(b.other 2 rfl).trans v2
    rw[←B2];show wpOp prog _ _ _ _ (a.put (some 31) (.int .i64 E)) w5;rw[←M];clear M;refine zbp 43 #[.int .i64 E] rfl rfl (by have i:=Act.eval_func K 43;revert B8 i;generalize K.eval=ρ;intro B8 i;simp only[execOp];go_simp) _ (zav E w5) ?_;rintro e w6 ⟨rfl,A4⟩;refine⟨_,rfl,?_⟩;rw[wpOps_cons];obtain⟨I,J⟩:∃I,I=K.put (some 32) (.agg #[.int .i64 E,.int .i64 0,.string ⟨#[]⟩]):=⟨_,rfl⟩;have B6:I.eval (.tmp 32)=.agg #[.int .i64 E,.int .i64 0,.string ⟨#[]⟩]:=by rw[J];exact Act.eval_put_same _ _ _ (by rw[A7];decide)
    have f0:I.eval (.tmp 0)=.pointer (some ⟨B,0,none⟩):=by rw[J,Act.eval_put_ne _ _ _ _ (by decide)];exact o0
    have f2:I.eval (.tmp 2)=.pointer (some ⟨w.heap.size,0,none⟩):=by rw[J,Act.eval_put_ne _ _ _ _ (by decide)];exact o2
    have C2:I.tmps.size=33:=by rw[J,Act.size_put];exact A7
    have C4:I.defers=[]:=by rw[J,Act.defers_put'];exact C1
    show wpOp prog _ _ _ _ (K.put (some 32) (.agg #[.int .i64 E,.int .i64 0,.string ⟨#[]⟩])) w6;rw[←J];clear J;have Q:ButL [B] F.heap.size F w5:=(ButL.of_below A).trans (Y:=[B]) C7 A.size (by simp);have D9:F.heap.size≤w5.heap.size:=Q.size;have A8:=zad A4 (show w.heap.size<w5.heap.size by omega) ((Q.block _ u (by simpa using s)).trans KR.o);obtain⟨⟨y0,y1,y2⟩,yf⟩:=zbn A8;refine zco rfl rfl (w':=(((w6.setCell ⟨w.heap.size,0,none⟩ (.int .i64 E)).setCell ⟨w.heap.size,1,none⟩ (.int .i64 0)).setCell ⟨w.heap.size,2,none⟩ (.string ⟨#[]⟩))) (by revert B6 f2;generalize I.eval=ρ;intro B6 f2;simp only[execOp];go_simp) ?_;have m:I=⟨#[_,_,_,_,_,_,_,_,_,_,_,_,_,_,_,_,_,_,_,_,_,_,_,_,_,_,_,_,_,_,_,_,_],[]⟩:=zcn I 33 C2 C4;dsimp only at m;rw[f0,f2]at m;show KK I _;refine(congrArg (fun x=>KK x _) m).mpr (A9.o (fun k=>I.eval (.tmp k)) w6 E B2 (C6.below A4) (Q.trans (Y:=[]) (ButL.of_below A4) Q.size (by simp)) A8)
def zgj (B:Nat)(D:Nat)(j:Jn)(ac:Ac)(X:List Nat)(na:Option Addr)(nc:Nat)(nb:Option Addr)(nd:Nat)(ne:Option Addr)(nf:Nat):Nat→Value→Value→World→Prop
 |0,v,_,_=>v=.pointer (some ⟨B,0,none⟩)
 |1,v,_,_=>v=.pointer (some ⟨B,0,none⟩)
 |2,v,_,_=>v=.pointer (some ⟨B,31,none⟩)
 |3,v,_,_=>v=.agg #[.int .i64 j.now.seq,.slice na j.now.info.length nc,.slice nb j.now.data.length nd,.slice ne j.now.rev.length nf,.bool j.now.h0.on,.int .i64 j.now.h0.left,.bool j.now.h1.on,.int .i64 j.now.h1.left,.bool j.now.h2.on,.int .i64 j.now.h2.left]
 |4,v,_,_=>v=.pointer (some ⟨D,1,none⟩)
 |5,v,_,_=>v=.int .i64 ac.h
 |6,v,_,_=>v=.pointer (some ⟨D,2,none⟩)
 |7,v,_,_=>v=.int .i64 ac.b
 |8,v,_,_=>v=.pointer (some ⟨D,4,none⟩)
 |9,v,_,_=>v=.string ac.text
 |10,v,_,_=>v=.string (fitT ac.text)
 |11,v,u,w=>∃v2,v=.tuple #[v2,.int .i64 (changeE j.now ac.h ac.b (fitT ac.text))]∧okTx X (zaf j.now ac.h ac.b (fitT ac.text)) v2 u w
 |12,v,u,w=>∃v2,v=.tuple #[v2,.int .i64 (changeE j.now ac.h ac.b (fitT ac.text))]∧okTx X (zaf j.now ac.h ac.b (fitT ac.text)) v2 u w
 |13,v,u,w=>okTx X (zaf j.now ac.h ac.b (fitT ac.text)) v u w
 |14,v,_,_=>v=.int .i64 (changeE j.now ac.h ac.b (fitT ac.text))
 |15,v,_,_=>∃T,v=.pointer (some ⟨T,0,none⟩)
 |16,v,_,w=>∃T ua uc ub ud ue uf,v=.pointer (some ⟨T,0,none⟩)∧w.heap[T]?=some (.cells #[.int .i64 (zaf j.now ac.h ac.b (fitT ac.text)).seq,.slice ua (zaf j.now ac.h ac.b (fitT ac.text)).info.length uc,.slice ub (zaf j.now ac.h ac.b (fitT ac.text)).data.length ud,.slice ue (zaf j.now ac.h ac.b (fitT ac.text)).rev.length uf,.bool (zaf j.now ac.h ac.b (fitT ac.text)).h0.on,.int .i64 (zaf j.now ac.h ac.b (fitT ac.text)).h0.left,.bool (zaf j.now ac.h ac.b (fitT ac.text)).h1.on,.int .i64 (zaf j.now ac.h ac.b (fitT ac.text)).h1.left,.bool (zaf j.now ac.h ac.b (fitT ac.text)).h2.on,.int .i64 (zaf j.now ac.h ac.b (fitT ac.text)).h2.left] 40 (0,0))∧IsTx (zau w (T::X)) (.agg #[.int .i64 (zaf j.now ac.h ac.b (fitT ac.text)).seq,.slice ua (zaf j.now ac.h ac.b (fitT ac.text)).info.length uc,.slice ub (zaf j.now ac.h ac.b (fitT ac.text)).data.length ud,.slice ue (zaf j.now ac.h ac.b (fitT ac.text)).rev.length uf,.bool (zaf j.now ac.h ac.b (fitT ac.text)).h0.on,.int .i64 (zaf j.now ac.h ac.b (fitT ac.text)).h0.left,.bool (zaf j.now ac.h ac.b (fitT ac.text)).h1.on,.int .i64 (zaf j.now ac.h ac.b (fitT ac.text)).h1.left,.bool (zaf j.now ac.h ac.b (fitT ac.text)).h2.on,.int .i64 (zaf j.now ac.h ac.b (fitT ac.text)).h2.left]) (zaf j.now ac.h ac.b (fitT ac.text))∧RoomTx (.agg #[.int .i64 (zaf j.now ac.h ac.b (fitT ac.text)).seq,.slice ua (zaf j.now ac.h ac.b (fitT ac.text)).info.length uc,.slice ub (zaf j.now ac.h ac.b (fitT ac.text)).data.length ud,.slice ue (zaf j.now ac.h ac.b (fitT ac.text)).rev.length uf,.bool (zaf j.now ac.h ac.b (fitT ac.text)).h0.on,.int .i64 (zaf j.now ac.h ac.b (fitT ac.text)).h0.left,.bool (zaf j.now ac.h ac.b (fitT ac.text)).h1.on,.int .i64 (zaf j.now ac.h ac.b (fitT ac.text)).h1.left,.bool (zaf j.now ac.h ac.b (fitT ac.text)).h2.on,.int .i64 (zaf j.now ac.h ac.b (fitT ac.text)).h2.left])
 |_,_,_,_=>True
theorem zmo{B:Nat}{D:Nat}{j:Jn}{ac:Ac}{X:List Nat}{na:Option Addr}{nc:Nat}{nb:Option Addr}{nd:Nat}{ne:Option Addr}{nf:Nat}{u:Value}{w w':World}(hb:Below w.heap.size w w'):∀kk x,zgj B D j ac X na nc nb nd ne nf kk x u w→zgj B D j ac X na nc nb nd ne nf kk x u w':=by
 intro kk x h
 match kk,h with
 |0,h|1,h|2,h|3,h|4,h|5,h|6,h|7,h|8,h|9,h|10,h=>exact h
 |11,⟨v2,h1,h2⟩=>exact⟨v2,h1,h2.below hb⟩
 |12,⟨v2,h1,h2⟩=>exact⟨v2,h1,h2.below hb⟩
 |13,h=>exact h.below hb
 |14,h|15,h=>exact h
 |16,⟨T,ua,uc,ub,ud,ue,uf,h1,h2,h3,h4⟩=>exact⟨T,ua,uc,ub,ud,ue,uf,h1,zad hb (Array.getElem?_eq_some_iff.1 h2).1 h2,h3.ext (Ext.freshL hb),h4⟩
 |_+17,_=>exact trivial
theorem zuc{B:Nat}{D:Nat}{j:Jn}{ac:Ac}{X:List Nat}{na:Option Addr}{nc:Nat}{nb:Option Addr}{nd:Nat}{ne:Option Addr}{nf:Nat}{u:Value}{w:World}(o:Obj):∀kk x,zgj B D j ac X na nc nb nd ne nf kk x u w→zgj B D j ac X na nc nb nd ne nf kk x (.pointer (some ⟨w.heap.size,0,none⟩)) (w.alloc o):=by
 intro kk x h
 match kk,h with
 |0,h|1,h|2,h|3,h|4,h|5,h|6,h|7,h|8,h|9,h|10,h=>exact h
 |11,⟨v2,h1,h2⟩=>exact⟨v2,h1,h2.alloc o⟩
 |12,⟨v2,h1,h2⟩=>exact⟨v2,h1,h2.alloc o⟩
 |13,h=>exact h.alloc o
 |14,h|15,h=>exact h
 |16,⟨T,ua,uc,ub,ud,ue,uf,h1,h2,h3,h4⟩=>exact⟨T,ua,uc,ub,ud,ue,uf,h1,zad (zaa _ _) (Array.getElem?_eq_some_iff.1 h2).1 h2,h3.ext (Ext.freshL (zaa _ _)),h4⟩
 |_+17,_=>exact trivial
theorem zud{B:Nat}{D:Nat}{j:Jn}{ac:Ac}{X:List Nat}{na:Option Addr}{nc:Nat}{nb:Option Addr}{nd:Nat}{ne:Option Addr}{nf:Nat}{u:Value}{w w':World}(hs:∀t x,okTx X t x u w→okTx X t x u w'):∀kk x,kk≠16→zgj B D j ac X na nc nb nd ne nf kk x u w→zgj B D j ac X na nc nb nd ne nf kk x u w':=by
 intro kk x A h
 match kk,h with
 |0,h|1,h|2,h|3,h|4,h|5,h|6,h|7,h|8,h|9,h|10,h=>exact h
 |11,⟨y,h1,h2⟩=>exact⟨y,h1,hs _ _ h2⟩
 |12,⟨y,h1,h2⟩=>exact⟨y,h1,hs _ _ h2⟩
 |13,h=>exact hs _ _ h
 |14,h|15,h=>exact h
 |16,_=>exact absurd rfl A
 |_+17,_=>exact trivial
theorem zx2(B:Nat)(X:List Nat)(j:Jn)(w:World)(h:JAt w B X j)(hX:∀x∈X,x<w.heap.size)(ac:Ac)(hsz2:ac.text.size≤maxLen)(r1:j.now.info.length*24≤140737488355328)(r2:j.now.data.length*24≤140737488355328):
  Calls prog 82 #[.pointer (some ⟨B,0,none⟩),.agg #[.int .i64 ac.kind,.int .i64 ac.h,.int .i64 ac.b,.int .i64 ac.n,.string ac.text]] w (zdj w B X (zg8 j ac)):=by
 have HJ:=zab h;have I9:=h.lt;have B2:=h.1;have HX:=zab hX;clear h hX;go_enter func82,ntmps82;go_wp2;rename_i KK C3;obtain⟨F,A5⟩:∃F,F=(w.alloc (.cells #[.int .i64 ac.kind,.int .i64 ac.h,.int .i64 ac.b,.int .i64 ac.n,.string ac.text] 23)).alloc (.cells #[.int .i64 0,.int .i64 0,.string ⟨#[]⟩] 31):=⟨_,rfl⟩;have G2:(w.alloc (.cells #[.int .i64 ac.kind,.int .i64 ac.h,.int .i64 ac.b,.int .i64 ac.n,.string ac.text] 23)).heap.size=w.heap.size+1:=by simp
 have i:Hid (JAt F B ((w.heap.size+1)::X) j):=by rw[A5];exact(HJ.o.below (zaa _ _)).more (zaa _ _) (by omega)
 have p:Hid (Below w.heap.size w F):=by rw[A5];exact zae (zaa _ _) (zaa _ _)
 have K:Hid (F.heap[w.heap.size+1]?=some (.cells #[.int .i64 0,.int .i64 0,.string ⟨#[]⟩] 31 (0,0))):=by rw[A5,←G2];exact heap_alloc_new _ _
 have C6:Hid (F.heap[w.heap.size]?=some (.cells #[.int .i64 ac.kind,.int .i64 ac.h,.int .i64 ac.b,.int .i64 ac.n,.string ac.text] 23 (0,0))):=by rw[A5];exact zad (zaa _ _) (by omega) (heap_alloc_new _ _)
 have J0:F.heap.size=w.heap.size+2:=by rw[A5];simp
 have H6:Hid (∀x∈((w.heap.size+1)::X),x<F.heap.size):=fun x hx=>by
  rcases List.mem_cons.1 hx with rfl|hx
  ·omega
  ·have:=HX.o x hx;omega
 rw[←A5];clear A5 G2;have N:B<F.heap.size:=by omega
 have B4:w.heap.size<F.heap.size:=by omega
 have B7:∀(g:Nat→Value) (l:World) (T:Nat) (Z:Option Addr) (U:Nat) (Q:Option Addr) (d:Nat) (S:Option Addr) (R:Nat),IsTx (zau l (T::((w.heap.size+1)::X))) (.agg #[.int .i64 (zaf j.now ac.h ac.b (fitT ac.text)).seq,.slice Z (zaf j.now ac.h ac.b (fitT ac.text)).info.length U,.slice Q (zaf j.now ac.h ac.b (fitT ac.text)).data.length d,.slice S (zaf j.now ac.h ac.b (fitT ac.text)).rev.length R,.bool (zaf j.now ac.h ac.b (fitT ac.text)).h0.on,.int .i64 (zaf j.now ac.h ac.b (fitT ac.text)).h0.left,.bool (zaf j.now ac.h ac.b (fitT ac.text)).h1.on,.int .i64 (zaf j.now ac.h ac.b (fitT ac.text)).h1.left,.bool (zaf j.now ac.h ac.b (fitT ac.text)).h2.on,.int .i64 (zaf j.now ac.h ac.b (fitT ac.text)).h2.left]) (zaf j.now ac.h ac.b (fitT ac.text))→RoomTx (.agg #[.int .i64 (zaf j.now ac.h ac.b (fitT ac.text)).seq,.slice Z (zaf j.now ac.h ac.b (fitT ac.text)).info.length U,.slice Q (zaf j.now ac.h ac.b (fitT ac.text)).data.length d,.slice S (zaf j.now ac.h ac.b (fitT ac.text)).rev.length R,.bool (zaf j.now ac.h ac.b (fitT ac.text)).h0.on,.int .i64 (zaf j.now ac.h ac.b (fitT ac.text)).h0.left,.bool (zaf j.now ac.h ac.b (fitT ac.text)).h1.on,.int .i64 (zaf j.now ac.h ac.b (fitT ac.text)).h1.left,.bool (zaf j.now ac.h ac.b (fitT ac.text)).h2.on,.int .i64 (zaf j.now ac.h ac.b (fitT ac.text)).h2.left])→l.heap[T]?=some (.cells #[.int .i64 (zaf j.now ac.h ac.b (fitT ac.text)).seq,.slice Z (zaf j.now ac.h ac.b (fitT ac.text)).info.length U,.slice Q (zaf j.now ac.h ac.b (fitT ac.text)).data.length d,.slice S (zaf j.now ac.h ac.b (fitT ac.text)).rev.length R,.bool (zaf j.now ac.h ac.b (fitT ac.text)).h0.on,.int .i64 (zaf j.now ac.h ac.b (fitT ac.text)).h0.left,.bool (zaf j.now ac.h ac.b (fitT ac.text)).h1.on,.int .i64 (zaf j.now ac.h ac.b (fitT ac.text)).h1.left,.bool (zaf j.now ac.h ac.b (fitT ac.text)).h2.on,.int .i64 (zaf j.now ac.h ac.b (fitT ac.text)).h2.left] 40 (0,0))→F.heap.size≤T→Below F.heap.size F l→KK ⟨#[.pointer (some ⟨B,0,none⟩),g 1,g 2,.pointer (some ⟨w.heap.size,0,none⟩),.pointer (some ⟨w.heap.size+1,0,none⟩),.pointer (some ⟨T,0,none⟩),.int .i64 (changeE j.now ac.h ac.b (fitT ac.text)),g 7,g 8,g 9,g 10,g 11,g 12,g 13,g 14,g 15,g 16,g 17,g 18,g 19,g 20,g 21,g 22,g 23,g 24,g 25,g 26,g 27,g 28,g 29,g 30,g 31,g 32,g 33,g 34,g 35,g 36,g 37,g 38,g 39,g 40,g 41,g 42,g 43,g 44],[]⟩ l:=by
  intro g l T Z U Q d S R q s m A9 A7;apply C3;clear C3;have D3:=zab (q.ext (Ext.lessL T));have D9:=zab s;have KT:=zab m;have C4:=zab (i.o.below A7);have C1:=zab (zae p.o A7);have D4:=zab (zad A7 (show w.heap.size+1<F.heap.size by omega) K.o);have B6:=zab (zad A7 B4 C6.o);have J4:F.heap.size≤l.heap.size:=A7.size;have H8:T<l.heap.size:=(Array.getElem?_eq_some_iff.1 m).1;clear q s m A7 i p K C6;obtain⟨t,ht⟩:∃t,t=zaf j.now ac.h ac.b (fitT ac.text):=⟨_,rfl⟩;rw[←ht]at D3 D9 KT;have A8:w.heap.size+1≠B:=by omega
  by_cases he:changeE j.now ac.h ac.b (fitT ac.text)=0
  ·obtain⟨H5,G9⟩:=zro he;obtain⟨c,C7⟩:∃c:Nat,ac.b=(c:Int):=⟨ac.b.toNat,by omega⟩;have B9:c<12:=by omega
   have HW:Hid (zg8 j ac=if j.role c=2 then(j,zat 8) else({j with role:=upd j.role c 1,now:=t},zat 0)):=by
    rw[Hid,zg8,if_pos he,←ht,C7,Int.toNat_natCast]
   rw[he];rw[C7]at B6;clear he ht C7 H5 G9;obtain⟨⟨y0,y1,y2,y3,y4⟩,yf⟩:=zis B6.o;have I6:(0:Int)≤(c:Int):=by omega
   have I4:(c:Int)<12:=by omega
   go_wp2
   go_quiet (fail)
   obtain⟨W5,C8⟩:∃W5,W5=l.drewN nq:=⟨_,rfl⟩;have A6:Below l.heap.size l W5:=by rw[C8];exact below_drewN (Below.refl _ _) _
   have B3:=zab (C4.o.below A6);have C9:Hid (ButL [B] w.heap.size w W5):=ButL.of_below (zae C1.o A6);have D1:=zab (zad A6 (show w.heap.size+1<l.heap.size by omega) D4.o);have F2:=zab (zad A6 H8 KT.o);have D5:=zab (D3.o.ext (Ext.freshL A6));have J1:l.heap.size≤W5.heap.size:=A6.size;rw[←C8];clear C8 A6 y0 y1 y2 y3 y4 yf C4 C1 D4 KT D3 B6;obtain⟨G1,_,H2,_⟩:=B3.o.role c B9;by_cases hro:j.role c=2
   ·have HE:Hid (zg8 j ac=(j,zat 8)):=by rw[Hid,HW.o,if_pos hro]
    rw[hro]at G1;clear hro HW;go_wp2_with fail;have C2:=B3;have B0:=C9;have KR:=D1;have C5:w.heap.size+1<W5.heap.size:=by omega
    refine(zav 8 _).mono ?_;rintro e u ⟨rfl,J⟩;have K:=zab (zad J C5 KR.o);have i:=zab (C2.o.below J);have p:=zab (B0.o.trans (Y:=[]) (ButL.of_below J) B0.o.size (by simp));clear J;obtain⟨⟨y0,y1,y2⟩,yf⟩:=zbn K.o;go_wp2;exact zbd HE.o K.o i.o p.o A8 B2 fun W u0 u1 u2=>by simp[results,results82,go_sem,u0,u1,u2]
   ·have HE:Hid (zg8 j ac=({j with role:=upd j.role c 1,now:=t},zat 0)):=by rw[Hid,HW.o,if_neg hro]
    have I5:(j.role c==2)=false:=by simpa using hro
    clear hro HW;obtain⟨⟨t0,t1,t2,t3,t4,t5,t6,t7,t8,t9⟩,tf⟩:=zaj F2.o;have J2:¬T=B:=by omega
    have J3:¬B=T:=by omega
    go_wp2_with fail;obtain⟨W6,y⟩:∃W6,W6=W5.setCell ⟨B,7+c*2,none⟩ (.int .i64 1):=⟨_,rfl⟩;have F1:Hid (JAt W6 B ((w.heap.size+1)::X) {j with role:=upd j.role c 1}):=by rw[y];exact B3.o.putRole c B9 1
    have B8:Hid (IsTx (zau W6 ((w.heap.size+1)::X)) (.agg #[.int .i64 t.seq,.slice Z t.info.length U,.slice Q t.data.length d,.slice S t.rev.length R,.bool t.h0.on,.int .i64 t.h0.left,.bool t.h1.on,.int .i64 t.h1.left,.bool t.h2.on,.int .i64 t.h2.left]) t):=by rw[y];exact D5.o.ext (Ext.setL (by simp[B2]) _ _)
    have D2:Hid (ButL [B] w.heap.size w W6):=by rw[y];exact C9.o.set (.inl (by simp)) _ _
    have G0:Hid (W6.heap[w.heap.size+1]?=some (.cells #[.int .i64 0,.int .i64 0,.string ⟨#[]⟩] 31 (0,0))):=by rw[y];exact(Below.heap_setCell _ _ _ _ A8).trans D1.o
    have I7:W6.heap.size=W5.heap.size:=by rw[y];simp[World.setCell]
    rw[←y];clear y G1 H2 t0 t1 t2 t3 t4 t5 t6 t7 t8 t9 tf B3 D5 C9 D1 F2;refine(zjl B ((w.heap.size+1)::X) _ W6 F1.o t Z U Q d S R B8.o D9.o 0).mono ?_;rintro e u ⟨rfl,G3,B5⟩;have i:Hid (JAt u B ((w.heap.size+1)::X) {j with role:=upd j.role c 1,now:=t}):=G3;have p:=zab (D2.o.trans (Y:=[B]) B5 D2.o.size (by simp));have K:=zab ((B5.block _ (show w.heap.size+1<W6.heap.size by omega) (by simpa using A8)).trans G0.o);clear G3 B5 F1 D2 G0 B8;dsimp only[zm2,vRp,zat];obtain⟨⟨y0,y1,y2⟩,yf⟩:=zbn K.o;go_wp2;exact zbd HE.o K.o i.o p.o A8 B2 fun W u0 u1 u2=>by simp[results,results82,go_sem,u0,u1,u2]
  ·have HE:Hid (zg8 j ac=(j,zat (changeE j.now ac.h ac.b (fitT ac.text)))):=by rw[Hid,zg8,if_neg he]
   have I8:(changeE j.now ac.h ac.b (fitT ac.text) !=0)=true:=by simpa using he
   clear he ht;generalize changeE j.now ac.h ac.b (fitT ac.text)=E at *;go_wp2_with fail;have C2:=C4;have B0:Hid (ButL [B] w.heap.size w l):=ButL.of_below C1.o;have KR:=D4;have C5:w.heap.size+1<l.heap.size:=by omega
   refine(zav E _).mono ?_;rintro e u ⟨rfl,J⟩;have K:=zab (zad J C5 KR.o);have i:=zab (C2.o.below J);have p:=zab (B0.o.trans (Y:=[]) (ButL.of_below J) B0.o.size (by simp));clear J;obtain⟨⟨y0,y1,y2⟩,yf⟩:=zbn K.o;go_wp2;exact zbd HE.o K.o i.o p.o A8 B2 fun W u0 u1 u2=>by simp[results,results82,go_sem,u0,u1,u2]
 have D6:=zab B7;clear B7 C3;obtain⟨_,da,dc,db,dd,na,nc,nb,nd,ne,nf,sa,sc,sb,sd,se,sf,ca,cc,fa,fc,ta,tc,z,hr⟩:=id i.o;have E5:F.cell? ⟨B,31,none⟩=some (.int .i64 j.now.seq):=zak z 31;have E8:F.cell? ⟨B,32,none⟩=some (.slice na j.now.info.length nc):=zak z 32;have E1:F.cell? ⟨B,33,none⟩=some (.slice nb j.now.data.length nd):=zak z 33;have E2:F.cell? ⟨B,34,none⟩=some (.slice ne j.now.rev.length nf):=zak z 34;have F9:F.cell? ⟨B,35,none⟩=some (.bool j.now.h0.on):=zak z 35;have D7:F.cell? ⟨B,36,none⟩=some (.int .i64 j.now.h0.left):=zak z 36;have F7:F.cell? ⟨B,37,none⟩=some (.bool j.now.h1.on):=zak z 37;have F5:F.cell? ⟨B,38,none⟩=some (.int .i64 j.now.h1.left):=zak z 38;have D8:F.cell? ⟨B,39,none⟩=some (.bool j.now.h2.on):=zak z 39;have E7:F.cell? ⟨B,40,none⟩=some (.int .i64 j.now.h2.left):=zak z 40;have H7:=zab E5;have I0:=zab E8;have I3:=zab E1;have G7:=zab E2;have H1:=zab F9;have G8:=zab D7;have H9:=zab F7;have H4:=zab F5;have H0:=zab D8;have G6:=zab E7;have E9:=zab hr.2.1;have I2:=zab hr.2.2.2.2.2.2.1;clear z hr E5 E8 E1 E2 F9 D7 F7 F5 D8 E7;obtain⟨⟨y0,y1,y2,y3,y4⟩,_⟩:=zis C6.o;have A0:=zab y0;have A1:=zab y1;have A2:=zab y2;have A3:=zab y3;have A4:=zab y4;clear y0 y1 y2 y3 y4;refine(show∀A0:Act,A0=_→Code.wp prog _ _ A0 _ from fun A0 hA0=>?_) _ rfl;have I:A0.tmps.size=45:=by rw[hA0];rfl
 have I1:A0.defers=[]:=by rw[hA0]
 have v0:A0.eval (.tmp 0)=.pointer (some ⟨B,0,none⟩):=by rw[hA0];rfl
 have v3:A0.eval (.tmp 3)=.pointer (some ⟨w.heap.size,0,none⟩):=by rw[hA0];rfl
 have v4:A0.eval (.tmp 4)=.pointer (some ⟨w.heap.size+1,0,none⟩):=by rw[hA0];rfl
 have v5:A0.eval (.tmp 5)=undef:=by rw[hA0];rfl
 clear hA0;refine zde 17 5 (zmk F) [9,10,11,12,13,14,15,16,17,18,19,20,8,21,22,5,5] (zgj B w.heap.size j ac ((w.heap.size+1)::X) na nc nb nd ne nf) (by kernel_rfl) (by kernel_rfl) (by kernel_rfl) (by kernel_rfl) (by decide) (⟨(Below.refl _ _).drew,.inl v5⟩) ⟨?_,?_,?_,?_,?_,?_,?_,?_,?_,?_,?_,?_,?_,?_,?_,?_,?_,trivial⟩ ?_
 ·intro a w' C A D;have z0:=(C.other 0 rfl).trans v0;exact zby _ rfl rfl (by revert z0;generalize a.eval=ρ;intro z0;simp only[execOp];go_simp) C I A rfl
 ·intro a w' C A D;have p9:a.eval (.tmp 9)=.pointer (some ⟨B,0,none⟩):=D ⟨0,.data⟩ (by simp) rfl;exact zby _ rfl rfl (by revert p9;generalize a.eval=ρ;intro p9;simp only[execOp];go_simp) C I A rfl
 ·intro a w' C A D;have F3:a.eval (.tmp 10)=.pointer (some ⟨B,0,none⟩):=D ⟨1,.data⟩ (by simp) rfl;exact zby _ rfl rfl (by revert F3;generalize a.eval=ρ;intro F3;simp only[execOp];go_simp) C I A rfl
 ·intro a w' C A D;have E4:a.eval (.tmp 11)=.pointer (some ⟨B,31,none⟩):=D ⟨2,.data⟩ (by simp) rfl;have c0:w'.cell? ⟨B,31,none⟩=some (.int .i64 j.now.seq):=zac A.1 N H7.o;have c1:w'.cell? ⟨B,32,none⟩=some (.slice na j.now.info.length nc):=zac A.1 N I0.o;have c2:w'.cell? ⟨B,33,none⟩=some (.slice nb j.now.data.length nd):=zac A.1 N I3.o;have c3:w'.cell? ⟨B,34,none⟩=some (.slice ne j.now.rev.length nf):=zac A.1 N G7.o;have c4:w'.cell? ⟨B,35,none⟩=some (.bool j.now.h0.on):=zac A.1 N H1.o;have c5:w'.cell? ⟨B,36,none⟩=some (.int .i64 j.now.h0.left):=zac A.1 N G8.o;have c6:w'.cell? ⟨B,37,none⟩=some (.bool j.now.h1.on):=zac A.1 N H9.o;have c7:w'.cell? ⟨B,38,none⟩=some (.int .i64 j.now.h1.left):=zac A.1 N H4.o;have c8:w'.cell? ⟨B,39,none⟩=some (.bool j.now.h2.on):=zac A.1 N H0.o;have c9:w'.cell? ⟨B,40,none⟩=some (.int .i64 j.now.h2.left):=zac A.1 N G6.o;exact zby _ rfl rfl (by revert E4;generalize a.eval=ρ;intro E4;simp only[execOp];go_simp) C I A rfl
 ·intro a w' C A D;have z3:=(C.other 3 rfl).trans v3;exact zby _ rfl rfl (by revert z3;generalize a.eval=ρ;intro z3;simp only[execOp];go_simp) C I A rfl
 ·intro a w' C A D;have G5:a.eval (.tmp 13)=.pointer (some ⟨w.heap.size,1,none⟩):=D ⟨4,.data⟩ (by simp) rfl;have c0:w'.cell? ⟨w.heap.size,1,none⟩=some (.int .i64 ac.h):=zac A.1 B4 A1.o;exact zby _ rfl rfl (by revert G5;generalize a.eval=ρ;intro G5;simp only[execOp];go_simp) C I A rfl
 ·intro a w' C A D;have z3:=(C.other 3 rfl).trans v3;exact zby _ rfl rfl (by revert z3;generalize a.eval=ρ;intro z3;simp only[execOp];go_simp) C I A rfl
 ·intro a w' C A D;have E6:a.eval (.tmp 15)=.pointer (some ⟨w.heap.size,2,none⟩):=D ⟨6,.data⟩ (by simp) rfl;have c0:w'.cell? ⟨w.heap.size,2,none⟩=some (.int .i64 ac.b):=zac A.1 B4 A2.o;exact zby _ rfl rfl (by revert E6;generalize a.eval=ρ;intro E6;simp only[execOp];go_simp) C I A rfl
 ·intro a w' C A D;have z3:=(C.other 3 rfl).trans v3;exact zby _ rfl rfl (by revert z3;generalize a.eval=ρ;intro z3;simp only[execOp];go_simp) C I A rfl
 ·intro a w' C A D;have G4:a.eval (.tmp 17)=.pointer (some ⟨w.heap.size,4,none⟩):=D ⟨8,.data⟩ (by simp) rfl;have c0:w'.cell? ⟨w.heap.size,4,none⟩=some (.string ac.text):=zac A.1 B4 A4.o;exact zby _ rfl rfl (by revert G4;generalize a.eval=ρ;intro G4;simp only[execOp];go_simp) C I A rfl
 ·intro a w' C A D;have E3:a.eval (.tmp 18)=.string ac.text:=D ⟨9,.data⟩ (by simp) rfl;refine zbp 25 #[.string ac.text] rfl rfl (by have pf:=Act.eval_func a 25;revert E3 pf;generalize a.eval=ρ;intro E3 pf;simp only[execOp];go_simp) _ (zgb ac.text _ hsz2) ?_;rintro e u ⟨rfl,J⟩;refine⟨_,rfl,_,rfl,?_,?_,?_⟩
  ·show zmk F ((a.put (some 19) _).eval (.tmp 5)) u;rw[Act.eval_put_ne _ _ _ _ (by decide)];exact zf6 A J
  ·show zgj _ _ _ _ _ _ _ _ _ _ _ _ ((a.put (some 19) _).eval (.tmp 19)) ((a.put (some 19) _).eval (.tmp 5)) u;rw[zan C I (by decide),Act.eval_put_ne _ _ _ _ (by decide)];exact rfl
  ·intro O x hk h;show zgj _ _ _ _ _ _ _ _ _ _ _ O x ((a.put (some 19) _).eval (.tmp 5)) u;rw[Act.eval_put_ne _ _ _ _ (by decide)];exact zmo J O x h
 ·intro a w' C A D;have F4:a.eval (.tmp 12)=.agg #[.int .i64 j.now.seq,.slice na j.now.info.length nc,.slice nb j.now.data.length nd,.slice ne j.now.rev.length nf,.bool j.now.h0.on,.int .i64 j.now.h0.left,.bool j.now.h1.on,.int .i64 j.now.h1.left,.bool j.now.h2.on,.int .i64 j.now.h2.left]:=D ⟨3,.data⟩ (by simp) rfl;have E0:a.eval (.tmp 14)=.int .i64 ac.h:=D ⟨5,.data⟩ (by simp) rfl;have F6:a.eval (.tmp 16)=.int .i64 ac.b:=D ⟨7,.data⟩ (by simp) rfl;have F8:a.eval (.tmp 19)=.string (fitT ac.text):=D ⟨10,.data⟩ (by simp) rfl;refine zbp 121 #[.agg #[.int .i64 j.now.seq,.slice na j.now.info.length nc,.slice nb j.now.data.length nd,.slice ne j.now.rev.length nf,.bool j.now.h0.on,.int .i64 j.now.h0.left,.bool j.now.h1.on,.int .i64 j.now.h1.left,.bool j.now.h2.on,.int .i64 j.now.h2.left],.int .i64 ac.h,.int .i64 ac.b,.string (fitT ac.text)] rfl rfl (by have pf:=Act.eval_func a 121;revert F4 E0 F6 F8 pf;generalize a.eval=ρ;intro F4 E0 F6 F8 pf;simp only[execOp];go_simp) _ (zrm _ j.now ac.h ac.b (fitT ac.text) _ ((E9.o.ext (Ext.seenL F _)).below A.1) r1 r2) ?_;rintro e u ⟨L,rfl,C0,J,H3⟩;refine⟨_,rfl,_,rfl,?_,?_,?_⟩
  ·show zmk F ((a.put (some 20) _).eval (.tmp 5)) u;rw[Act.eval_put_ne _ _ _ _ (by decide)];exact zf6 A J
  ·show zgj _ _ _ _ _ _ _ _ _ _ _ _ ((a.put (some 20) _).eval (.tmp 20)) ((a.put (some 20) _).eval (.tmp 5)) u;rw[zan C I (by decide),Act.eval_put_ne _ _ _ _ (by decide)];exact⟨L,rfl,okTx.made H6.o E9.o I2.o A C0 J H3⟩
  ·intro O x hk h;show zgj _ _ _ _ _ _ _ _ _ _ _ O x ((a.put (some 20) _).eval (.tmp 5)) u;rw[Act.eval_put_ne _ _ _ _ (by decide)];exact zmo J O x h
 ·intro a w' C A D;obtain⟨L,pc,ok⟩:∃L,a.eval (.tmp 20)=.tuple #[L,.int .i64 (changeE j.now ac.h ac.b (fitT ac.text))]∧okTx ((w.heap.size+1)::X) (zaf j.now ac.h ac.b (fitT ac.text)) L (a.eval (.tmp 5)) w':=D ⟨11,.data⟩ (by simp) rfl;refine zar (.tuple #[L,.int .i64 (changeE j.now ac.h ac.b (fitT ac.text))]) rfl rfl (by revert pc;generalize a.eval=ρ;intro pc;simp only[execOp];go_simp) ⟨_,rfl,?_,?_,?_⟩
  ·show zmk F ((a.put (some 8) _).eval (.tmp 5)) w';rw[Act.eval_put_ne _ _ _ _ (by decide)];exact A
  ·show zgj _ _ _ _ _ _ _ _ _ _ _ _ ((a.put (some 8) _).eval (.tmp 8)) ((a.put (some 8) _).eval (.tmp 5)) w';rw[zan C I (by decide),Act.eval_put_ne _ _ _ _ (by decide)];exact⟨L,rfl,ok⟩
  ·intro O x hk h;show zgj _ _ _ _ _ _ _ _ _ _ _ O x ((a.put (some 8) _).eval (.tmp 5)) w';rw[Act.eval_put_ne _ _ _ _ (by decide)];exact h
 ·intro a w' C A D;obtain⟨L,pm,ok⟩:∃L,a.eval (.tmp 8)=.tuple #[L,.int .i64 (changeE j.now ac.h ac.b (fitT ac.text))]∧okTx ((w.heap.size+1)::X) (zaf j.now ac.h ac.b (fitT ac.text)) L (a.eval (.tmp 5)) w':=D ⟨12,.data⟩ (by simp) rfl;refine zar (L) rfl rfl (by revert pm;generalize a.eval=ρ;intro pm;simp only[execOp];go_simp) ⟨_,rfl,?_,?_,?_⟩
  ·show zmk F ((a.put (some 21) _).eval (.tmp 5)) w';rw[Act.eval_put_ne _ _ _ _ (by decide)];exact A
  ·show zgj _ _ _ _ _ _ _ _ _ _ _ _ ((a.put (some 21) _).eval (.tmp 21)) ((a.put (some 21) _).eval (.tmp 5)) w';rw[zan C I (by decide),Act.eval_put_ne _ _ _ _ (by decide)];exact ok
  ·intro O x hk h;show zgj _ _ _ _ _ _ _ _ _ _ _ O x ((a.put (some 21) _).eval (.tmp 5)) w';rw[Act.eval_put_ne _ _ _ _ (by decide)];exact h
 ·intro a w' C A D;obtain⟨L,pm,ok⟩:∃L,a.eval (.tmp 8)=.tuple #[L,.int .i64 (changeE j.now ac.h ac.b (fitT ac.text))]∧okTx ((w.heap.size+1)::X) (zaf j.now ac.h ac.b (fitT ac.text)) L (a.eval (.tmp 5)) w':=D ⟨12,.data⟩ (by simp) rfl;exact zby _ rfl rfl (by revert pm;generalize a.eval=ρ;intro pm;simp only[execOp];go_simp) C I A rfl
 ·intro a w' C A D;refine zfl (.pointer (some ⟨w'.heap.size,0,none⟩)) rfl rfl (w':=w'.alloc (.cells #[.int .i64 0,.slice none 0 0,.slice none 0 0,.slice none 0 0,.bool false,.int .i64 0,.bool false,.int .i64 0,.bool false,.int .i64 0] 40)) (by simp only[execOp];go_simp) ⟨_,rfl,?_,?_,?_⟩
  ·show zmk F ((a.put (some 5) _).eval (.tmp 5)) _;rw[zan C I (by decide)];exact⟨A.1.alloc A.1.size _,.inr ⟨_,rfl,A.1.size,by simp,_,_,_,_,_,_,_,_,_,_,heap_alloc_new _ _⟩⟩
  ·show zgj _ _ _ _ _ _ _ _ _ _ _ _ ((a.put (some 5) _).eval (.tmp 5)) ((a.put (some 5) _).eval (.tmp 5)) _;rw[zan C I (by decide)];exact⟨_,rfl⟩
  ·intro O x hk h;show zgj _ _ _ _ _ _ _ _ _ _ _ O x ((a.put (some 5) _).eval (.tmp 5)) _;rw[zan C I (by decide)];exact zuc _ O x h
 ·intro a w' C A D;obtain⟨T,M⟩:∃T,a.eval (.tmp 5)=.pointer (some ⟨T,0,none⟩):=D ⟨15,.data⟩ (by simp) rfl;have ok:okTx ((w.heap.size+1)::X) (zaf j.now ac.h ac.b (fitT ac.text)) (a.eval (.tmp 21)) (a.eval (.tmp 5)) w':=D ⟨13,.data⟩ (by simp) rfl
  obtain⟨A9,C0,c0,c1,c2,c3,c4,c5,c6,c7,c8,c9,m⟩:F.heap.size≤T∧T<w'.heap.size∧∃c0 c1 c2 c3 c4 c5 c6 c7 c8 c9,w'.heap[T]?=some (.cells #[c0,c1,c2,c3,c4,c5,c6,c7,c8,c9] 40 (0,0)):=by
   rcases A.2 with h0|⟨T',e,h3,h4,h5⟩
   ·rw[h0]at M;cases M
   ·rw[e]at M;cases M;exact⟨h3,h4,h5⟩
  have q:=ok.2.2 T M;have s:=ok.2.1;obtain⟨Z,U,Q,d,S,R,hv,_⟩:=id q;rw[hv]at q s;obtain⟨⟨t0,t1,t2,t3,t4,t5,t6,t7,t8,t9⟩,tf⟩:=zaj m;refine zco rfl rfl (w':=((((((((((w'.setCell ⟨T,0,none⟩ (.int .i64 (zaf j.now ac.h ac.b (fitT ac.text)).seq)).setCell ⟨T,1,none⟩ (.slice Z (zaf j.now ac.h ac.b (fitT ac.text)).info.length U)).setCell ⟨T,2,none⟩ (.slice Q (zaf j.now ac.h ac.b (fitT ac.text)).data.length d)).setCell ⟨T,3,none⟩ (.slice S (zaf j.now ac.h ac.b (fitT ac.text)).rev.length R)).setCell ⟨T,4,none⟩ (.bool (zaf j.now ac.h ac.b (fitT ac.text)).h0.on)).setCell ⟨T,5,none⟩ (.int .i64 (zaf j.now ac.h ac.b (fitT ac.text)).h0.left)).setCell ⟨T,6,none⟩ (.bool (zaf j.now ac.h ac.b (fitT ac.text)).h1.on)).setCell ⟨T,7,none⟩ (.int .i64 (zaf j.now ac.h ac.b (fitT ac.text)).h1.left)).setCell ⟨T,8,none⟩ (.bool (zaf j.now ac.h ac.b (fitT ac.text)).h2.on)).setCell ⟨T,9,none⟩ (.int .i64 (zaf j.now ac.h ac.b (fitT ac.text)).h2.left))) (by revert M hv;generalize a.eval=ρ;intro M hv;simp only[execOp];go_simp) ⟨_,rfl,?_,?_,?_⟩
  ·show zmk F (a.eval (.tmp 5)) _;exact⟨Below.set10 A.1 A9 _ _ _ _ _ _ _ _ _ _,.inr ⟨T,M,A9,by simpa[World.setCell] using C0,_,_,_,_,_,_,_,_,_,_,zh2 m _ _ _ _ _ _ _ _ _ _⟩⟩
  ·show zgj _ _ _ _ _ _ _ _ _ _ _ _ (a.eval (.tmp 5)) (a.eval (.tmp 5)) _;exact⟨T,Z,U,Q,d,S,R,M,zh2 m _ _ _ _ _ _ _ _ _ _,q.ext (zpi (by simp) w' _ _ _ _ _ _ _ _ _ _),s⟩
  ·intro O x hk h;show zgj _ _ _ _ _ _ _ _ _ _ _ O x (a.eval (.tmp 5)) _;rw[M]at h⊢;exact zud (fun t x h=>h.store _ _ _ _ _ _ _ _ _ _) O x hk h
 ·intro a W C A D;obtain⟨T,Z,U,Q,d,S,R,M,m,q,s⟩:∃T Z U Q d S R,a.eval (.tmp 5)=.pointer (some ⟨T,0,none⟩)∧W.heap[T]?=some (.cells #[.int .i64 (zaf j.now ac.h ac.b (fitT ac.text)).seq,.slice Z (zaf j.now ac.h ac.b (fitT ac.text)).info.length U,.slice Q (zaf j.now ac.h ac.b (fitT ac.text)).data.length d,.slice S (zaf j.now ac.h ac.b (fitT ac.text)).rev.length R,.bool (zaf j.now ac.h ac.b (fitT ac.text)).h0.on,.int .i64 (zaf j.now ac.h ac.b (fitT ac.text)).h0.left,.bool (zaf j.now ac.h ac.b (fitT ac.text)).h1.on,.int .i64 (zaf j.now ac.h ac.b (fitT ac.text)).h1.left,.bool (zaf j.now ac.h ac.b (fitT ac.text)).h2.on,.int .i64 (zaf j.now ac.h ac.b (fitT ac.text)).h2.left] 40 (0,0))∧IsTx (zau W (T::(w.heap.size+1)::X)) (.agg #[.int .i64 (zaf j.now ac.h ac.b (fitT ac.text)).seq,.slice Z (zaf j.now ac.h ac.b (fitT ac.text)).info.length U,.slice Q (zaf j.now ac.h ac.b (fitT ac.text)).data.length d,.slice S (zaf j.now ac.h ac.b (fitT ac.text)).rev.length R,.bool (zaf j.now ac.h ac.b (fitT ac.text)).h0.on,.int .i64 (zaf j.now ac.h ac.b (fitT ac.text)).h0.left,.bool (zaf j.now ac.h ac.b (fitT ac.text)).h1.on,.int .i64 (zaf j.now ac.h ac.b (fitT ac.text)).h1.left,.bool (zaf j.now ac.h ac.b (fitT ac.text)).h2.on,.int .i64 (zaf j.now ac.h ac.b (fitT ac.text)).h2.left]) (zaf j.now ac.h ac.b (fitT ac.text))∧RoomTx (.agg #[.int .i64 (zaf j.now ac.h ac.b (fitT ac.text)).seq,.slice Z (zaf j.now ac.h ac.b (fitT ac.text)).info.length U,.slice Q (zaf j.now ac.h ac.b (fitT ac.text)).data.length d,.slice S (zaf j.now ac.h ac.b (fitT ac.text)).rev.length R,.bool (zaf j.now ac.h ac.b (fitT ac.text)).h0.on,.int .i64 (zaf j.now ac.h ac.b (fitT ac.text)).h0.left,.bool (zaf j.now ac.h ac.b (fitT ac.text)).h1.on,.int .i64 (zaf j.now ac.h ac.b (fitT ac.text)).h1.left,.bool (zaf j.now ac.h ac.b (fitT ac.text)).h2.on,.int .i64 (zaf j.now ac.h ac.b (fitT ac.text)).h2.left]):=D 16 (by decide);have pE:a.eval (.tmp 22)=.int .i64 (changeE j.now ac.h ac.b (fitT ac.text)):=D 14 (by decide)
  have A9:F.heap.size≤T:=by
   rcases A.2 with h0|⟨T',e,h3,h4,h5⟩
   ·rw[h0]at M;cases M
   ·rw[e]at M;cases M;exact h3
  show wpOps prog _ _ [17] a W;rw[wpOps_cons];refine zar (.int .i64 (changeE j.now ac.h ac.b (fitT ac.text))) rfl rfl (by revert pE;generalize a.eval=ρ;intro pE;simp only[execOp];go_simp) ?_;have F0:a.tmps.size=45:=C.size.trans I;obtain⟨a2,r⟩:∃a2,a2=a.put (some 6) (.int .i64 (changeE j.now ac.h ac.b (fitT ac.text))):=⟨_,rfl⟩;have f6:a2.eval (.tmp 6)=.int .i64 (changeE j.now ac.h ac.b (fitT ac.text)):=by rw[r];exact Act.eval_put_same _ _ _ (by rw[F0];decide)
  have f0:a2.eval (.tmp 0)=.pointer (some ⟨B,0,none⟩):=by rw[r,Act.eval_put_ne _ _ _ _ (by decide)];exact(C.other 0 rfl).trans v0
  have f3:a2.eval (.tmp 3)=.pointer (some ⟨w.heap.size,0,none⟩):=by rw[r,Act.eval_put_ne _ _ _ _ (by decide)];exact(C.other 3 rfl).trans v3
  have f4:a2.eval (.tmp 4)=.pointer (some ⟨w.heap.size+1,0,none⟩):=by rw[r,Act.eval_put_ne _ _ _ _ (by decide)];exact(C.other 4 rfl).trans v4
  have f5:a2.eval (.tmp 5)=.pointer (some ⟨T,0,none⟩):=by rw[r,Act.eval_put_ne _ _ _ _ (by decide)];exact M
  have B1:a2=⟨#[_,_,_,_,_,_,_,_,_,_,_,_,_,_,_,_,_,_,_,_,_,_,_,_,_,_,_,_,_,_,_,_,_,_,_,_,_,_,_,_,_,_,_,_,_],[]⟩:=zcn a2 45 (by rw[r,Act.size_put];exact F0) (by rw[r,Act.defers_put'];exact C.defers.trans I1);dsimp only at B1;rw[f0,f3,f4,f5,f6]at B1;show KK (a.put (some 6) (.int .i64 (changeE j.now ac.h ac.b (fitT ac.text)))) _;rw[←r];exact(congrArg (fun x=>KK x _) B1).mpr (D6.o (fun k=>a2.eval (.tmp k)) _ T Z U Q d S R q s m A9 A.1)
theorem JAt.last{w:World}{B:Nat}{X:List Nat}{j:Jn}(h:JAt w B X j):w.cell? ⟨B,5,none⟩=some (.int .i64 j.last)∧w.frozen? ⟨B,5,none⟩=false:=by
 obtain⟨_,da,dc,db,dd,na,nc,nb,nd,ne,nf,sa,sc,sb,sd,se,sf,ca,cc,fa,fc,ta,tc,A,_⟩:=h;exact⟨(zak A 5).trans rfl,frozen_of_row w _ _ _ _ A⟩
def zgk (B:Nat)(D:Nat)(j:Jn)(ac:Ac)(X:List Nat)(na:Option Addr)(nc:Nat)(nb:Option Addr)(nd:Nat)(ne:Option Addr)(nf:Nat):Nat→Value→Value→World→Prop
 |0,v,_,_=>v=.pointer (some ⟨B,0,none⟩)
 |1,v,_,_=>v=.pointer (some ⟨B,0,none⟩)
 |2,v,_,_=>v=.pointer (some ⟨B,31,none⟩)
 |3,v,_,_=>v=.agg #[.int .i64 j.now.seq,.slice na j.now.info.length nc,.slice nb j.now.data.length nd,.slice ne j.now.rev.length nf,.bool j.now.h0.on,.int .i64 j.now.h0.left,.bool j.now.h1.on,.int .i64 j.now.h1.left,.bool j.now.h2.on,.int .i64 j.now.h2.left]
 |4,v,_,_=>v=.pointer (some ⟨D,1,none⟩)
 |5,v,_,_=>v=.int .i64 ac.h
 |6,v,_,_=>v=.pointer (some ⟨D,2,none⟩)
 |7,v,_,_=>v=.int .i64 ac.b
 |8,v,_,_=>v=.pointer (some ⟨D,4,none⟩)
 |9,v,_,_=>v=.string ac.text
 |10,v,_,_=>v=.string (fitT ac.text)
 |11,v,u,w=>∃v2,v=.tuple #[v2,.int .i64 (fillE j.now ac.h ac.b (fitT ac.text))]∧okTx X (zao j.now ac.h ac.b (fitT ac.text)) v2 u w
 |12,v,u,w=>∃v2,v=.tuple #[v2,.int .i64 (fillE j.now ac.h ac.b (fitT ac.text))]∧okTx X (zao j.now ac.h ac.b (fitT ac.text)) v2 u w
 |13,v,u,w=>okTx X (zao j.now ac.h ac.b (fitT ac.text)) v u w
 |14,v,_,_=>v=.int .i64 (fillE j.now ac.h ac.b (fitT ac.text))
 |15,v,_,_=>∃T,v=.pointer (some ⟨T,0,none⟩)
 |16,v,_,w=>∃T ua uc ub ud ue uf,v=.pointer (some ⟨T,0,none⟩)∧w.heap[T]?=some (.cells #[.int .i64 (zao j.now ac.h ac.b (fitT ac.text)).seq,.slice ua (zao j.now ac.h ac.b (fitT ac.text)).info.length uc,.slice ub (zao j.now ac.h ac.b (fitT ac.text)).data.length ud,.slice ue (zao j.now ac.h ac.b (fitT ac.text)).rev.length uf,.bool (zao j.now ac.h ac.b (fitT ac.text)).h0.on,.int .i64 (zao j.now ac.h ac.b (fitT ac.text)).h0.left,.bool (zao j.now ac.h ac.b (fitT ac.text)).h1.on,.int .i64 (zao j.now ac.h ac.b (fitT ac.text)).h1.left,.bool (zao j.now ac.h ac.b (fitT ac.text)).h2.on,.int .i64 (zao j.now ac.h ac.b (fitT ac.text)).h2.left] 40 (0,0))∧IsTx (zau w (T::X)) (.agg #[.int .i64 (zao j.now ac.h ac.b (fitT ac.text)).seq,.slice ua (zao j.now ac.h ac.b (fitT ac.text)).info.length uc,.slice ub (zao j.now ac.h ac.b (fitT ac.text)).data.length ud,.slice ue (zao j.now ac.h ac.b (fitT ac.text)).rev.length uf,.bool (zao j.now ac.h ac.b (fitT ac.text)).h0.on,.int .i64 (zao j.now ac.h ac.b (fitT ac.text)).h0.left,.bool (zao j.now ac.h ac.b (fitT ac.text)).h1.on,.int .i64 (zao j.now ac.h ac.b (fitT ac.text)).h1.left,.bool (zao j.now ac.h ac.b (fitT ac.text)).h2.on,.int .i64 (zao j.now ac.h ac.b (fitT ac.text)).h2.left]) (zao j.now ac.h ac.b (fitT ac.text))∧RoomTx (.agg #[.int .i64 (zao j.now ac.h ac.b (fitT ac.text)).seq,.slice ua (zao j.now ac.h ac.b (fitT ac.text)).info.length uc,.slice ub (zao j.now ac.h ac.b (fitT ac.text)).data.length ud,.slice ue (zao j.now ac.h ac.b (fitT ac.text)).rev.length uf,.bool (zao j.now ac.h ac.b (fitT ac.text)).h0.on,.int .i64 (zao j.now ac.h ac.b (fitT ac.text)).h0.left,.bool (zao j.now ac.h ac.b (fitT ac.text)).h1.on,.int .i64 (zao j.now ac.h ac.b (fitT ac.text)).h1.left,.bool (zao j.now ac.h ac.b (fitT ac.text)).h2.on,.int .i64 (zao j.now ac.h ac.b (fitT ac.text)).h2.left])
 |_,_,_,_=>True
theorem zmp{B:Nat}{D:Nat}{j:Jn}{ac:Ac}{X:List Nat}{na:Option Addr}{nc:Nat}{nb:Option Addr}{nd:Nat}{ne:Option Addr}{nf:Nat}{u:Value}{w w':World}(hb:Below w.heap.size w w'):∀kk x,zgk B D j ac X na nc nb nd ne nf kk x u w→zgk B D j ac X na nc nb nd ne nf kk x u w':=by
 intro kk x h
 match kk,h with
 |0,h|1,h|2,h|3,h|4,h|5,h|6,h|7,h|8,h|9,h|10,h=>exact h
 |11,⟨v2,h1,h2⟩=>exact⟨v2,h1,h2.below hb⟩
 |12,⟨v2,h1,h2⟩=>exact⟨v2,h1,h2.below hb⟩
 |13,h=>exact h.below hb
 |14,h|15,h=>exact h
 |16,⟨T,ua,uc,ub,ud,ue,uf,h1,h2,h3,h4⟩=>exact⟨T,ua,uc,ub,ud,ue,uf,h1,zad hb (Array.getElem?_eq_some_iff.1 h2).1 h2,h3.ext (Ext.freshL hb),h4⟩
 |_+17,_=>exact trivial
theorem zue{B:Nat}{D:Nat}{j:Jn}{ac:Ac}{X:List Nat}{na:Option Addr}{nc:Nat}{nb:Option Addr}{nd:Nat}{ne:Option Addr}{nf:Nat}{u:Value}{w:World}(o:Obj):∀kk x,zgk B D j ac X na nc nb nd ne nf kk x u w→zgk B D j ac X na nc nb nd ne nf kk x (.pointer (some ⟨w.heap.size,0,none⟩)) (w.alloc o):=by
 intro kk x h
 match kk,h with
 |0,h|1,h|2,h|3,h|4,h|5,h|6,h|7,h|8,h|9,h|10,h=>exact h
 |11,⟨v2,h1,h2⟩=>exact⟨v2,h1,h2.alloc o⟩
 |12,⟨v2,h1,h2⟩=>exact⟨v2,h1,h2.alloc o⟩
 |13,h=>exact h.alloc o
 |14,h|15,h=>exact h
 |16,⟨T,ua,uc,ub,ud,ue,uf,h1,h2,h3,h4⟩=>exact⟨T,ua,uc,ub,ud,ue,uf,h1,zad (zaa _ _) (Array.getElem?_eq_some_iff.1 h2).1 h2,h3.ext (Ext.freshL (zaa _ _)),h4⟩
 |_+17,_=>exact trivial
theorem zuf{B:Nat}{D:Nat}{j:Jn}{ac:Ac}{X:List Nat}{na:Option Addr}{nc:Nat}{nb:Option Addr}{nd:Nat}{ne:Option Addr}{nf:Nat}{u:Value}{w w':World}(hs:∀t x,okTx X t x u w→okTx X t x u w'):∀kk x,kk≠16→zgk B D j ac X na nc nb nd ne nf kk x u w→zgk B D j ac X na nc nb nd ne nf kk x u w':=by
 intro kk x A h
 match kk,h with
 |0,h|1,h|2,h|3,h|4,h|5,h|6,h|7,h|8,h|9,h|10,h=>exact h
 |11,⟨y,h1,h2⟩=>exact⟨y,h1,hs _ _ h2⟩
 |12,⟨y,h1,h2⟩=>exact⟨y,h1,hs _ _ h2⟩
 |13,h=>exact hs _ _ h
 |14,h|15,h=>exact h
 |16,_=>exact absurd rfl A
 |_+17,_=>exact trivial
theorem z0u(B:Nat)(X:List Nat)(j:Jn)(w:World)(h:JAt w B X j)(hX:∀x∈X,x<w.heap.size)(ac:Ac)(hsz2:ac.text.size≤maxLen)(r1:j.now.info.length*24≤140737488355328)(r2:j.now.data.length*24≤140737488355328):
  Calls prog 83 #[.pointer (some ⟨B,0,none⟩),.agg #[.int .i64 ac.kind,.int .i64 ac.h,.int .i64 ac.b,.int .i64 ac.n,.string ac.text]] w (zdj w B X (zjz j ac)):=by
 have HJ:=zab h;have K1:=h.lt;have B2:=h.1;have HX:=zab hX;clear h hX;go_enter func83,ntmps83;go_wp2;rename_i KK D1;obtain⟨F,A7⟩:∃F,F=(w.alloc (.cells #[.int .i64 ac.kind,.int .i64 ac.h,.int .i64 ac.b,.int .i64 ac.n,.string ac.text] 23)).alloc (.cells #[.int .i64 0,.int .i64 0,.string ⟨#[]⟩] 31):=⟨_,rfl⟩;have H0:(w.alloc (.cells #[.int .i64 ac.kind,.int .i64 ac.h,.int .i64 ac.b,.int .i64 ac.n,.string ac.text] 23)).heap.size=w.heap.size+1:=by simp
 have O:Hid (JAt F B ((w.heap.size+1)::X) j):=by rw[A7];exact(HJ.o.below (zaa _ _)).more (zaa _ _) (by omega)
 have c:Hid (Below w.heap.size w F):=by rw[A7];exact zae (zaa _ _) (zaa _ _)
 have L:Hid (F.heap[w.heap.size+1]?=some (.cells #[.int .i64 0,.int .i64 0,.string ⟨#[]⟩] 31 (0,0))):=by rw[A7,←H0];exact heap_alloc_new _ _
 have D3:Hid (F.heap[w.heap.size]?=some (.cells #[.int .i64 ac.kind,.int .i64 ac.h,.int .i64 ac.b,.int .i64 ac.n,.string ac.text] 23 (0,0))):=by rw[A7];exact zad (zaa _ _) (by omega) (heap_alloc_new _ _)
 have K2:F.heap.size=w.heap.size+2:=by rw[A7];simp
 have I7:Hid (∀x∈((w.heap.size+1)::X),x<F.heap.size):=fun x hx=>by
  rcases List.mem_cons.1 hx with rfl|hx
  ·omega
  ·have:=HX.o x hx;omega
 rw[←A7];clear A7 H0;have Z:B<F.heap.size:=by omega
 have B8:w.heap.size<F.heap.size:=by omega
 have C4:∀(g:Nat→Value) (s:World) (T:Nat) (q:Option Addr) (p:Nat) (i:Option Addr) (r:Nat) (m:Option Addr) (l:Nat),IsTx (zau s (T::((w.heap.size+1)::X))) (.agg #[.int .i64 (zao j.now ac.h ac.b (fitT ac.text)).seq,.slice q (zao j.now ac.h ac.b (fitT ac.text)).info.length p,.slice i (zao j.now ac.h ac.b (fitT ac.text)).data.length r,.slice m (zao j.now ac.h ac.b (fitT ac.text)).rev.length l,.bool (zao j.now ac.h ac.b (fitT ac.text)).h0.on,.int .i64 (zao j.now ac.h ac.b (fitT ac.text)).h0.left,.bool (zao j.now ac.h ac.b (fitT ac.text)).h1.on,.int .i64 (zao j.now ac.h ac.b (fitT ac.text)).h1.left,.bool (zao j.now ac.h ac.b (fitT ac.text)).h2.on,.int .i64 (zao j.now ac.h ac.b (fitT ac.text)).h2.left]) (zao j.now ac.h ac.b (fitT ac.text))→RoomTx (.agg #[.int .i64 (zao j.now ac.h ac.b (fitT ac.text)).seq,.slice q (zao j.now ac.h ac.b (fitT ac.text)).info.length p,.slice i (zao j.now ac.h ac.b (fitT ac.text)).data.length r,.slice m (zao j.now ac.h ac.b (fitT ac.text)).rev.length l,.bool (zao j.now ac.h ac.b (fitT ac.text)).h0.on,.int .i64 (zao j.now ac.h ac.b (fitT ac.text)).h0.left,.bool (zao j.now ac.h ac.b (fitT ac.text)).h1.on,.int .i64 (zao j.now ac.h ac.b (fitT ac.text)).h1.left,.bool (zao j.now ac.h ac.b (fitT ac.text)).h2.on,.int .i64 (zao j.now ac.h ac.b (fitT ac.text)).h2.left])→s.heap[T]?=some (.cells #[.int .i64 (zao j.now ac.h ac.b (fitT ac.text)).seq,.slice q (zao j.now ac.h ac.b (fitT ac.text)).info.length p,.slice i (zao j.now ac.h ac.b (fitT ac.text)).data.length r,.slice m (zao j.now ac.h ac.b (fitT ac.text)).rev.length l,.bool (zao j.now ac.h ac.b (fitT ac.text)).h0.on,.int .i64 (zao j.now ac.h ac.b (fitT ac.text)).h0.left,.bool (zao j.now ac.h ac.b (fitT ac.text)).h1.on,.int .i64 (zao j.now ac.h ac.b (fitT ac.text)).h1.left,.bool (zao j.now ac.h ac.b (fitT ac.text)).h2.on,.int .i64 (zao j.now ac.h ac.b (fitT ac.text)).h2.left] 40 (0,0))→F.heap.size≤T→Below F.heap.size F s→KK ⟨#[.pointer (some ⟨B,0,none⟩),g 1,g 2,.pointer (some ⟨w.heap.size,0,none⟩),.pointer (some ⟨w.heap.size+1,0,none⟩),.pointer (some ⟨T,0,none⟩),.int .i64 (fillE j.now ac.h ac.b (fitT ac.text)),g 7,g 8,g 9,g 10,g 11,g 12,g 13,g 14,g 15,g 16,g 17,g 18,g 19,g 20,g 21,g 22,g 23,g 24,g 25,g 26,g 27,g 28,g 29,g 30,g 31,g 32,g 33,g 34,g 35,g 36,g 37,g 38,g 39,g 40,g 41,g 42,g 43,g 44,g 45,g 46,g 47,g 48,g 49,g 50,g 51,g 52,g 53,g 54,g 55,g 56],[]⟩ s:=by
  intro g s T q p i r m l y A6 u B5 B1;apply D1;clear D1;have D9:=zab (y.ext (Ext.lessL T));have E5:=zab A6;have KT:=zab u;have D2:=zab (O.o.below B1);have C8:=zab (zae c.o B1);have E0:=zab (zad B1 (show w.heap.size+1<F.heap.size by omega) L.o);have C3:=zab (zad B1 B8 D3.o);have K6:F.heap.size≤s.heap.size:=B1.size;have I9:T<s.heap.size:=(Array.getElem?_eq_some_iff.1 u).1;clear y A6 u B1 O c L D3;obtain⟨t,ht⟩:∃t,t=zao j.now ac.h ac.b (fitT ac.text):=⟨_,rfl⟩;rw[←ht]at D9 E5 KT;have A9:w.heap.size+1≠B:=by omega
  by_cases he:fillE j.now ac.h ac.b (fitT ac.text)=0
  ·obtain⟨I6,I0⟩:=zxm he;obtain⟨M,D6⟩:∃M:Nat,ac.b=(M:Int):=⟨ac.b.toNat,by omega⟩;have B6:M<12:=by omega
   have HW:Hid (zjz j ac=if j.role M=1 then(j,zat 8) else if j.last<j.freed M then(j,zat 9) else({j with role:=upd j.role M 2,now:=t},zat 0)):=by
    rw[Hid,zjz,if_pos he,←ht,D6,Int.toNat_natCast]
   rw[he];rw[D6]at C3;clear he ht D6 I6 I0;obtain⟨⟨y0,y1,y2,y3,y4⟩,yf⟩:=zis C3.o;have J8:(0:Int)≤(M:Int):=by omega
   have J6:(M:Int)<12:=by omega
   go_wp2
   go_quiet (fail)
   obtain⟨Q,D7⟩:∃Q,Q=s.drewN nq:=⟨_,rfl⟩;have J:Below s.heap.size s Q:=by rw[D7];exact below_drewN (Below.refl _ _) _
   have A8:=zab (D2.o.below J);have B0:Hid (ButL [B] w.heap.size w Q):=ButL.of_below (zae C8.o J);have B9:=zab (zad J (show w.heap.size+1<s.heap.size by omega) E0.o);have F9:=zab (zad J I9 KT.o);have E1:=zab (D9.o.ext (Ext.freshL J));have K3:s.heap.size≤Q.heap.size:=J.size;rw[←D7];clear D7 J y0 y1 y2 y3 y4 yf D2 C8 E0 KT D9 C3;obtain⟨C1,I3,D4,H8⟩:=A8.o.role M B6;by_cases hro:j.role M=1
   ·have HE:Hid (zjz j ac=(j,zat 8)):=by rw[Hid,HW.o,if_pos hro]
    rw[hro]at C1;clear hro HW;go_wp2_with fail;have B3:=A8;have A5:=B0;have KR:=B9;have B4:w.heap.size+1<Q.heap.size:=by omega
    refine(zav 8 _).mono ?_;rintro e w2 ⟨rfl,I⟩;have L:=zab (zad I B4 KR.o);have O:=zab (B3.o.below I);have c:=zab (A5.o.trans (Y:=[]) (ButL.of_below I) A5.o.size (by simp));clear I;obtain⟨⟨y0,y1,y2⟩,yf⟩:=zbn L.o;go_wp2;exact zbd HE.o L.o O.o c.o A9 B2 fun W u0 u1 u2=>by simp[results,results83,go_sem,u0,u1,u2]
   ·have J7:(j.role M==1)=false:=by simpa using hro
    have C0:Hid (zjz j ac=if j.last<j.freed M then(j,zat 9) else({j with role:=upd j.role M 2,now:=t},zat 0)):=by rw[Hid,HW.o,if_neg hro]
    clear hro HW;obtain⟨J2,H5⟩:=A8.o.last;by_cases hfr:j.last<j.freed M
    ·have HE:Hid (zjz j ac=(j,zat 9)):=by rw[Hid,C0.o,if_pos hfr]
     clear C0;go_wp2_with fail
     go_quiet (fail)
     obtain⟨R,N⟩:∃R,R=Q.drewN nq:=⟨_,rfl⟩;have J:Below Q.heap.size Q R:=by rw[N];exact below_drewN (Below.refl _ _) _
     have B3:=zab (A8.o.below J);have A5:Hid (ButL [B] w.heap.size w R):=B0.o.trans (Y:=[]) (ButL.of_below J) B0.o.size (by simp);have KR:=zab (zad J (show w.heap.size+1<Q.heap.size by omega) B9.o);have H6:Q.heap.size≤R.heap.size:=J.size;rw[←N];clear N J;have B4:w.heap.size+1<R.heap.size:=by omega
     go_wp2_with fail;refine(zav 9 _).mono ?_;rintro e w2 ⟨rfl,I⟩;have L:=zab (zad I B4 KR.o);have O:=zab (B3.o.below I);have c:=zab (A5.o.trans (Y:=[]) (ButL.of_below I) A5.o.size (by simp));clear I;obtain⟨⟨y0,y1,y2⟩,yf⟩:=zbn L.o;go_wp2;exact zbd HE.o L.o O.o c.o A9 B2 fun W u0 u1 u2=>by simp[results,results83,go_sem,u0,u1,u2]
    ·have HE:Hid (zjz j ac=({j with role:=upd j.role M 2,now:=t},zat 0)):=by rw[Hid,C0.o,if_neg hfr]
     clear C0;go_wp2_with fail
     go_quiet (fail)
     obtain⟨W7,C6⟩:∃W7,W7=Q.drewN nq:=⟨_,rfl⟩;have J:Below Q.heap.size Q W7:=by rw[C6];exact below_drewN (Below.refl _ _) _
     have C9:=zab (A8.o.below J);have G2:Hid (ButL [B] w.heap.size w W7):=B0.o.trans (Y:=[]) (ButL.of_below J) B0.o.size (by simp);have G1:=zab (zad J (show w.heap.size+1<Q.heap.size by omega) B9.o);have F0:=zab (zad J (show T<Q.heap.size by omega) F9.o);have D5:=zab (E1.o.ext (Ext.freshL J));have K0:Q.heap.size≤W7.heap.size:=J.size;rw[←C6];clear C6 J C1 I3 D4 H8 J2 H5 A8 B0 B9 F9 E1;obtain⟨C1,_,D4,_⟩:=C9.o.role M B6;obtain⟨⟨t0,t1,t2,t3,t4,t5,t6,t7,t8,t9⟩,tf⟩:=zaj F0.o;have K4:¬T=B:=by omega
     have K5:¬B=T:=by omega
     go_wp2_with fail;obtain⟨R,N⟩:∃R,R=W7.setCell ⟨B,7+M*2,none⟩ (.int .i64 2):=⟨_,rfl⟩;have F8:Hid (JAt R B ((w.heap.size+1)::X) {j with role:=upd j.role M 2}):=by rw[N];exact C9.o.putRole M B6 2
     have C5:Hid (IsTx (zau R ((w.heap.size+1)::X)) (.agg #[.int .i64 t.seq,.slice q t.info.length p,.slice i t.data.length r,.slice m t.rev.length l,.bool t.h0.on,.int .i64 t.h0.left,.bool t.h1.on,.int .i64 t.h1.left,.bool t.h2.on,.int .i64 t.h2.left]) t):=by rw[N];exact D5.o.ext (Ext.setL (by simp[B2]) _ _)
     have D8:Hid (ButL [B] w.heap.size w R):=by rw[N];exact G2.o.set (.inl (by simp)) _ _
     have G9:Hid (R.heap[w.heap.size+1]?=some (.cells #[.int .i64 0,.int .i64 0,.string ⟨#[]⟩] 31 (0,0))):=by rw[N];exact(Below.heap_setCell _ _ _ _ A9).trans G1.o
     have H6:R.heap.size=W7.heap.size:=by rw[N];simp[World.setCell]
     rw[←N];clear N C1 D4 t0 t1 t2 t3 t4 t5 t6 t7 t8 t9 tf C9 D5 G2 G1 F0;refine(zjl B ((w.heap.size+1)::X) _ R F8.o t q p i r m l C5.o E5.o 0).mono ?_;rintro e w2 ⟨rfl,H1,C2⟩;have O:Hid (JAt w2 B ((w.heap.size+1)::X) {j with role:=upd j.role M 2,now:=t}):=H1;have c:=zab (D8.o.trans (Y:=[B]) C2 D8.o.size (by simp));have L:=zab ((C2.block _ (show w.heap.size+1<R.heap.size by omega) (by simpa using A9)).trans G9.o);clear H1 C2 F8 D8 G9 C5;dsimp only[zm2,vRp,zat];obtain⟨⟨y0,y1,y2⟩,yf⟩:=zbn L.o;go_wp2;exact zbd HE.o L.o O.o c.o A9 B2 fun W u0 u1 u2=>by simp[results,results83,go_sem,u0,u1,u2]
  ·have HE:Hid (zjz j ac=(j,zat (fillE j.now ac.h ac.b (fitT ac.text)))):=by rw[Hid,zjz,if_neg he]
   have J9:(fillE j.now ac.h ac.b (fitT ac.text) !=0)=true:=by simpa using he
   clear he ht;generalize fillE j.now ac.h ac.b (fitT ac.text)=E at *;go_wp2_with fail;have B3:=D2;have A5:Hid (ButL [B] w.heap.size w s):=ButL.of_below C8.o;have KR:=E0;have B4:w.heap.size+1<s.heap.size:=by omega
   refine(zav E _).mono ?_;rintro e w2 ⟨rfl,I⟩;have L:=zab (zad I B4 KR.o);have O:=zab (B3.o.below I);have c:=zab (A5.o.trans (Y:=[]) (ButL.of_below I) A5.o.size (by simp));clear I;obtain⟨⟨y0,y1,y2⟩,yf⟩:=zbn L.o;go_wp2;exact zbd HE.o L.o O.o c.o A9 B2 fun W u0 u1 u2=>by simp[results,results83,go_sem,u0,u1,u2]
 have E2:=zab C4;clear C4 D1;obtain⟨_,da,dc,db,dd,na,nc,nb,nd,ne,nf,sa,sc,sb,sd,se,sf,ca,cc,fa,fc,ta,tc,h1,hr⟩:=id O.o;have F2:F.cell? ⟨B,31,none⟩=some (.int .i64 j.now.seq):=zak h1 31;have F5:F.cell? ⟨B,32,none⟩=some (.slice na j.now.info.length nc):=zak h1 32;have E7:F.cell? ⟨B,33,none⟩=some (.slice nb j.now.data.length nd):=zak h1 33;have E8:F.cell? ⟨B,34,none⟩=some (.slice ne j.now.rev.length nf):=zak h1 34;have G8:F.cell? ⟨B,35,none⟩=some (.bool j.now.h0.on):=zak h1 35;have E3:F.cell? ⟨B,36,none⟩=some (.int .i64 j.now.h0.left):=zak h1 36;have G6:F.cell? ⟨B,37,none⟩=some (.bool j.now.h1.on):=zak h1 37;have G4:F.cell? ⟨B,38,none⟩=some (.int .i64 j.now.h1.left):=zak h1 38;have E4:F.cell? ⟨B,39,none⟩=some (.bool j.now.h2.on):=zak h1 39;have F4:F.cell? ⟨B,40,none⟩=some (.int .i64 j.now.h2.left):=zak h1 40;have I8:=zab F2;have J1:=zab F5;have J5:=zab E7;have H7:=zab E8;have I2:=zab G8;have H9:=zab E3;have J0:=zab G6;have I5:=zab G4;have I1:=zab E4;have H4:=zab F4;have F6:=zab hr.2.1;have J4:=zab hr.2.2.2.2.2.2.1;clear h1 hr F2 F5 E7 E8 G8 E3 G6 G4 E4 F4;obtain⟨⟨y0,y1,y2,y3,y4⟩,_⟩:=zis D3.o;have A0:=zab y0;have A1:=zab y1;have A2:=zab y2;have A3:=zab y3;have A4:=zab y4;clear y0 y1 y2 y3 y4;refine(show∀A0:Act,A0=_→Code.wp prog _ _ A0 _ from fun A0 hA0=>?_) _ rfl;have K:A0.tmps.size=57:=by rw[hA0];rfl
 have J3:A0.defers=[]:=by rw[hA0]
 have v0:A0.eval (.tmp 0)=.pointer (some ⟨B,0,none⟩):=by rw[hA0];rfl
 have v3:A0.eval (.tmp 3)=.pointer (some ⟨w.heap.size,0,none⟩):=by rw[hA0];rfl
 have v4:A0.eval (.tmp 4)=.pointer (some ⟨w.heap.size+1,0,none⟩):=by rw[hA0];rfl
 have v5:A0.eval (.tmp 5)=undef:=by rw[hA0];rfl
 clear hA0;refine zde 17 5 (zmk F) [9,10,11,12,13,14,15,16,17,18,19,20,8,21,22,5,5] (zgk B w.heap.size j ac ((w.heap.size+1)::X) na nc nb nd ne nf) (by kernel_rfl) (by kernel_rfl) (by kernel_rfl) (by kernel_rfl) (by decide) (⟨(Below.refl _ _).drew,.inl v5⟩) ⟨?_,?_,?_,?_,?_,?_,?_,?_,?_,?_,?_,?_,?_,?_,?_,?_,?_,trivial⟩ ?_
 ·intro a w' C A D;have z0:=(C.other 0 rfl).trans v0;exact zby _ rfl rfl (by revert z0;generalize a.eval=ρ;intro z0;simp only[execOp];go_simp) C K A rfl
 ·intro a w' C A D;have p9:a.eval (.tmp 9)=.pointer (some ⟨B,0,none⟩):=D ⟨0,.data⟩ (by simp) rfl;exact zby _ rfl rfl (by revert p9;generalize a.eval=ρ;intro p9;simp only[execOp];go_simp) C K A rfl
 ·intro a w' C A D;have G0:a.eval (.tmp 10)=.pointer (some ⟨B,0,none⟩):=D ⟨1,.data⟩ (by simp) rfl;exact zby _ rfl rfl (by revert G0;generalize a.eval=ρ;intro G0;simp only[execOp];go_simp) C K A rfl
 ·intro a w' C A D;have F1:a.eval (.tmp 11)=.pointer (some ⟨B,31,none⟩):=D ⟨2,.data⟩ (by simp) rfl;have c0:w'.cell? ⟨B,31,none⟩=some (.int .i64 j.now.seq):=zac A.1 Z I8.o;have c1:w'.cell? ⟨B,32,none⟩=some (.slice na j.now.info.length nc):=zac A.1 Z J1.o;have c2:w'.cell? ⟨B,33,none⟩=some (.slice nb j.now.data.length nd):=zac A.1 Z J5.o;have c3:w'.cell? ⟨B,34,none⟩=some (.slice ne j.now.rev.length nf):=zac A.1 Z H7.o;have c4:w'.cell? ⟨B,35,none⟩=some (.bool j.now.h0.on):=zac A.1 Z I2.o;have c5:w'.cell? ⟨B,36,none⟩=some (.int .i64 j.now.h0.left):=zac A.1 Z H9.o;have c6:w'.cell? ⟨B,37,none⟩=some (.bool j.now.h1.on):=zac A.1 Z J0.o;have c7:w'.cell? ⟨B,38,none⟩=some (.int .i64 j.now.h1.left):=zac A.1 Z I5.o;have c8:w'.cell? ⟨B,39,none⟩=some (.bool j.now.h2.on):=zac A.1 Z I1.o;have c9:w'.cell? ⟨B,40,none⟩=some (.int .i64 j.now.h2.left):=zac A.1 Z H4.o;exact zby _ rfl rfl (by revert F1;generalize a.eval=ρ;intro F1;simp only[execOp];go_simp) C K A rfl
 ·intro a w' C A D;have z3:=(C.other 3 rfl).trans v3;exact zby _ rfl rfl (by revert z3;generalize a.eval=ρ;intro z3;simp only[execOp];go_simp) C K A rfl
 ·intro a w' C A D;have H3:a.eval (.tmp 13)=.pointer (some ⟨w.heap.size,1,none⟩):=D ⟨4,.data⟩ (by simp) rfl;have c0:w'.cell? ⟨w.heap.size,1,none⟩=some (.int .i64 ac.h):=zac A.1 B8 A1.o;exact zby _ rfl rfl (by revert H3;generalize a.eval=ρ;intro H3;simp only[execOp];go_simp) C K A rfl
 ·intro a w' C A D;have z3:=(C.other 3 rfl).trans v3;exact zby _ rfl rfl (by revert z3;generalize a.eval=ρ;intro z3;simp only[execOp];go_simp) C K A rfl
 ·intro a w' C A D;have F3:a.eval (.tmp 15)=.pointer (some ⟨w.heap.size,2,none⟩):=D ⟨6,.data⟩ (by simp) rfl;have c0:w'.cell? ⟨w.heap.size,2,none⟩=some (.int .i64 ac.b):=zac A.1 B8 A2.o;exact zby _ rfl rfl (by revert F3;generalize a.eval=ρ;intro F3;simp only[execOp];go_simp) C K A rfl
 ·intro a w' C A D;have z3:=(C.other 3 rfl).trans v3;exact zby _ rfl rfl (by revert z3;generalize a.eval=ρ;intro z3;simp only[execOp];go_simp) C K A rfl
 ·intro a w' C A D;have H2:a.eval (.tmp 17)=.pointer (some ⟨w.heap.size,4,none⟩):=D ⟨8,.data⟩ (by simp) rfl;have c0:w'.cell? ⟨w.heap.size,4,none⟩=some (.string ac.text):=zac A.1 B8 A4.o;exact zby _ rfl rfl (by revert H2;generalize a.eval=ρ;intro H2;simp only[execOp];go_simp) C K A rfl
 ·intro a w' C A D;have E9:a.eval (.tmp 18)=.string ac.text:=D ⟨9,.data⟩ (by simp) rfl;refine zbp 25 #[.string ac.text] rfl rfl (by have pf:=Act.eval_func a 25;revert E9 pf;generalize a.eval=ρ;intro E9 pf;simp only[execOp];go_simp) _ (zgb ac.text _ hsz2) ?_;rintro e w2 ⟨rfl,I⟩;refine⟨_,rfl,_,rfl,?_,?_,?_⟩
  ·show zmk F ((a.put (some 19) _).eval (.tmp 5)) w2;rw[Act.eval_put_ne _ _ _ _ (by decide)];exact zf6 A I
  ·show zgk _ _ _ _ _ _ _ _ _ _ _ _ ((a.put (some 19) _).eval (.tmp 19)) ((a.put (some 19) _).eval (.tmp 5)) w2;rw[zan C K (by decide),Act.eval_put_ne _ _ _ _ (by decide)];exact rfl
  ·intro d x hk h;show zgk _ _ _ _ _ _ _ _ _ _ _ d x ((a.put (some 19) _).eval (.tmp 5)) w2;rw[Act.eval_put_ne _ _ _ _ (by decide)];exact zmp I d x h
 ·intro a w' C A D;have G3:a.eval (.tmp 12)=.agg #[.int .i64 j.now.seq,.slice na j.now.info.length nc,.slice nb j.now.data.length nd,.slice ne j.now.rev.length nf,.bool j.now.h0.on,.int .i64 j.now.h0.left,.bool j.now.h1.on,.int .i64 j.now.h1.left,.bool j.now.h2.on,.int .i64 j.now.h2.left]:=D ⟨3,.data⟩ (by simp) rfl;have E6:a.eval (.tmp 14)=.int .i64 ac.h:=D ⟨5,.data⟩ (by simp) rfl;have G5:a.eval (.tmp 16)=.int .i64 ac.b:=D ⟨7,.data⟩ (by simp) rfl;have G7:a.eval (.tmp 19)=.string (fitT ac.text):=D ⟨10,.data⟩ (by simp) rfl;refine zbp 122 #[.agg #[.int .i64 j.now.seq,.slice na j.now.info.length nc,.slice nb j.now.data.length nd,.slice ne j.now.rev.length nf,.bool j.now.h0.on,.int .i64 j.now.h0.left,.bool j.now.h1.on,.int .i64 j.now.h1.left,.bool j.now.h2.on,.int .i64 j.now.h2.left],.int .i64 ac.h,.int .i64 ac.b,.string (fitT ac.text)] rfl rfl (by have pf:=Act.eval_func a 122;revert G3 E6 G5 G7 pf;generalize a.eval=ρ;intro G3 E6 G5 G7 pf;simp only[execOp];go_simp) _ (zxj _ j.now ac.h ac.b (fitT ac.text) _ ((F6.o.ext (Ext.seenL F _)).below A.1) r1 r2) ?_;rintro e w2 ⟨S,rfl,C7,I,I4⟩;refine⟨_,rfl,_,rfl,?_,?_,?_⟩
  ·show zmk F ((a.put (some 20) _).eval (.tmp 5)) w2;rw[Act.eval_put_ne _ _ _ _ (by decide)];exact zf6 A I
  ·show zgk _ _ _ _ _ _ _ _ _ _ _ _ ((a.put (some 20) _).eval (.tmp 20)) ((a.put (some 20) _).eval (.tmp 5)) w2;rw[zan C K (by decide),Act.eval_put_ne _ _ _ _ (by decide)];exact⟨S,rfl,okTx.made I7.o F6.o J4.o A C7 I I4⟩
  ·intro d x hk h;show zgk _ _ _ _ _ _ _ _ _ _ _ d x ((a.put (some 20) _).eval (.tmp 5)) w2;rw[Act.eval_put_ne _ _ _ _ (by decide)];exact zmp I d x h
 ·intro a w' C A D;obtain⟨S,pc,ok⟩:∃S,a.eval (.tmp 20)=.tuple #[S,.int .i64 (fillE j.now ac.h ac.b (fitT ac.text))]∧okTx ((w.heap.size+1)::X) (zao j.now ac.h ac.b (fitT ac.text)) S (a.eval (.tmp 5)) w':=D ⟨11,.data⟩ (by simp) rfl;refine zar (.tuple #[S,.int .i64 (fillE j.now ac.h ac.b (fitT ac.text))]) rfl rfl (by revert pc;generalize a.eval=ρ;intro pc;simp only[execOp];go_simp) ⟨_,rfl,?_,?_,?_⟩
  ·show zmk F ((a.put (some 8) _).eval (.tmp 5)) w';rw[Act.eval_put_ne _ _ _ _ (by decide)];exact A
  ·show zgk _ _ _ _ _ _ _ _ _ _ _ _ ((a.put (some 8) _).eval (.tmp 8)) ((a.put (some 8) _).eval (.tmp 5)) w';rw[zan C K (by decide),Act.eval_put_ne _ _ _ _ (by decide)];exact⟨S,rfl,ok⟩
  ·intro d x hk h;show zgk _ _ _ _ _ _ _ _ _ _ _ d x ((a.put (some 8) _).eval (.tmp 5)) w';rw[Act.eval_put_ne _ _ _ _ (by decide)];exact h
 ·intro a w' C A D;obtain⟨S,pm,ok⟩:∃S,a.eval (.tmp 8)=.tuple #[S,.int .i64 (fillE j.now ac.h ac.b (fitT ac.text))]∧okTx ((w.heap.size+1)::X) (zao j.now ac.h ac.b (fitT ac.text)) S (a.eval (.tmp 5)) w':=D ⟨12,.data⟩ (by simp) rfl;refine zar (S) rfl rfl (by revert pm;generalize a.eval=ρ;intro pm;simp only[execOp];go_simp) ⟨_,rfl,?_,?_,?_⟩
  ·show zmk F ((a.put (some 21) _).eval (.tmp 5)) w';rw[Act.eval_put_ne _ _ _ _ (by decide)];exact A
  ·show zgk _ _ _ _ _ _ _ _ _ _ _ _ ((a.put (some 21) _).eval (.tmp 21)) ((a.put (some 21) _).eval (.tmp 5)) w';rw[zan C K (by decide),Act.eval_put_ne _ _ _ _ (by decide)];exact ok
  ·intro d x hk h;show zgk _ _ _ _ _ _ _ _ _ _ _ d x ((a.put (some 21) _).eval (.tmp 5)) w';rw[Act.eval_put_ne _ _ _ _ (by decide)];exact h
 ·intro a w' C A D;obtain⟨S,pm,ok⟩:∃S,a.eval (.tmp 8)=.tuple #[S,.int .i64 (fillE j.now ac.h ac.b (fitT ac.text))]∧okTx ((w.heap.size+1)::X) (zao j.now ac.h ac.b (fitT ac.text)) S (a.eval (.tmp 5)) w':=D ⟨12,.data⟩ (by simp) rfl;exact zby _ rfl rfl (by revert pm;generalize a.eval=ρ;intro pm;simp only[execOp];go_simp) C K A rfl
 ·intro a w' C A D;refine zfl (.pointer (some ⟨w'.heap.size,0,none⟩)) rfl rfl (w':=w'.alloc (.cells #[.int .i64 0,.slice none 0 0,.slice none 0 0,.slice none 0 0,.bool false,.int .i64 0,.bool false,.int .i64 0,.bool false,.int .i64 0] 40)) (by simp only[execOp];go_simp) ⟨_,rfl,?_,?_,?_⟩
  ·show zmk F ((a.put (some 5) _).eval (.tmp 5)) _;rw[zan C K (by decide)];exact⟨A.1.alloc A.1.size _,.inr ⟨_,rfl,A.1.size,by simp,_,_,_,_,_,_,_,_,_,_,heap_alloc_new _ _⟩⟩
  ·show zgk _ _ _ _ _ _ _ _ _ _ _ _ ((a.put (some 5) _).eval (.tmp 5)) ((a.put (some 5) _).eval (.tmp 5)) _;rw[zan C K (by decide)];exact⟨_,rfl⟩
  ·intro d x hk h;show zgk _ _ _ _ _ _ _ _ _ _ _ d x ((a.put (some 5) _).eval (.tmp 5)) _;rw[zan C K (by decide)];exact zue _ d x h
 ·intro a w' C A D;obtain⟨T,U⟩:∃T,a.eval (.tmp 5)=.pointer (some ⟨T,0,none⟩):=D ⟨15,.data⟩ (by simp) rfl;have ok:okTx ((w.heap.size+1)::X) (zao j.now ac.h ac.b (fitT ac.text)) (a.eval (.tmp 21)) (a.eval (.tmp 5)) w':=D ⟨13,.data⟩ (by simp) rfl
  obtain⟨B5,C7,c0,c1,c2,c3,c4,c5,c6,c7,c8,c9,u⟩:F.heap.size≤T∧T<w'.heap.size∧∃c0 c1 c2 c3 c4 c5 c6 c7 c8 c9,w'.heap[T]?=some (.cells #[c0,c1,c2,c3,c4,c5,c6,c7,c8,c9] 40 (0,0)):=by
   rcases A.2 with h0|⟨T',e,h3,h4,h5⟩
   ·rw[h0]at U;cases U
   ·rw[e]at U;cases U;exact⟨h3,h4,h5⟩
  have y:=ok.2.2 T U;have A6:=ok.2.1;obtain⟨q,p,i,r,m,l,hv,_⟩:=id y;rw[hv]at y A6;obtain⟨⟨t0,t1,t2,t3,t4,t5,t6,t7,t8,t9⟩,tf⟩:=zaj u;refine zco rfl rfl (w':=((((((((((w'.setCell ⟨T,0,none⟩ (.int .i64 (zao j.now ac.h ac.b (fitT ac.text)).seq)).setCell ⟨T,1,none⟩ (.slice q (zao j.now ac.h ac.b (fitT ac.text)).info.length p)).setCell ⟨T,2,none⟩ (.slice i (zao j.now ac.h ac.b (fitT ac.text)).data.length r)).setCell ⟨T,3,none⟩ (.slice m (zao j.now ac.h ac.b (fitT ac.text)).rev.length l)).setCell ⟨T,4,none⟩ (.bool (zao j.now ac.h ac.b (fitT ac.text)).h0.on)).setCell ⟨T,5,none⟩ (.int .i64 (zao j.now ac.h ac.b (fitT ac.text)).h0.left)).setCell ⟨T,6,none⟩ (.bool (zao j.now ac.h ac.b (fitT ac.text)).h1.on)).setCell ⟨T,7,none⟩ (.int .i64 (zao j.now ac.h ac.b (fitT ac.text)).h1.left)).setCell ⟨T,8,none⟩ (.bool (zao j.now ac.h ac.b (fitT ac.text)).h2.on)).setCell ⟨T,9,none⟩ (.int .i64 (zao j.now ac.h ac.b (fitT ac.text)).h2.left))) (by revert U hv;generalize a.eval=ρ;intro U hv;simp only[execOp];go_simp) ⟨_,rfl,?_,?_,?_⟩
  ·show zmk F (a.eval (.tmp 5)) _;exact⟨Below.set10 A.1 B5 _ _ _ _ _ _ _ _ _ _,.inr ⟨T,U,B5,by simpa[World.setCell] using C7,_,_,_,_,_,_,_,_,_,_,zh2 u _ _ _ _ _ _ _ _ _ _⟩⟩
  ·show zgk _ _ _ _ _ _ _ _ _ _ _ _ (a.eval (.tmp 5)) (a.eval (.tmp 5)) _;exact⟨T,q,p,i,r,m,l,U,zh2 u _ _ _ _ _ _ _ _ _ _,y.ext (zpi (by simp) w' _ _ _ _ _ _ _ _ _ _),A6⟩
  ·intro d x hk h;show zgk _ _ _ _ _ _ _ _ _ _ _ d x (a.eval (.tmp 5)) _;rw[U]at h⊢;exact zuf (fun t x h=>h.store _ _ _ _ _ _ _ _ _ _) d x hk h
 ·intro a W C A D;obtain⟨T,q,p,i,r,m,l,U,u,y,A6⟩:∃T q p i r m l,a.eval (.tmp 5)=.pointer (some ⟨T,0,none⟩)∧W.heap[T]?=some (.cells #[.int .i64 (zao j.now ac.h ac.b (fitT ac.text)).seq,.slice q (zao j.now ac.h ac.b (fitT ac.text)).info.length p,.slice i (zao j.now ac.h ac.b (fitT ac.text)).data.length r,.slice m (zao j.now ac.h ac.b (fitT ac.text)).rev.length l,.bool (zao j.now ac.h ac.b (fitT ac.text)).h0.on,.int .i64 (zao j.now ac.h ac.b (fitT ac.text)).h0.left,.bool (zao j.now ac.h ac.b (fitT ac.text)).h1.on,.int .i64 (zao j.now ac.h ac.b (fitT ac.text)).h1.left,.bool (zao j.now ac.h ac.b (fitT ac.text)).h2.on,.int .i64 (zao j.now ac.h ac.b (fitT ac.text)).h2.left] 40 (0,0))∧IsTx (zau W (T::(w.heap.size+1)::X)) (.agg #[.int .i64 (zao j.now ac.h ac.b (fitT ac.text)).seq,.slice q (zao j.now ac.h ac.b (fitT ac.text)).info.length p,.slice i (zao j.now ac.h ac.b (fitT ac.text)).data.length r,.slice m (zao j.now ac.h ac.b (fitT ac.text)).rev.length l,.bool (zao j.now ac.h ac.b (fitT ac.text)).h0.on,.int .i64 (zao j.now ac.h ac.b (fitT ac.text)).h0.left,.bool (zao j.now ac.h ac.b (fitT ac.text)).h1.on,.int .i64 (zao j.now ac.h ac.b (fitT ac.text)).h1.left,.bool (zao j.now ac.h ac.b (fitT ac.text)).h2.on,.int .i64 (zao j.now ac.h ac.b (fitT ac.text)).h2.left]) (zao j.now ac.h ac.b (fitT ac.text))∧RoomTx (.agg #[.int .i64 (zao j.now ac.h ac.b (fitT ac.text)).seq,.slice q (zao j.now ac.h ac.b (fitT ac.text)).info.length p,.slice i (zao j.now ac.h ac.b (fitT ac.text)).data.length r,.slice m (zao j.now ac.h ac.b (fitT ac.text)).rev.length l,.bool (zao j.now ac.h ac.b (fitT ac.text)).h0.on,.int .i64 (zao j.now ac.h ac.b (fitT ac.text)).h0.left,.bool (zao j.now ac.h ac.b (fitT ac.text)).h1.on,.int .i64 (zao j.now ac.h ac.b (fitT ac.text)).h1.left,.bool (zao j.now ac.h ac.b (fitT ac.text)).h2.on,.int .i64 (zao j.now ac.h ac.b (fitT ac.text)).h2.left]):=D 16 (by decide);have pE:a.eval (.tmp 22)=.int .i64 (fillE j.now ac.h ac.b (fitT ac.text)):=D 14 (by decide)
  have B5:F.heap.size≤T:=by
   rcases A.2 with h0|⟨T',e,h3,h4,h5⟩
   ·rw[h0]at U;cases U
   ·rw[e]at U;cases U;exact h3
  show wpOps prog _ _ [17] a W;rw[wpOps_cons];refine zar (.int .i64 (fillE j.now ac.h ac.b (fitT ac.text))) rfl rfl (by revert pE;generalize a.eval=ρ;intro pE;simp only[execOp];go_simp) ?_;have F7:a.tmps.size=57:=C.size.trans K;obtain⟨a2,z⟩:∃a2,a2=a.put (some 6) (.int .i64 (fillE j.now ac.h ac.b (fitT ac.text))):=⟨_,rfl⟩;have f6:a2.eval (.tmp 6)=.int .i64 (fillE j.now ac.h ac.b (fitT ac.text)):=by rw[z];exact Act.eval_put_same _ _ _ (by rw[F7];decide)
  have f0:a2.eval (.tmp 0)=.pointer (some ⟨B,0,none⟩):=by rw[z,Act.eval_put_ne _ _ _ _ (by decide)];exact(C.other 0 rfl).trans v0
  have f3:a2.eval (.tmp 3)=.pointer (some ⟨w.heap.size,0,none⟩):=by rw[z,Act.eval_put_ne _ _ _ _ (by decide)];exact(C.other 3 rfl).trans v3
  have f4:a2.eval (.tmp 4)=.pointer (some ⟨w.heap.size+1,0,none⟩):=by rw[z,Act.eval_put_ne _ _ _ _ (by decide)];exact(C.other 4 rfl).trans v4
  have f5:a2.eval (.tmp 5)=.pointer (some ⟨T,0,none⟩):=by rw[z,Act.eval_put_ne _ _ _ _ (by decide)];exact U
  have B7:a2=⟨#[_,_,_,_,_,_,_,_,_,_,_,_,_,_,_,_,_,_,_,_,_,_,_,_,_,_,_,_,_,_,_,_,_,_,_,_,_,_,_,_,_,_,_,_,_,_,_,_,_,_,_,_,_,_,_,_,_],[]⟩:=zcn a2 57 (by rw[z,Act.size_put];exact F7) (by rw[z,Act.defers_put'];exact C.defers.trans J3);dsimp only at B7;rw[f0,f3,f4,f5,f6]at B7;show KK (a.put (some 6) (.int .i64 (fillE j.now ac.h ac.b (fitT ac.text)))) _;rw[←z];exact(congrArg (fun x=>KK x _) B7).mpr (E2.o (fun k=>a2.eval (.tmp k)) _ T q p i r m l y A6 u B5 A.1)
def zhi (B:Nat)(D:Nat)(j:Jn)(ac:Ac)(X:List Nat)(na:Option Addr)(nc:Nat)(nb:Option Addr)(nd:Nat)(ne:Option Addr)(nf:Nat):Nat→Value→Value→World→Prop
 |0,v,_,_=>v=.pointer (some ⟨B,0,none⟩)
 |1,v,_,_=>v=.pointer (some ⟨B,0,none⟩)
 |2,v,_,_=>v=.pointer (some ⟨B,31,none⟩)
 |3,v,_,_=>v=.agg #[.int .i64 j.now.seq,.slice na j.now.info.length nc,.slice nb j.now.data.length nd,.slice ne j.now.rev.length nf,.bool j.now.h0.on,.int .i64 j.now.h0.left,.bool j.now.h1.on,.int .i64 j.now.h1.left,.bool j.now.h2.on,.int .i64 j.now.h2.left]
 |4,v,_,_=>v=.pointer (some ⟨D,1,none⟩)
 |5,v,_,_=>v=.int .i64 ac.h
 |6,v,_,_=>v=.pointer (some ⟨D,2,none⟩)
 |7,v,_,_=>v=.int .i64 ac.b
 |8,v,u,w=>∃v2,v=.tuple #[v2,.int .i64 (revokeE j.now ac.h ac.b)]∧okTx X (zag j.now ac.h ac.b) v2 u w
 |9,v,u,w=>∃v2,v=.tuple #[v2,.int .i64 (revokeE j.now ac.h ac.b)]∧okTx X (zag j.now ac.h ac.b) v2 u w
 |10,v,u,w=>okTx X (zag j.now ac.h ac.b) v u w
 |11,v,_,_=>v=.int .i64 (revokeE j.now ac.h ac.b)
 |12,v,_,_=>∃T,v=.pointer (some ⟨T,0,none⟩)
 |13,v,_,w=>∃T ua uc ub ud ue uf,v=.pointer (some ⟨T,0,none⟩)∧w.heap[T]?=some (.cells #[.int .i64 (zag j.now ac.h ac.b).seq,.slice ua (zag j.now ac.h ac.b).info.length uc,.slice ub (zag j.now ac.h ac.b).data.length ud,.slice ue (zag j.now ac.h ac.b).rev.length uf,.bool (zag j.now ac.h ac.b).h0.on,.int .i64 (zag j.now ac.h ac.b).h0.left,.bool (zag j.now ac.h ac.b).h1.on,.int .i64 (zag j.now ac.h ac.b).h1.left,.bool (zag j.now ac.h ac.b).h2.on,.int .i64 (zag j.now ac.h ac.b).h2.left] 40 (0,0))∧IsTx (zau w (T::X)) (.agg #[.int .i64 (zag j.now ac.h ac.b).seq,.slice ua (zag j.now ac.h ac.b).info.length uc,.slice ub (zag j.now ac.h ac.b).data.length ud,.slice ue (zag j.now ac.h ac.b).rev.length uf,.bool (zag j.now ac.h ac.b).h0.on,.int .i64 (zag j.now ac.h ac.b).h0.left,.bool (zag j.now ac.h ac.b).h1.on,.int .i64 (zag j.now ac.h ac.b).h1.left,.bool (zag j.now ac.h ac.b).h2.on,.int .i64 (zag j.now ac.h ac.b).h2.left]) (zag j.now ac.h ac.b)∧RoomTx (.agg #[.int .i64 (zag j.now ac.h ac.b).seq,.slice ua (zag j.now ac.h ac.b).info.length uc,.slice ub (zag j.now ac.h ac.b).data.length ud,.slice ue (zag j.now ac.h ac.b).rev.length uf,.bool (zag j.now ac.h ac.b).h0.on,.int .i64 (zag j.now ac.h ac.b).h0.left,.bool (zag j.now ac.h ac.b).h1.on,.int .i64 (zag j.now ac.h ac.b).h1.left,.bool (zag j.now ac.h ac.b).h2.on,.int .i64 (zag j.now ac.h ac.b).h2.left])
 |_,_,_,_=>True
theorem zug{B:Nat}{D:Nat}{j:Jn}{ac:Ac}{X:List Nat}{na:Option Addr}{nc:Nat}{nb:Option Addr}{nd:Nat}{ne:Option Addr}{nf:Nat}{u:Value}{w w':World}(hb:Below w.heap.size w w'):∀kk x,zhi B D j ac X na nc nb nd ne nf kk x u w→zhi B D j ac X na nc nb nd ne nf kk x u w':=by
 intro kk x h
 match kk,h with
 |0,h|1,h|2,h|3,h|4,h|5,h|6,h|7,h=>exact h
 |8,⟨v2,h1,h2⟩=>exact⟨v2,h1,h2.below hb⟩
 |9,⟨v2,h1,h2⟩=>exact⟨v2,h1,h2.below hb⟩
 |10,h=>exact h.below hb
 |11,h|12,h=>exact h
 |13,⟨T,ua,uc,ub,ud,ue,uf,h1,h2,h3,h4⟩=>exact⟨T,ua,uc,ub,ud,ue,uf,h1,zad hb (Array.getElem?_eq_some_iff.1 h2).1 h2,h3.ext (Ext.freshL hb),h4⟩
 |_+14,_=>exact trivial
theorem zuh{B:Nat}{D:Nat}{j:Jn}{ac:Ac}{X:List Nat}{na:Option Addr}{nc:Nat}{nb:Option Addr}{nd:Nat}{ne:Option Addr}{nf:Nat}{u:Value}{w:World}(o:Obj):∀kk x,zhi B D j ac X na nc nb nd ne nf kk x u w→zhi B D j ac X na nc nb nd ne nf kk x (.pointer (some ⟨w.heap.size,0,none⟩)) (w.alloc o):=by
 intro kk x h
 match kk,h with
 |0,h|1,h|2,h|3,h|4,h|5,h|6,h|7,h=>exact h
 |8,⟨v2,h1,h2⟩=>exact⟨v2,h1,h2.alloc o⟩
 |9,⟨v2,h1,h2⟩=>exact⟨v2,h1,h2.alloc o⟩
 |10,h=>exact h.alloc o
 |11,h|12,h=>exact h
 |13,⟨T,ua,uc,ub,ud,ue,uf,h1,h2,h3,h4⟩=>exact⟨T,ua,uc,ub,ud,ue,uf,h1,zad (zaa _ _) (Array.getElem?_eq_some_iff.1 h2).1 h2,h3.ext (Ext.freshL (zaa _ _)),h4⟩
 |_+14,_=>exact trivial
theorem zui{B:Nat}{D:Nat}{j:Jn}{ac:Ac}{X:List Nat}{na:Option Addr}{nc:Nat}{nb:Option Addr}{nd:Nat}{ne:Option Addr}{nf:Nat}{u:Value}{w w':World}(hs:∀t x,okTx X t x u w→okTx X t x u w'):∀kk x,kk≠13→zhi B D j ac X na nc nb nd ne nf kk x u w→zhi B D j ac X na nc nb nd ne nf kk x u w':=by
 intro kk x A h
 match kk,h with
 |0,h|1,h|2,h|3,h|4,h|5,h|6,h|7,h=>exact h
 |8,⟨y,h1,h2⟩=>exact⟨y,h1,hs _ _ h2⟩
 |9,⟨y,h1,h2⟩=>exact⟨y,h1,hs _ _ h2⟩
 |10,h=>exact hs _ _ h
 |11,h|12,h=>exact h
 |13,_=>exact absurd rfl A
 |_+14,_=>exact trivial
theorem zuj(B:Nat)(X:List Nat)(j:Jn)(w:World)(h:JAt w B X j)(hX:∀x∈X,x<w.heap.size)(ac:Ac)(r1:j.now.info.length*24≤140737488355328)(r2:j.now.data.length*24≤140737488355328):
  Calls prog 84 #[.pointer (some ⟨B,0,none⟩),.agg #[.int .i64 ac.kind,.int .i64 ac.h,.int .i64 ac.b,.int .i64 ac.n,.string ac.text]] w (zdj w B X (zey j ac)):=by
 have HJ:=zab h;have I7:=h.lt;have A8:=h.1;have HX:=zab hX;clear h hX;go_enter func84,ntmps84;go_wp2;rename_i KK C1;obtain⟨D,z⟩:∃D,D=(w.alloc (.cells #[.int .i64 ac.kind,.int .i64 ac.h,.int .i64 ac.b,.int .i64 ac.n,.string ac.text] 23)).alloc (.cells #[.int .i64 0,.int .i64 0,.string ⟨#[]⟩] 31):=⟨_,rfl⟩;have F9:(w.alloc (.cells #[.int .i64 ac.kind,.int .i64 ac.h,.int .i64 ac.b,.int .i64 ac.n,.string ac.text] 23)).heap.size=w.heap.size+1:=by simp
 have d:Hid (JAt D B ((w.heap.size+1)::X) j):=by rw[z];exact(HJ.o.below (zaa _ _)).more (zaa _ _) (by omega)
 have m:Hid (Below w.heap.size w D):=by rw[z];exact zae (zaa _ _) (zaa _ _)
 have L:Hid (D.heap[w.heap.size+1]?=some (.cells #[.int .i64 0,.int .i64 0,.string ⟨#[]⟩] 31 (0,0))):=by rw[z,←F9];exact heap_alloc_new _ _
 have C4:Hid (D.heap[w.heap.size]?=some (.cells #[.int .i64 ac.kind,.int .i64 ac.h,.int .i64 ac.b,.int .i64 ac.n,.string ac.text] 23 (0,0))):=by rw[z];exact zad (zaa _ _) (by omega) (heap_alloc_new _ _)
 have I8:D.heap.size=w.heap.size+2:=by rw[z];simp
 have H4:Hid (∀x∈((w.heap.size+1)::X),x<D.heap.size):=fun x hx=>by
  rcases List.mem_cons.1 hx with rfl|hx
  ·omega
  ·have:=HX.o x hx;omega
 rw[←z];clear z F9;have O:B<D.heap.size:=by omega
 have C8:w.heap.size<D.heap.size:=by omega
 have B6:∀(g:Nat→Value) (i:World) (T:Nat) (Z:Option Addr) (U:Nat) (Q:Option Addr) (c:Nat) (S:Option Addr) (R:Nat),IsTx (zau i (T::((w.heap.size+1)::X))) (.agg #[.int .i64 (zag j.now ac.h ac.b).seq,.slice Z (zag j.now ac.h ac.b).info.length U,.slice Q (zag j.now ac.h ac.b).data.length c,.slice S (zag j.now ac.h ac.b).rev.length R,.bool (zag j.now ac.h ac.b).h0.on,.int .i64 (zag j.now ac.h ac.b).h0.left,.bool (zag j.now ac.h ac.b).h1.on,.int .i64 (zag j.now ac.h ac.b).h1.left,.bool (zag j.now ac.h ac.b).h2.on,.int .i64 (zag j.now ac.h ac.b).h2.left]) (zag j.now ac.h ac.b)→RoomTx (.agg #[.int .i64 (zag j.now ac.h ac.b).seq,.slice Z (zag j.now ac.h ac.b).info.length U,.slice Q (zag j.now ac.h ac.b).data.length c,.slice S (zag j.now ac.h ac.b).rev.length R,.bool (zag j.now ac.h ac.b).h0.on,.int .i64 (zag j.now ac.h ac.b).h0.left,.bool (zag j.now ac.h ac.b).h1.on,.int .i64 (zag j.now ac.h ac.b).h1.left,.bool (zag j.now ac.h ac.b).h2.on,.int .i64 (zag j.now ac.h ac.b).h2.left])→i.heap[T]?=some (.cells #[.int .i64 (zag j.now ac.h ac.b).seq,.slice Z (zag j.now ac.h ac.b).info.length U,.slice Q (zag j.now ac.h ac.b).data.length c,.slice S (zag j.now ac.h ac.b).rev.length R,.bool (zag j.now ac.h ac.b).h0.on,.int .i64 (zag j.now ac.h ac.b).h0.left,.bool (zag j.now ac.h ac.b).h1.on,.int .i64 (zag j.now ac.h ac.b).h1.left,.bool (zag j.now ac.h ac.b).h2.on,.int .i64 (zag j.now ac.h ac.b).h2.left] 40 (0,0))→D.heap.size≤T→Below D.heap.size D i→KK ⟨#[.pointer (some ⟨B,0,none⟩),g 1,g 2,.pointer (some ⟨w.heap.size,0,none⟩),.pointer (some ⟨w.heap.size+1,0,none⟩),.pointer (some ⟨T,0,none⟩),.int .i64 (revokeE j.now ac.h ac.b),g 7,g 8,g 9,g 10,g 11,g 12,g 13,g 14,g 15,g 16,g 17,g 18,g 19,g 20,g 21,g 22,g 23,g 24,g 25,g 26,g 27,g 28,g 29,g 30,g 31,g 32,g 33,g 34,g 35,g 36,g 37,g 38,g 39,g 40,g 41,g 42,g 43],[]⟩ i:=by
  intro g i T Z U Q c S R p s l A9 A7;apply C1;clear C1;have D2:=zab (p.ext (Ext.lessL T));have D8:=zab s;have KT:=zab l;have C2:=zab (d.o.below A7);have B9:=zab (zae m.o A7);have D3:=zab (zad A7 (show w.heap.size+1<D.heap.size by omega) L.o);have B5:=zab (zad A7 C8 C4.o);have J2:D.heap.size≤i.heap.size:=A7.size;have H6:T<i.heap.size:=(Array.getElem?_eq_some_iff.1 l).1;clear p s l A7 d m L C4;obtain⟨t,ht⟩:∃t,t=zag j.now ac.h ac.b:=⟨_,rfl⟩;rw[←ht]at D2 D8 KT;have A6:w.heap.size+1≠B:=by omega
  by_cases he:revokeE j.now ac.h ac.b=0
  ·obtain⟨H3,G6⟩:=zrp he;obtain⟨J,C5⟩:∃J:Nat,ac.b=(J:Int):=⟨ac.b.toNat,by omega⟩;have B1:J<12:=by omega
   have HW:Hid (zey j ac=if j.role J=0 then(j,zat 8) else({j with role:=upd j.role J 0,freed:=upd j.freed J t.seq,now:=t},zat 0)):=by
    rw[Hid,zey,if_pos he,←ht,C5,Int.toNat_natCast]
   rw[he];rw[C5]at B5;clear he ht C5 H3 G6;obtain⟨⟨y0,y1,y2,y3,y4⟩,yf⟩:=zis B5.o;have I4:(0:Int)≤(J:Int):=by omega
   have I2:(J:Int)<12:=by omega
   go_wp2
   go_quiet (fail)
   obtain⟨W5,C6⟩:∃W5,W5=i.drewN nq:=⟨_,rfl⟩;have A5:Below i.heap.size i W5:=by rw[C6];exact below_drewN (Below.refl _ _) _
   have B3:=zab (C2.o.below A5);have C7:Hid (ButL [B] w.heap.size w W5):=ButL.of_below (zae B9.o A5);have C9:=zab (zad A5 (show w.heap.size+1<i.heap.size by omega) D3.o);have F0:=zab (zad A5 H6 KT.o);have D4:=zab (D2.o.ext (Ext.freshL A5));have I9:i.heap.size≤W5.heap.size:=A5.size;rw[←C6];clear C6 A5 y0 y1 y2 y3 y4 yf C2 B9 D3 KT D2 B5;obtain⟨F8,G9,H0,G4⟩:=B3.o.role J B1;by_cases hro:j.role J=0
   ·have HE:Hid (zey j ac=(j,zat 8)):=by rw[Hid,HW.o,if_pos hro]
    rw[hro]at F8;clear hro HW;go_wp2_with fail;have C0:=B3;have B0:=C7;have KR:=C9;have C3:w.heap.size+1<W5.heap.size:=by omega
    refine(zav 8 _).mono ?_;rintro e w2 ⟨rfl,K⟩;have L:=zab (zad K C3 KR.o);have d:=zab (C0.o.below K);have m:=zab (B0.o.trans (Y:=[]) (ButL.of_below K) B0.o.size (by simp));clear K;obtain⟨⟨y0,y1,y2⟩,yf⟩:=zbn L.o;go_wp2;exact zbd HE.o L.o d.o m.o A6 A8 fun W u0 u1 u2=>by simp[results,results84,go_sem,u0,u1,u2]
   ·have HE:Hid (zey j ac=({j with role:=upd j.role J 0,freed:=upd j.freed J t.seq,now:=t},zat 0)):=by rw[Hid,HW.o,if_neg hro]
    have I3:(j.role J==0)=false:=by simpa using hro
    clear hro HW;obtain⟨⟨t0,t1,t2,t3,t4,t5,t6,t7,t8,t9⟩,tf⟩:=zaj F0.o;have J0:¬T=B:=by omega
    have J1:¬B=T:=by omega
    go_wp2_with fail;obtain⟨W6,u⟩:∃W6,W6=(W5.setCell ⟨B,7+J*2,none⟩ (.int .i64 0)).setCell ⟨B,7+J*2+1,none⟩ (.int .i64 t.seq):=⟨_,rfl⟩;have E9:Hid (JAt W6 B ((w.heap.size+1)::X) {j with role:=upd j.role J 0,freed:=upd j.freed J t.seq}):=by rw[u,show 7+J*2+1=8+J*2 by omega];exact(B3.o.putRole J B1 0).putFreed J B1 t.seq
    have B7:Hid (IsTx (zau W6 ((w.heap.size+1)::X)) (.agg #[.int .i64 t.seq,.slice Z t.info.length U,.slice Q t.data.length c,.slice S t.rev.length R,.bool t.h0.on,.int .i64 t.h0.left,.bool t.h1.on,.int .i64 t.h1.left,.bool t.h2.on,.int .i64 t.h2.left]) t):=by rw[u];exact(D4.o.ext (Ext.setL (by simp[A8]) _ _)).ext (Ext.setL (by simp[A8]) _ _)
    have D1:Hid (ButL [B] w.heap.size w W6):=by rw[u];exact(C7.o.set (.inl (by simp)) _ _).set (.inl (by simp)) _ _
    have F7:Hid (W6.heap[w.heap.size+1]?=some (.cells #[.int .i64 0,.int .i64 0,.string ⟨#[]⟩] 31 (0,0))):=by rw[u];exact(Below.heap_setCell _ _ _ _ A6).trans ((Below.heap_setCell _ _ _ _ A6).trans C9.o)
    have I5:W6.heap.size=W5.heap.size:=by rw[u];simp[World.setCell]
    rw[←u];clear u F8 H0 G9 G4 t0 t1 t2 t3 t4 t5 t6 t7 t8 t9 tf B3 D4 C7 C9 F0;refine(zjl B ((w.heap.size+1)::X) _ W6 E9.o t Z U Q c S R B7.o D8.o 0).mono ?_;rintro e w2 ⟨rfl,G0,B4⟩;have d:Hid (JAt w2 B ((w.heap.size+1)::X) {j with role:=upd j.role J 0,freed:=upd j.freed J t.seq,now:=t}):=G0;have m:=zab (D1.o.trans (Y:=[B]) B4 D1.o.size (by simp));have L:=zab ((B4.block _ (show w.heap.size+1<W6.heap.size by omega) (by simpa using A6)).trans F7.o);clear G0 B4 E9 D1 F7 B7;dsimp only[zm2,vRp,zat];obtain⟨⟨y0,y1,y2⟩,yf⟩:=zbn L.o;go_wp2;exact zbd HE.o L.o d.o m.o A6 A8 fun W u0 u1 u2=>by simp[results,results84,go_sem,u0,u1,u2]
  ·have HE:Hid (zey j ac=(j,zat (revokeE j.now ac.h ac.b))):=by rw[Hid,zey,if_neg he]
   have I6:(revokeE j.now ac.h ac.b !=0)=true:=by simpa using he
   clear he ht;generalize revokeE j.now ac.h ac.b=E at *;go_wp2_with fail;have C0:=C2;have B0:Hid (ButL [B] w.heap.size w i):=ButL.of_below B9.o;have KR:=D3;have C3:w.heap.size+1<i.heap.size:=by omega
   refine(zav E _).mono ?_;rintro e w2 ⟨rfl,K⟩;have L:=zab (zad K C3 KR.o);have d:=zab (C0.o.below K);have m:=zab (B0.o.trans (Y:=[]) (ButL.of_below K) B0.o.size (by simp));clear K;obtain⟨⟨y0,y1,y2⟩,yf⟩:=zbn L.o;go_wp2;exact zbd HE.o L.o d.o m.o A6 A8 fun W u0 u1 u2=>by simp[results,results84,go_sem,u0,u1,u2]
 have D5:=zab B6;clear B6 C1;obtain⟨_,da,dc,db,dd,na,nc,nb,nd,ne,nf,sa,sc,sb,sd,se,sf,ca,cc,fa,fc,ta,tc,y,hr⟩:=id d.o;have E3:D.cell? ⟨B,31,none⟩=some (.int .i64 j.now.seq):=zak y 31;have E6:D.cell? ⟨B,32,none⟩=some (.slice na j.now.info.length nc):=zak y 32;have E0:D.cell? ⟨B,33,none⟩=some (.slice nb j.now.data.length nd):=zak y 33;have E1:D.cell? ⟨B,34,none⟩=some (.slice ne j.now.rev.length nf):=zak y 34;have F6:D.cell? ⟨B,35,none⟩=some (.bool j.now.h0.on):=zak y 35;have D6:D.cell? ⟨B,36,none⟩=some (.int .i64 j.now.h0.left):=zak y 36;have F5:D.cell? ⟨B,37,none⟩=some (.bool j.now.h1.on):=zak y 37;have F3:D.cell? ⟨B,38,none⟩=some (.int .i64 j.now.h1.left):=zak y 38;have D7:D.cell? ⟨B,39,none⟩=some (.bool j.now.h2.on):=zak y 39;have E5:D.cell? ⟨B,40,none⟩=some (.int .i64 j.now.h2.left):=zak y 40;have H5:=zab E3;have H8:=zab E6;have I1:=zab E0;have G3:=zab E1;have G8:=zab F6;have G5:=zab D6;have H7:=zab F5;have H2:=zab F3;have G7:=zab D7;have G2:=zab E5;have E7:=zab hr.2.1;have I0:=zab hr.2.2.2.2.2.2.1;clear y hr E3 E6 E0 E1 F6 D6 F5 F3 D7 E5;obtain⟨⟨y0,y1,y2,y3,y4⟩,_⟩:=zis C4.o;have A0:=zab y0;have A1:=zab y1;have A2:=zab y2;have A3:=zab y3;have A4:=zab y4;clear y0 y1 y2 y3 y4;refine(show∀A0:Act,A0=_→Code.wp prog _ _ A0 _ from fun A0 hA0=>?_) _ rfl;have I:A0.tmps.size=44:=by rw[hA0];rfl
 have H9:A0.defers=[]:=by rw[hA0]
 have v0:A0.eval (.tmp 0)=.pointer (some ⟨B,0,none⟩):=by rw[hA0];rfl
 have v3:A0.eval (.tmp 3)=.pointer (some ⟨w.heap.size,0,none⟩):=by rw[hA0];rfl
 have v4:A0.eval (.tmp 4)=.pointer (some ⟨w.heap.size+1,0,none⟩):=by rw[hA0];rfl
 have v5:A0.eval (.tmp 5)=undef:=by rw[hA0];rfl
 clear hA0;refine zde 14 5 (zmk D) [9,10,11,12,13,14,15,16,17,8,18,19,5,5] (zhi B w.heap.size j ac ((w.heap.size+1)::X) na nc nb nd ne nf) (by kernel_rfl) (by kernel_rfl) (by kernel_rfl) (by kernel_rfl) (by decide) (⟨(Below.refl _ _).drew,.inl v5⟩) ⟨?_,?_,?_,?_,?_,?_,?_,?_,?_,?_,?_,?_,?_,?_,trivial⟩ ?_
 ·intro a w' C A F;have z0:=(C.other 0 rfl).trans v0;exact zby _ rfl rfl (by revert z0;generalize a.eval=ρ;intro z0;simp only[execOp];go_simp) C I A rfl
 ·intro a w' C A F;have p9:a.eval (.tmp 9)=.pointer (some ⟨B,0,none⟩):=F ⟨0,.data⟩ (by simp) rfl;exact zby _ rfl rfl (by revert p9;generalize a.eval=ρ;intro p9;simp only[execOp];go_simp) C I A rfl
 ·intro a w' C A F;have F1:a.eval (.tmp 10)=.pointer (some ⟨B,0,none⟩):=F ⟨1,.data⟩ (by simp) rfl;exact zby _ rfl rfl (by revert F1;generalize a.eval=ρ;intro F1;simp only[execOp];go_simp) C I A rfl
 ·intro a w' C A F;have E2:a.eval (.tmp 11)=.pointer (some ⟨B,31,none⟩):=F ⟨2,.data⟩ (by simp) rfl;have c0:w'.cell? ⟨B,31,none⟩=some (.int .i64 j.now.seq):=zac A.1 O H5.o;have c1:w'.cell? ⟨B,32,none⟩=some (.slice na j.now.info.length nc):=zac A.1 O H8.o;have c2:w'.cell? ⟨B,33,none⟩=some (.slice nb j.now.data.length nd):=zac A.1 O I1.o;have c3:w'.cell? ⟨B,34,none⟩=some (.slice ne j.now.rev.length nf):=zac A.1 O G3.o;have c4:w'.cell? ⟨B,35,none⟩=some (.bool j.now.h0.on):=zac A.1 O G8.o;have c5:w'.cell? ⟨B,36,none⟩=some (.int .i64 j.now.h0.left):=zac A.1 O G5.o;have c6:w'.cell? ⟨B,37,none⟩=some (.bool j.now.h1.on):=zac A.1 O H7.o;have c7:w'.cell? ⟨B,38,none⟩=some (.int .i64 j.now.h1.left):=zac A.1 O H2.o;have c8:w'.cell? ⟨B,39,none⟩=some (.bool j.now.h2.on):=zac A.1 O G7.o;have c9:w'.cell? ⟨B,40,none⟩=some (.int .i64 j.now.h2.left):=zac A.1 O G2.o;exact zby _ rfl rfl (by revert E2;generalize a.eval=ρ;intro E2;simp only[execOp];go_simp) C I A rfl
 ·intro a w' C A F;have z3:=(C.other 3 rfl).trans v3;exact zby _ rfl rfl (by revert z3;generalize a.eval=ρ;intro z3;simp only[execOp];go_simp) C I A rfl
 ·intro a w' C A F;have G1:a.eval (.tmp 13)=.pointer (some ⟨w.heap.size,1,none⟩):=F ⟨4,.data⟩ (by simp) rfl;have c0:w'.cell? ⟨w.heap.size,1,none⟩=some (.int .i64 ac.h):=zac A.1 C8 A1.o;exact zby _ rfl rfl (by revert G1;generalize a.eval=ρ;intro G1;simp only[execOp];go_simp) C I A rfl
 ·intro a w' C A F;have z3:=(C.other 3 rfl).trans v3;exact zby _ rfl rfl (by revert z3;generalize a.eval=ρ;intro z3;simp only[execOp];go_simp) C I A rfl
 ·intro a w' C A F;have E4:a.eval (.tmp 15)=.pointer (some ⟨w.heap.size,2,none⟩):=F ⟨6,.data⟩ (by simp) rfl;have c0:w'.cell? ⟨w.heap.size,2,none⟩=some (.int .i64 ac.b):=zac A.1 C8 A2.o;exact zby _ rfl rfl (by revert E4;generalize a.eval=ρ;intro E4;simp only[execOp];go_simp) C I A rfl
 ·intro a w' C A F;have F2:a.eval (.tmp 12)=.agg #[.int .i64 j.now.seq,.slice na j.now.info.length nc,.slice nb j.now.data.length nd,.slice ne j.now.rev.length nf,.bool j.now.h0.on,.int .i64 j.now.h0.left,.bool j.now.h1.on,.int .i64 j.now.h1.left,.bool j.now.h2.on,.int .i64 j.now.h2.left]:=F ⟨3,.data⟩ (by simp) rfl;have D9:a.eval (.tmp 14)=.int .i64 ac.h:=F ⟨5,.data⟩ (by simp) rfl;have F4:a.eval (.tmp 16)=.int .i64 ac.b:=F ⟨7,.data⟩ (by simp) rfl;refine zbp 123 #[.agg #[.int .i64 j.now.seq,.slice na j.now.info.length nc,.slice nb j.now.data.length nd,.slice ne j.now.rev.length nf,.bool j.now.h0.on,.int .i64 j.now.h0.left,.bool j.now.h1.on,.int .i64 j.now.h1.left,.bool j.now.h2.on,.int .i64 j.now.h2.left],.int .i64 ac.h,.int .i64 ac.b] rfl rfl (by have pf:=Act.eval_func a 123;revert F2 D9 F4 pf;generalize a.eval=ρ;intro F2 D9 F4 pf;simp only[execOp];go_simp) _ (zrn _ j.now ac.h ac.b _ ((E7.o.ext (Ext.seenL D _)).below A.1) r1 r2) ?_;rintro e w2 ⟨M,rfl,B8,K,H1⟩;refine⟨_,rfl,_,rfl,?_,?_,?_⟩
  ·show zmk D ((a.put (some 17) _).eval (.tmp 5)) w2;rw[Act.eval_put_ne _ _ _ _ (by decide)];exact zf6 A K
  ·show zhi _ _ _ _ _ _ _ _ _ _ _ _ ((a.put (some 17) _).eval (.tmp 17)) ((a.put (some 17) _).eval (.tmp 5)) w2;rw[zan C I (by decide),Act.eval_put_ne _ _ _ _ (by decide)];exact⟨M,rfl,okTx.made H4.o E7.o I0.o A B8 K H1⟩
  ·intro r x hk h;show zhi _ _ _ _ _ _ _ _ _ _ _ r x ((a.put (some 17) _).eval (.tmp 5)) w2;rw[Act.eval_put_ne _ _ _ _ (by decide)];exact zug K r x h
 ·intro a w' C A F;obtain⟨M,pc,ok⟩:∃M,a.eval (.tmp 17)=.tuple #[M,.int .i64 (revokeE j.now ac.h ac.b)]∧okTx ((w.heap.size+1)::X) (zag j.now ac.h ac.b) M (a.eval (.tmp 5)) w':=F ⟨8,.data⟩ (by simp) rfl;refine zar (.tuple #[M,.int .i64 (revokeE j.now ac.h ac.b)]) rfl rfl (by revert pc;generalize a.eval=ρ;intro pc;simp only[execOp];go_simp) ⟨_,rfl,?_,?_,?_⟩
  ·show zmk D ((a.put (some 8) _).eval (.tmp 5)) w';rw[Act.eval_put_ne _ _ _ _ (by decide)];exact A
  ·show zhi _ _ _ _ _ _ _ _ _ _ _ _ ((a.put (some 8) _).eval (.tmp 8)) ((a.put (some 8) _).eval (.tmp 5)) w';rw[zan C I (by decide),Act.eval_put_ne _ _ _ _ (by decide)];exact⟨M,rfl,ok⟩
  ·intro r x hk h;show zhi _ _ _ _ _ _ _ _ _ _ _ r x ((a.put (some 8) _).eval (.tmp 5)) w';rw[Act.eval_put_ne _ _ _ _ (by decide)];exact h
 ·intro a w' C A F;obtain⟨M,pm,ok⟩:∃M,a.eval (.tmp 8)=.tuple #[M,.int .i64 (revokeE j.now ac.h ac.b)]∧okTx ((w.heap.size+1)::X) (zag j.now ac.h ac.b) M (a.eval (.tmp 5)) w':=F ⟨9,.data⟩ (by simp) rfl;refine zar (M) rfl rfl (by revert pm;generalize a.eval=ρ;intro pm;simp only[execOp];go_simp) ⟨_,rfl,?_,?_,?_⟩
  ·show zmk D ((a.put (some 18) _).eval (.tmp 5)) w';rw[Act.eval_put_ne _ _ _ _ (by decide)];exact A
  ·show zhi _ _ _ _ _ _ _ _ _ _ _ _ ((a.put (some 18) _).eval (.tmp 18)) ((a.put (some 18) _).eval (.tmp 5)) w';rw[zan C I (by decide),Act.eval_put_ne _ _ _ _ (by decide)];exact ok
  ·intro r x hk h;show zhi _ _ _ _ _ _ _ _ _ _ _ r x ((a.put (some 18) _).eval (.tmp 5)) w';rw[Act.eval_put_ne _ _ _ _ (by decide)];exact h
 ·intro a w' C A F;obtain⟨M,pm,ok⟩:∃M,a.eval (.tmp 8)=.tuple #[M,.int .i64 (revokeE j.now ac.h ac.b)]∧okTx ((w.heap.size+1)::X) (zag j.now ac.h ac.b) M (a.eval (.tmp 5)) w':=F ⟨9,.data⟩ (by simp) rfl;exact zby _ rfl rfl (by revert pm;generalize a.eval=ρ;intro pm;simp only[execOp];go_simp) C I A rfl
 ·intro a w' C A F;refine zfl (.pointer (some ⟨w'.heap.size,0,none⟩)) rfl rfl (w':=w'.alloc (.cells #[.int .i64 0,.slice none 0 0,.slice none 0 0,.slice none 0 0,.bool false,.int .i64 0,.bool false,.int .i64 0,.bool false,.int .i64 0] 40)) (by simp only[execOp];go_simp) ⟨_,rfl,?_,?_,?_⟩
  ·show zmk D ((a.put (some 5) _).eval (.tmp 5)) _;rw[zan C I (by decide)];exact⟨A.1.alloc A.1.size _,.inr ⟨_,rfl,A.1.size,by simp,_,_,_,_,_,_,_,_,_,_,heap_alloc_new _ _⟩⟩
  ·show zhi _ _ _ _ _ _ _ _ _ _ _ _ ((a.put (some 5) _).eval (.tmp 5)) ((a.put (some 5) _).eval (.tmp 5)) _;rw[zan C I (by decide)];exact⟨_,rfl⟩
  ·intro r x hk h;show zhi _ _ _ _ _ _ _ _ _ _ _ r x ((a.put (some 5) _).eval (.tmp 5)) _;rw[zan C I (by decide)];exact zuh _ r x h
 ·intro a w' C A F;obtain⟨T,N⟩:∃T,a.eval (.tmp 5)=.pointer (some ⟨T,0,none⟩):=F ⟨12,.data⟩ (by simp) rfl;have ok:okTx ((w.heap.size+1)::X) (zag j.now ac.h ac.b) (a.eval (.tmp 18)) (a.eval (.tmp 5)) w':=F ⟨10,.data⟩ (by simp) rfl
  obtain⟨A9,B8,c0,c1,c2,c3,c4,c5,c6,c7,c8,c9,l⟩:D.heap.size≤T∧T<w'.heap.size∧∃c0 c1 c2 c3 c4 c5 c6 c7 c8 c9,w'.heap[T]?=some (.cells #[c0,c1,c2,c3,c4,c5,c6,c7,c8,c9] 40 (0,0)):=by
   rcases A.2 with h0|⟨T',e,h3,h4,h5⟩
   ·rw[h0]at N;cases N
   ·rw[e]at N;cases N;exact⟨h3,h4,h5⟩
  have p:=ok.2.2 T N;have s:=ok.2.1;obtain⟨Z,U,Q,c,S,R,hv,_⟩:=id p;rw[hv]at p s;obtain⟨⟨t0,t1,t2,t3,t4,t5,t6,t7,t8,t9⟩,tf⟩:=zaj l;refine zco rfl rfl (w':=((((((((((w'.setCell ⟨T,0,none⟩ (.int .i64 (zag j.now ac.h ac.b).seq)).setCell ⟨T,1,none⟩ (.slice Z (zag j.now ac.h ac.b).info.length U)).setCell ⟨T,2,none⟩ (.slice Q (zag j.now ac.h ac.b).data.length c)).setCell ⟨T,3,none⟩ (.slice S (zag j.now ac.h ac.b).rev.length R)).setCell ⟨T,4,none⟩ (.bool (zag j.now ac.h ac.b).h0.on)).setCell ⟨T,5,none⟩ (.int .i64 (zag j.now ac.h ac.b).h0.left)).setCell ⟨T,6,none⟩ (.bool (zag j.now ac.h ac.b).h1.on)).setCell ⟨T,7,none⟩ (.int .i64 (zag j.now ac.h ac.b).h1.left)).setCell ⟨T,8,none⟩ (.bool (zag j.now ac.h ac.b).h2.on)).setCell ⟨T,9,none⟩ (.int .i64 (zag j.now ac.h ac.b).h2.left))) (by revert N hv;generalize a.eval=ρ;intro N hv;simp only[execOp];go_simp) ⟨_,rfl,?_,?_,?_⟩
  ·show zmk D (a.eval (.tmp 5)) _;exact⟨Below.set10 A.1 A9 _ _ _ _ _ _ _ _ _ _,.inr ⟨T,N,A9,by simpa[World.setCell] using B8,_,_,_,_,_,_,_,_,_,_,zh2 l _ _ _ _ _ _ _ _ _ _⟩⟩
  ·show zhi _ _ _ _ _ _ _ _ _ _ _ _ (a.eval (.tmp 5)) (a.eval (.tmp 5)) _;exact⟨T,Z,U,Q,c,S,R,N,zh2 l _ _ _ _ _ _ _ _ _ _,p.ext (zpi (by simp) w' _ _ _ _ _ _ _ _ _ _),s⟩
  ·intro r x hk h;show zhi _ _ _ _ _ _ _ _ _ _ _ r x (a.eval (.tmp 5)) _;rw[N]at h⊢;exact zui (fun t x h=>h.store _ _ _ _ _ _ _ _ _ _) r x hk h
 ·intro a W C A F;obtain⟨T,Z,U,Q,c,S,R,N,l,p,s⟩:∃T Z U Q c S R,a.eval (.tmp 5)=.pointer (some ⟨T,0,none⟩)∧W.heap[T]?=some (.cells #[.int .i64 (zag j.now ac.h ac.b).seq,.slice Z (zag j.now ac.h ac.b).info.length U,.slice Q (zag j.now ac.h ac.b).data.length c,.slice S (zag j.now ac.h ac.b).rev.length R,.bool (zag j.now ac.h ac.b).h0.on,.int .i64 (zag j.now ac.h ac.b).h0.left,.bool (zag j.now ac.h ac.b).h1.on,.int .i64 (zag j.now ac.h ac.b).h1.left,.bool (zag j.now ac.h ac.b).h2.on,.int .i64 (zag j.now ac.h ac.b).h2.left] 40 (0,0))∧IsTx (zau W (T::(w.heap.size+1)::X)) (.agg #[.int .i64 (zag j.now ac.h ac.b).seq,.slice Z (zag j.now ac.h ac.b).info.length U,.slice Q (zag j.now ac.h ac.b).data.length c,.slice S (zag j.now ac.h ac.b).rev.length R,.bool (zag j.now ac.h ac.b).h0.on,.int .i64 (zag j.now ac.h ac.b).h0.left,.bool (zag j.now ac.h ac.b).h1.on,.int .i64 (zag j.now ac.h ac.b).h1.left,.bool (zag j.now ac.h ac.b).h2.on,.int .i64 (zag j.now ac.h ac.b).h2.left]) (zag j.now ac.h ac.b)∧RoomTx (.agg #[.int .i64 (zag j.now ac.h ac.b).seq,.slice Z (zag j.now ac.h ac.b).info.length U,.slice Q (zag j.now ac.h ac.b).data.length c,.slice S (zag j.now ac.h ac.b).rev.length R,.bool (zag j.now ac.h ac.b).h0.on,.int .i64 (zag j.now ac.h ac.b).h0.left,.bool (zag j.now ac.h ac.b).h1.on,.int .i64 (zag j.now ac.h ac.b).h1.left,.bool (zag j.now ac.h ac.b).h2.on,.int .i64 (zag j.now ac.h ac.b).h2.left]):=F 13 (by decide);have pE:a.eval (.tmp 19)=.int .i64 (revokeE j.now ac.h ac.b):=F 11 (by decide)
  have A9:D.heap.size≤T:=by
   rcases A.2 with h0|⟨T',e,h3,h4,h5⟩
   ·rw[h0]at N;cases N
   ·rw[e]at N;cases N;exact h3
  show wpOps prog _ _ [14] a W;rw[wpOps_cons];refine zar (.int .i64 (revokeE j.now ac.h ac.b)) rfl rfl (by revert pE;generalize a.eval=ρ;intro pE;simp only[execOp];go_simp) ?_;have E8:a.tmps.size=44:=C.size.trans I;obtain⟨a2,q⟩:∃a2,a2=a.put (some 6) (.int .i64 (revokeE j.now ac.h ac.b)):=⟨_,rfl⟩;have f6:a2.eval (.tmp 6)=.int .i64 (revokeE j.now ac.h ac.b):=by rw[q];exact Act.eval_put_same _ _ _ (by rw[E8];decide)
  have f0:a2.eval (.tmp 0)=.pointer (some ⟨B,0,none⟩):=by rw[q,Act.eval_put_ne _ _ _ _ (by decide)];exact(C.other 0 rfl).trans v0
  have f3:a2.eval (.tmp 3)=.pointer (some ⟨w.heap.size,0,none⟩):=by rw[q,Act.eval_put_ne _ _ _ _ (by decide)];exact(C.other 3 rfl).trans v3
  have f4:a2.eval (.tmp 4)=.pointer (some ⟨w.heap.size+1,0,none⟩):=by rw[q,Act.eval_put_ne _ _ _ _ (by decide)];exact(C.other 4 rfl).trans v4
  have f5:a2.eval (.tmp 5)=.pointer (some ⟨T,0,none⟩):=by rw[q,Act.eval_put_ne _ _ _ _ (by decide)];exact N
  have B2:a2=⟨#[_,_,_,_,_,_,_,_,_,_,_,_,_,_,_,_,_,_,_,_,_,_,_,_,_,_,_,_,_,_,_,_,_,_,_,_,_,_,_,_,_,_,_,_],[]⟩:=zcn a2 44 (by rw[q,Act.size_put];exact E8) (by rw[q,Act.defers_put'];exact C.defers.trans H9);dsimp only at B2;rw[f0,f3,f4,f5,f6]at B2;show KK (a.put (some 6) (.int .i64 (revokeE j.now ac.h ac.b))) _;rw[←q];exact(congrArg (fun x=>KK x _) B2).mpr (D5.o (fun k=>a2.eval (.tmp k)) _ T Z U Q c S R p s l A9 A.1)
def zvi (j:Jn)(d2:Dk)(B:Nat)(e1:Option Addr)(e2:Nat)(e3:Option Addr)(e4:Nat):Nat→Value→World→Prop
 |0,v,_=>v=.pointer (some ⟨B,0,none⟩)
 |1,v,_=>v=.pointer (some ⟨B,0,none⟩)
 |2,v,_=>v=.pointer (some ⟨B,0,none⟩)
 |3,v,_=>v=.pointer (some ⟨B,0,none⟩)
 |4,v,_=>v=.int .i64 j.acts
 |5,v,_=>v=.agg #[.slice e1 d2.safe.length e2,.slice e3 d2.wr.length e4]
 |6,v,_=>v=.pointer (some ⟨B,0,none⟩)
 |7,v,_=>v=.pointer (some ⟨B,0,none⟩)
 |8,v,_=>v=.pointer (some ⟨B,5,none⟩)
 |9,v,_=>v=.int .i64 j.last
 |10,v,_=>v=.agg #[.int .i64 j.acts,.slice e1 d2.safe.length e2,.slice e3 d2.wr.length e4,.int .i64 0,.int .i64 0,.int .i64 j.last,.bool true,.int .i64 0,.int .i64 0,.int .i64 0,.int .i64 0,.int .i64 0,.int .i64 0,.int .i64 0,.int .i64 0,.int .i64 0,.int .i64 0,.int .i64 0,.int .i64 0,.int .i64 0,.int .i64 0,.int .i64 0,.int .i64 0,.int .i64 0,.int .i64 0,.int .i64 0,.int .i64 0,.int .i64 0,.int .i64 0,.int .i64 0,.int .i64 0,.int .i64 0,.slice none 0 0,.slice none 0 0,.slice none 0 0,.bool false,.int .i64 0,.bool false,.int .i64 0,.bool false,.int .i64 0,.int .i64 0,.slice none 0 0,.slice none 0 0,.slice none 0 0,.bool false,.int .i64 0,.bool false,.int .i64 0,.bool false,.int .i64 0,.slice none 0 0,.slice none 0 0,.int .i64 0,.int .i64 0,.int .i64 0,.slice none 0 0]
 |11,v,_=>v=.pointer (some ⟨B,0,none⟩)
 |_,_,_=>True
theorem zio(j:Jn)(d2:Dk)(e1:Option Addr)(e2:Nat)(e3:Option Addr)(e4:Nat):#[.int .i64 j.acts,.slice e1 d2.safe.length e2,.slice e3 d2.wr.length e4,.int .i64 0,.int .i64 0,.int .i64 j.last,.bool true,.int .i64 0,.int .i64 0,.int .i64 0,.int .i64 0,.int .i64 0,.int .i64 0,.int .i64 0,.int .i64 0,.int .i64 0,.int .i64 0,.int .i64 0,.int .i64 0,.int .i64 0,.int .i64 0,.int .i64 0,.int .i64 0,.int .i64 0,.int .i64 0,.int .i64 0,.int .i64 0,.int .i64 0,.int .i64 0,.int .i64 0,.int .i64 0,.int .i64 0,.slice none 0 0,.slice none 0 0,.slice none 0 0,.bool false,.int .i64 0,.bool false,.int .i64 0,.bool false,.int .i64 0,.int .i64 0,.slice none 0 0,.slice none 0 0,.slice none 0 0,.bool false,.int .i64 0,.bool false,.int .i64 0,.bool false,.int .i64 0,.slice none 0 0,.slice none 0 0,.int .i64 0,.int .i64 0,.int .i64 0,.slice none 0 0]=zbs (⟨j.acts,d2,0,0,j.last,true,fun _=>0,fun _=>0,zcv 0,zcv 0,[],[],0,0,0,[]⟩:Jn) e1 e2 e3 e4 none 0 none 0 none 0 none 0 none 0 none 0 none 0 none 0 none 0:=by kernel_rfl
theorem zx5(B:Nat)(X:List Nat)(j:Jn)(w:World)(h:JAt w B X j)(hX:∀x∈X,x<w.heap.size)(q:Int)(hq:q≤9223372036854775807):
  Calls prog 45 #[.pointer (some ⟨B,0,none⟩),.int .i64 q] w (zdj w B X (zjd j q)):=by
 have HJ:=zab h;have C4:=h.lt;have A3:=h.1;have HX:=zab hX;have B5:Hid (JAt (w.alloc (.cells #[.int .i64 0,.int .i64 0,.string ⟨#[]⟩] 31)) B (w.heap.size::X) j):=h.more (zaa _ _) (Nat.le_refl _);obtain⟨_,da,dc,db,dd,na,nc,nb,nd,ne,nf,sa,sc,sb,sd,se,sf,ca,cc,fa,fc,ta,tc,b,hr⟩:=h;have c1:w.cell? ⟨B,1,none⟩=some (.slice da j.disk.safe.length dc):=zak b 1;have c2:w.cell? ⟨B,2,none⟩=some (.slice db j.disk.wr.length dd):=zak b 2;have B3:=zab (hr.1.ext (Ext.seenL w X));have B0:=zab hr.1;clear b hr hX;go_enter func45,ntmps45;go_wp2_with fail;refine(zwq _ j.disk q _ (B3.o.below (zaa _ _)) hq).mono ?_;rintro e Q ⟨v1,rfl,Z,_,c,B2⟩;have s:=zab (z32 c);have R:=zab (B5.o.below c);have A1:=zab (zae (zaa w (.cells #[.int .i64 0,.int .i64 0,.string ⟨#[]⟩] 31)) c)
 have A4:Hid (IsDk (zau Q (w.heap.size::X)) v1 (crashK j.disk q)):=by
  rcases B2 with e|l
  ·have hd:=B0.o.ext (Ext.newL A1.o (Nat.le_refl _));rw[e];rw[e]at Z;exact hd.asDisk Z
  ·exact Z.hideF l (fun x hx=>by
    rcases List.mem_cons.1 hx with rfl|hx
    ·simp
    ·have:=HX.o x hx;simp;omega)
 have y:w.heap.size<Q.heap.size:=by have:=c.size;simp at this;omega
 clear c1 c2 B3 B0 B5 c B2;obtain⟨D,u⟩:∃D,D=crashK j.disk q:=⟨_,rfl⟩;rw[←u]at A4 Z;by_cases he:crashE j.disk q=0
 ·have HE:Hid (zjd j q=((⟨j.acts,D,0,0,j.last,true,fun _=>0,fun _=>0,zcv 0,zcv 0,[],[],0,0,0,[]⟩:Jn),zat 0)):=by rw[Hid,zjd,if_pos he,u]
  rw[he];clear he u;obtain⟨L,N,M,K,rfl,_,_,_,_⟩:=Z;go_wp2;rename_i KK A6;obtain⟨C,O⟩:∃C,C=Q.alloc (.cells #[.slice L D.safe.length N,.slice M D.wr.length K] 46):=⟨_,rfl⟩;have A:Below Q.heap.size Q C:=by rw[O];exact zaa _ _
  have i:=zab (R.o.below A);have B8:=zab (A4.o.ext (Ext.freshL A));have S:=zab (zad A y s.o);have U:=zab (zae A1.o A);have B9:w.heap.size<C.heap.size:=Nat.lt_of_lt_of_le y A.size;have KD:C.heap[Q.heap.size]?=some (.cells #[.slice L D.safe.length N,.slice M D.wr.length K] 46 (0,0)):=by rw[O];exact heap_alloc_new _ _
  obtain⟨⟨y0,y1⟩,_⟩:=zgq KD;have Y0:=zab y0;have Y1:=zab y1;rw[←O];clear O A y0 y1 KD R A4 s A1;obtain⟨_,da,dc,db,dd,na,nc,nb,nd,ne,nf,sa,sc,sb,sd,se,sf,ca,cc,fa,fc,ta,tc,b,_⟩:=id i.o;have c0:C.cell? ⟨B,0,none⟩=some (.int .i64 j.acts):=zak b 0;have c5:C.cell? ⟨B,5,none⟩=some (.int .i64 j.last):=zak b 5;have C0:=zab c0;have C5:=zab c5;clear c0 c5
  have A5:∀(g:Nat→Value) (r:World),r=({C with drawn:=C.drawn+1}:World).setRow B #[.int .i64 j.acts,.slice L D.safe.length N,.slice M D.wr.length K,.int .i64 0,.int .i64 0,.int .i64 j.last,.bool true,.int .i64 0,.int .i64 0,.int .i64 0,.int .i64 0,.int .i64 0,.int .i64 0,.int .i64 0,.int .i64 0,.int .i64 0,.int .i64 0,.int .i64 0,.int .i64 0,.int .i64 0,.int .i64 0,.int .i64 0,.int .i64 0,.int .i64 0,.int .i64 0,.int .i64 0,.int .i64 0,.int .i64 0,.int .i64 0,.int .i64 0,.int .i64 0,.int .i64 0,.slice none 0 0,.slice none 0 0,.slice none 0 0,.bool false,.int .i64 0,.bool false,.int .i64 0,.bool false,.int .i64 0,.int .i64 0,.slice none 0 0,.slice none 0 0,.slice none 0 0,.bool false,.int .i64 0,.bool false,.int .i64 0,.bool false,.int .i64 0,.slice none 0 0,.slice none 0 0,.int .i64 0,.int .i64 0,.int .i64 0,.slice none 0 0]→KK ⟨#[.pointer (some ⟨B,0,none⟩),g 1,g 2,g 3,.pointer (some ⟨w.heap.size,0,none⟩),g 5,g 6,g 7,g 8,g 9,g 10,g 11,g 12,g 13,g 14,g 15,g 16,g 17,g 18,g 19,g 20,g 21,g 22,g 23,g 24,g 25,g 26,g 27,g 28,g 29,g 30,g 31,g 32],[]⟩ r:=by
   intro g r d;apply A6;clear A6;have A7:Below C.heap.size C {C with drawn:=C.drawn+1}:=(Below.refl _ _).drew
   have B4:Hid (JAt r B (w.heap.size::X) (⟨j.acts,D,0,0,j.last,true,fun _=>0,fun _=>0,zcv 0,zcv 0,[],[],0,0,0,[]⟩:Jn)):=by
    rw[d,zio];exact JAt.putAll (w:={C with drawn:=C.drawn+1}) (by simp[A3]) b _ _ _ _ _ _ _ _ _ _ _ _ _ _ _ _ _ _ _ _ _ _ ⟨B8.o.ext (Ext.freshL A7),zrc _ _,zrc _ _,.inl rfl,.inl rfl,.inl rfl,z3c _,Nat.le_refl _,Nat.le_refl _,Nat.le_refl _⟩
   have B1:Hid (ButL [B] w.heap.size w r):=by
    rw[d];exact(ButL.of_below (U.o.trans (A7.mono U.o.size))).setRow (.inl (by simp)) _
   have B6:Hid (r.heap[w.heap.size]?=some (.cells #[.int .i64 0,.int .i64 0,.string ⟨#[]⟩] 31 (0,0))):=by
    rw[d,setRow_other _ _ _ _ (by omega)];exact S.o
   have C2:w.heap.size<r.heap.size:=by rw[d];simpa[World.setRow] using B9
   have R:=B4;have m:=B1;have KR:=B6;have A8:=C2;have A2:w.heap.size≠B:=by omega
   clear d A7 B4 B1 B6 b;go_wp2_with fail;refine(zav 0 _).mono ?_;rintro e w2 ⟨rfl,A⟩;have S:=zab (zad A A8 KR.o);have i:=zab (R.o.below A);have U:=zab (m.o.trans (Y:=[]) (ButL.of_below A) m.o.size (by simp));clear A;obtain⟨⟨y0,y1,y2⟩,yf⟩:=zbn S.o;go_wp2;exact zbd HE.o S.o i.o U.o A2 A3 fun W u0 u1 u2=>by simp[results,results45,go_sem,u0,u1,u2]
  have A9:=zab A5;clear A5 A6;refine(show∀A0:Act,A0=_→Code.wp prog _ _ A0 _ from fun A0 hA0=>?_) _ rfl;have F:A0.tmps.size=33:=by rw[hA0];rfl
  have C1:A0.defers=[]:=by rw[hA0]
  have v0:A0.eval (.tmp 0)=.pointer (some ⟨B,0,none⟩):=by rw[hA0];rfl
  have v4:A0.eval (.tmp 4)=.pointer (some ⟨w.heap.size,0,none⟩):=by rw[hA0];rfl
  have v5:A0.eval (.tmp 5)=.pointer (some ⟨Q.heap.size,0,none⟩):=by rw[hA0];rfl
  clear hA0;refine zbi 12 (fun J=>J={C with drawn:=C.drawn+1}) [20,21,22,23,24,25,26,27,28,29,30,31] (zvi j D B L N M K) (by kernel_rfl) (by kernel_rfl) (by kernel_rfl) (by kernel_rfl) (by decide) (rfl) ⟨?_,?_,?_,?_,?_,?_,?_,?_,?_,?_,?_,?_,trivial⟩ ?_
  ·exact zbg v0 F (fun _=>rfl) fun ρ J I z=>by simp only[execOp];go_simp
  ·exact zbg v0 F (fun _=>rfl) fun ρ J I z=>by simp only[execOp];go_simp
  ·exact zam 1 21 F (fun _ _ h=>h) (fun _=>rfl) fun ρ J I p=>by simp only[execOp];go_simp
  ·exact zam 2 22 F (fun _ _ h=>h) (fun _=>rfl) fun ρ J I p=>by simp only[execOp];go_simp
  ·exact zam 3 23 F (fun _ _ h=>h) (fun _=>rfl) fun ρ J I p=>by have c0:C.cell? ⟨B,0,none⟩=some (.int .i64 j.acts):=C0.o;simp only[execOp];go_simp
  ·exact zbg v5 F (fun _=>rfl) fun ρ J I z=>by have c0:C.cell? ⟨Q.heap.size,0,none⟩=some (.slice L D.safe.length N):=Y0.o;have c1:C.cell? ⟨Q.heap.size,1,none⟩=some (.slice M D.wr.length K):=Y1.o;simp only[execOp];go_simp
  ·exact zbg v0 F (fun _=>rfl) fun ρ J I z=>by simp only[execOp];go_simp
  ·exact zam 6 26 F (fun _ _ h=>h) (fun _=>rfl) fun ρ J I p=>by simp only[execOp];go_simp
  ·exact zam 7 27 F (fun _ _ h=>h) (fun _=>rfl) fun ρ J I p=>by simp only[execOp];go_simp
  ·exact zam 8 28 F (fun _ _ h=>h) (fun _=>rfl) fun ρ J I p=>by have c0:C.cell? ⟨B,5,none⟩=some (.int .i64 j.last):=C5.o;simp only[execOp];go_simp
  ·intro a J l I hp;have B7:a.eval (.tmp 24)=.int .i64 j.acts:=hp ⟨4,.data⟩ (by simp) rfl;have p25:a.eval (.tmp 25)=.agg #[.slice L D.safe.length N,.slice M D.wr.length K]:=hp ⟨5,.data⟩ (by simp) rfl;have p29:a.eval (.tmp 29)=.int .i64 j.last:=hp ⟨9,.data⟩ (by simp) rfl;refine z3b 93 _ [(0,.int .i64 j.acts),(1,.agg #[.slice L D.safe.length N,.slice M D.wr.length K]),(3,.int .i64 j.last),(4,.bool true)] #[.int .i64 j.acts,.slice L D.safe.length N,.slice M D.wr.length K,.int .i64 0,.int .i64 0,.int .i64 j.last,.bool true,.int .i64 0,.int .i64 0,.int .i64 0,.int .i64 0,.int .i64 0,.int .i64 0,.int .i64 0,.int .i64 0,.int .i64 0,.int .i64 0,.int .i64 0,.int .i64 0,.int .i64 0,.int .i64 0,.int .i64 0,.int .i64 0,.int .i64 0,.int .i64 0,.int .i64 0,.int .i64 0,.int .i64 0,.int .i64 0,.int .i64 0,.int .i64 0,.int .i64 0,.slice none 0 0,.slice none 0 0,.slice none 0 0,.bool false,.int .i64 0,.bool false,.int .i64 0,.bool false,.int .i64 0,.int .i64 0,.slice none 0 0,.slice none 0 0,.slice none 0 0,.bool false,.int .i64 0,.bool false,.int .i64 0,.bool false,.int .i64 0,.slice none 0 0,.slice none 0 0,.int .i64 0,.int .i64 0,.int .i64 0,.slice none 0 0] rfl rfl rfl ?_ (by kernel_rfl) ⟨_,rfl,I,?_,fun _ _ _ h=>h⟩
   ·simp[B7,p25,p29,Act.eval_const]
   ·show zvi _ _ _ _ _ _ _ _ ((a.put (some 30) _).eval (.tmp 30)) J;rw[zan l F (by decide)];exact rfl
  ·exact zam 0 20 F (fun _ _ h=>h) (fun _=>rfl) fun ρ J I p=>by simp only[execOp];go_simp
  ·intro a W l I hp;have p30:a.eval (.tmp 30)=.agg #[.int .i64 j.acts,.slice L D.safe.length N,.slice M D.wr.length K,.int .i64 0,.int .i64 0,.int .i64 j.last,.bool true,.int .i64 0,.int .i64 0,.int .i64 0,.int .i64 0,.int .i64 0,.int .i64 0,.int .i64 0,.int .i64 0,.int .i64 0,.int .i64 0,.int .i64 0,.int .i64 0,.int .i64 0,.int .i64 0,.int .i64 0,.int .i64 0,.int .i64 0,.int .i64 0,.int .i64 0,.int .i64 0,.int .i64 0,.int .i64 0,.int .i64 0,.int .i64 0,.int .i64 0,.slice none 0 0,.slice none 0 0,.slice none 0 0,.bool false,.int .i64 0,.bool false,.int .i64 0,.bool false,.int .i64 0,.int .i64 0,.slice none 0 0,.slice none 0 0,.slice none 0 0,.bool false,.int .i64 0,.bool false,.int .i64 0,.bool false,.int .i64 0,.slice none 0 0,.slice none 0 0,.int .i64 0,.int .i64 0,.int .i64 0,.slice none 0 0]:=hp 10 (by decide);have p31:a.eval (.tmp 31)=.pointer (some ⟨B,0,none⟩):=hp 11 (by decide);show wpOps prog _ _ [12] a W;rw[wpOps_cons];refine zkp 93 (.tmp 31) (.tmp 30) B #[.int .i64 j.acts,.slice L D.safe.length N,.slice M D.wr.length K,.int .i64 0,.int .i64 0,.int .i64 j.last,.bool true,.int .i64 0,.int .i64 0,.int .i64 0,.int .i64 0,.int .i64 0,.int .i64 0,.int .i64 0,.int .i64 0,.int .i64 0,.int .i64 0,.int .i64 0,.int .i64 0,.int .i64 0,.int .i64 0,.int .i64 0,.int .i64 0,.int .i64 0,.int .i64 0,.int .i64 0,.int .i64 0,.int .i64 0,.int .i64 0,.int .i64 0,.int .i64 0,.int .i64 0,.slice none 0 0,.slice none 0 0,.slice none 0 0,.bool false,.int .i64 0,.bool false,.int .i64 0,.bool false,.int .i64 0,.int .i64 0,.slice none 0 0,.slice none 0 0,.slice none 0 0,.bool false,.int .i64 0,.bool false,.int .i64 0,.bool false,.int .i64 0,.slice none 0 0,.slice none 0 0,.int .i64 0,.int .i64 0,.int .i64 0,.slice none 0 0] rfl rfl rfl p31 p30 93 (zbs j da dc db dd na nc nb nd ne nf sa sc sb sd se sf ca cc fa fc ta tc) (by rw[I];exact b) (by rw[zio];exact z3d _ _ _ _ _ _ _ _ _ _ _ _ _ _ _ _ _ _ _ _ _ _ _) (by kernel_rfl) (by rw[zio];exact zh1 _ _ _ _ _ _ _ _ _ _ _ _ _ _ _ _ _ _ _ _ _ _ _) ?_
   have f0:=(l.other 0 rfl).trans v0;have f4:=(l.other 4 rfl).trans v4;have n:a=⟨#[_,_,_,_,_,_,_,_,_,_,_,_,_,_,_,_,_,_,_,_,_,_,_,_,_,_,_,_,_,_,_,_,_],[]⟩:=zcn a 33 (l.size.trans F) (l.defers.trans C1);dsimp only at n;rw[f0,f4]at n;exact(congrArg (fun x=>KK x (W.setRow B #[.int .i64 j.acts,.slice L D.safe.length N,.slice M D.wr.length K,.int .i64 0,.int .i64 0,.int .i64 j.last,.bool true,.int .i64 0,.int .i64 0,.int .i64 0,.int .i64 0,.int .i64 0,.int .i64 0,.int .i64 0,.int .i64 0,.int .i64 0,.int .i64 0,.int .i64 0,.int .i64 0,.int .i64 0,.int .i64 0,.int .i64 0,.int .i64 0,.int .i64 0,.int .i64 0,.int .i64 0,.int .i64 0,.int .i64 0,.int .i64 0,.int .i64 0,.int .i64 0,.int .i64 0,.slice none 0 0,.slice none 0 0,.slice none 0 0,.bool false,.int .i64 0,.bool false,.int .i64 0,.bool false,.int .i64 0,.int .i64 0,.slice none 0 0,.slice none 0 0,.slice none 0 0,.bool false,.int .i64 0,.bool false,.int .i64 0,.bool false,.int .i64 0,.slice none 0 0,.slice none 0 0,.int .i64 0,.int .i64 0,.int .i64 0,.slice none 0 0])) n).mpr (A9.o (fun k=>a.eval (.tmp k)) _ (by rw[I]))
 ·have HE:Hid (zjd j q=(j,zat (crashE j.disk q))):=by rw[Hid,zjd,if_neg he]
  have C3:(crashE j.disk q !=0)=true:=by simpa using he
  clear he u;generalize crashE j.disk q=E at *;obtain⟨L,N,M,K,rfl,_,_,_,_⟩:=Z;go_wp2_with fail;obtain⟨C,O⟩:∃C,C=Q.alloc (.cells #[.slice L D.safe.length N,.slice M D.wr.length K] 46):=⟨_,rfl⟩;have A:Below Q.heap.size Q C:=by rw[O];exact zaa _ _
  have KR:=zab (zad A y s.o);have m:Hid (ButL [B] w.heap.size w C):=ButL.of_below (zae A1.o A);have A8:w.heap.size<C.heap.size:=Nat.lt_of_lt_of_le y A.size;have A2:w.heap.size≠B:=by omega
  replace R:=zab (R.o.below A)
  rw[←O];clear O A s;refine(zav E _).mono ?_;rintro e w2 ⟨rfl,A⟩;have S:=zab (zad A A8 KR.o);have i:=zab (R.o.below A);have U:=zab (m.o.trans (Y:=[]) (ButL.of_below A) m.o.size (by simp));clear A;obtain⟨⟨y0,y1,y2⟩,yf⟩:=zbn S.o;go_wp2;exact zbd HE.o S.o i.o U.o A2 A3 fun W u0 u1 u2=>by simp[results,results45,go_sem,u0,u1,u2]
