/-
  
-/
import Derived.Test.YtjnpndfpajjihacGreatGrTopSettles42
import Derived.Test.YtjnpndfpajjihacGreatGrTopSettles46
import Derived.Test.YtjnpndfpajjihacGreatXTellsP
import Derived.Test.YtjnpndfpajjihacGreatJRing
import Derived.Test.YtjnpndfpajjihacGreatJRunning
import Derived.Test.YtjnpndfpajjihacGreatJDisk
set_option maxRecDepth 100000
set_option maxHeartbeats 40000000
namespace Go.Proofs.YtjnpndfpajjihacGreat
open Go.Proofs.Tryz
open Go.RowKit
theorem DkFrom.lower{n m:Nat}{v:Value}(h:DkFrom n v)(hm:m≤n):DkFrom m v:=by
 obtain⟨a,l,c,C,D,B,rfl,A,E⟩:=h;exact⟨a,l,c,C,D,B,rfl,fun b o e=>Nat.le_trans hm (A b o e),fun b o e=>Nat.le_trans hm (E b o e)⟩
def okD (bs:Nat)(v0:Value)(d:Dk)(v:Value)(w:World):Prop:=IsDk w v d∧(v=v0∨DkFrom bs v)
theorem okD.below{bs:Nat}{v0:Value}{d:Dk}{v:Value}{w w':World}(h:okD bs v0 d v w)(hb:Below w.heap.size w w'):okD bs v0 d v w':=⟨h.1.below hb,h.2⟩
theorem okD.store{bs:Nat}{v0:Value}{d:Dk}{v:Value}{w:World}(h:okD bs v0 d v w){T:Nat}{a1:Option Addr}{n1 c1:Nat}{a2:Option Addr}{n2 c2:Nat}(hT:w.heap[T]?=some (.cells #[.slice a1 n1 c1,.slice a2 n2 c2] 46 (0,0)))(b1:Option Addr)(m1 k1:Nat)(b2:Option Addr)(m2 k2:Nat):okD bs v0 d v ((w.setCell ⟨T,0,none⟩ (.slice b1 m1 k1)).setCell ⟨T,1,none⟩ (.slice b2 m2 k2)):=
 ⟨(h.1.setBox hT 0 _).setBox (heap_setCell_same _ _ 0 _ _ (.slice b1 m1 k1) hT) 1 _,h.2⟩
def zib (B:Nat)(bs:Nat)(j:Jn)(s:St)(da:Option Addr)(dc:Nat)(db:Option Addr)(dd:Nat)(tb:Nat)(tq:Nat)(tc:Nat)(n:Nat):Nat→Value→World→Prop
 |0,v,_=>v=.pointer (some ⟨B,0,none⟩)
 |1,v,_=>v=.pointer (some ⟨B,0,none⟩)
 |2,v,_=>v=.pointer (some ⟨B,1,none⟩)
 |3,v,_=>v=.agg #[.slice da j.disk.safe.length dc,.slice db j.disk.wr.length dd]
 |4,v,_=>v=.pointer (some ⟨B,0,none⟩)
 |5,v,_=>v=.pointer (some ⟨B,0,none⟩)
 |6,v,_=>v=.pointer (some ⟨B,56,none⟩)
 |7,v,_=>v=.slice (some ⟨tb,tq,none⟩) n tc
 |8,v,_=>v=.pointer (some ⟨tb,tq,none⟩)
 |9,v,_=>v=.agg #[.int .i64 s.1,.int .i64 s.2.1,.string s.2.2]
 |10,v,w=>∃v2,v=.tuple #[v2,.int .i64 (doneE j.disk s)]∧okD bs (.agg #[.slice da j.disk.safe.length dc,.slice db j.disk.wr.length dd]) (zbc j.disk s) v2 w
 |11,v,w=>∃v2,v=.tuple #[v2,.int .i64 (doneE j.disk s)]∧okD bs (.agg #[.slice da j.disk.safe.length dc,.slice db j.disk.wr.length dd]) (zbc j.disk s) v2 w
 |12,v,w=>okD bs (.agg #[.slice da j.disk.safe.length dc,.slice db j.disk.wr.length dd]) (zbc j.disk s) v w
 |13,v,_=>v=.int .i64 (doneE j.disk s)
 |14,v,w=>∃(T:Nat) (a1:Option Addr) (n1 c1:Nat) (a2:Option Addr) (n2 c2:Nat),v=.pointer (some ⟨T,0,none⟩)∧bs≤T∧w.heap[T]?=some (.cells #[.slice a1 n1 c1,.slice a2 n2 c2] 46 (0,0))
 |15,v,w=>∃(T:Nat) (e1:Option Addr) (e2:Nat) (e3:Option Addr) (e4:Nat),v=.pointer (some ⟨T,0,none⟩)∧bs≤T∧w.heap[T]?=some (.cells #[.slice e1 (zbc j.disk s).safe.length e2,.slice e3 (zbc j.disk s).wr.length e4] 46 (0,0))∧okD bs (.agg #[.slice da j.disk.safe.length dc,.slice db j.disk.wr.length dd]) (zbc j.disk s) (.agg #[.slice e1 (zbc j.disk s).safe.length e2,.slice e3 (zbc j.disk s).wr.length e4]) w
 |_,_,_=>True
theorem zko{B:Nat}{bs:Nat}{j:Jn}{s:St}{da:Option Addr}{dc:Nat}{db:Option Addr}{dd:Nat}{tb:Nat}{tq:Nat}{tc:Nat}{n:Nat}{w w':World}(hb:Below w.heap.size w w'){i:Nat}:∀kk uu,kk≠i→zib B bs j s da dc db dd tb tq tc n kk uu w→zib B bs j s da dc db dd tb tq tc n kk uu w':=by
 intro kk uu _ h
 match kk,h with
 |0,h|1,h|2,h|3,h|4,h|5,h|6,h|7,h|8,h|9,h=>exact h
 |10,⟨v2,h1,h2⟩=>exact⟨v2,h1,h2.below hb⟩
 |11,⟨v2,h1,h2⟩=>exact⟨v2,h1,h2.below hb⟩
 |12,h=>exact h.below hb
 |13,h=>exact h
 |14,⟨T,a1,n1,c1,a2,n2,c2,h1,h2,h3⟩=>exact⟨T,a1,n1,c1,a2,n2,c2,h1,h2,zad hb (Array.getElem?_eq_some_iff.1 h3).1 h3⟩
 |15,⟨T,e1,e2,e3,e4,h1,h2,h3,h4⟩=>exact⟨T,e1,e2,e3,e4,h1,h2,zad hb (Array.getElem?_eq_some_iff.1 h3).1 h3,h4.below hb⟩
 |_+16,_=>exact trivial
theorem zru{B:Nat}{bs:Nat}{j:Jn}{s:St}{da:Option Addr}{dc:Nat}{db:Option Addr}{dd:Nat}{tb:Nat}{tq:Nat}{tc:Nat}{n:Nat}{w:World}{T:Nat}{a1:Option Addr}{n1 c1:Nat}{a2:Option Addr}{n2 c2:Nat}(hT:w.heap[T]?=some (.cells #[.slice a1 n1 c1,.slice a2 n2 c2] 46 (0,0)))(b1:Option Addr)(m1 k1:Nat)(b2:Option Addr)(m2 k2:Nat):∀kk x,kk≠15→zib B bs j s da dc db dd tb tq tc n kk x w→zib B bs j s da dc db dd tb tq tc n kk x ((w.setCell ⟨T,0,none⟩ (.slice b1 m1 k1)).setCell ⟨T,1,none⟩ (.slice b2 m2 k2)):=by
 intro kk x A h
 match kk,h with
 |0,h|1,h|2,h|3,h|4,h|5,h|6,h|7,h|8,h|9,h=>exact h
 |10,⟨y,h1,h2⟩=>exact⟨y,h1,h2.store hT _ _ _ _ _ _⟩
 |11,⟨y,h1,h2⟩=>exact⟨y,h1,h2.store hT _ _ _ _ _ _⟩
 |12,h=>exact h.store hT _ _ _ _ _ _
 |13,h=>exact h
 |14,⟨T',u1,u2,u3,u4,u5,u6,h1,h2,h3⟩=>
  by_cases e:T'=T
  ·subst e;exact⟨T',_,_,_,_,_,_,h1,h2,zjo hT _ _⟩
  ·exact⟨T',u1,u2,u3,u4,u5,u6,h1,h2,(Below.heap_setCell _ _ _ _ e).trans ((Below.heap_setCell _ _ _ _ e).trans h3)⟩
 |15,_=>exact absurd rfl A
 |_+16,_=>exact trivial
def zme (B:Nat)(j:Jn)(X:List Nat)(d2:Dk)(e1:Option Addr)(e2:Nat)(e3:Option Addr)(e4:Nat)(tb:Nat)(tq:Nat)(tc:Nat)(n:Nat)(r:List St):Nat→Value→World→Prop
 |0,v,_=>v=.pointer (some ⟨B,0,none⟩)
 |1,v,_=>v=.pointer (some ⟨B,0,none⟩)
 |2,v,_=>v=.agg #[.slice e1 d2.safe.length e2,.slice e3 d2.wr.length e4]
 |3,v,_=>v=.pointer (some ⟨B,0,none⟩)
 |4,v,_=>v=.pointer (some ⟨B,0,none⟩)
 |5,v,_=>v=.pointer (some ⟨B,56,none⟩)
 |6,v,_=>v=.slice (some ⟨tb,tq,none⟩) n tc
 |7,v,w=>∃c a2,v=.slice a2 r.length c∧r.length≤c∧SegSt (zas w X) a2 r
 |8,v,_=>v=.pointer (some ⟨B,0,none⟩)
 |9,v,_=>v=.pointer (some ⟨B,1,none⟩)
 |10,_,w=>JAt w B X {j with disk:=d2}
 |_,_,_=>True
theorem zt4{B:Nat}{j:Jn}{X:List Nat}{d2:Dk}{e1:Option Addr}{e2:Nat}{e3:Option Addr}{e4:Nat}{tb:Nat}{tq:Nat}{tc:Nat}{n:Nat}{r:List St}{w w':World}(hs:∀a l,SegSt (zas w X) a l→SegSt (zas w' X) a l):∀kk x,kk≠10→zme B j X d2 e1 e2 e3 e4 tb tq tc n r kk x w→zme B j X d2 e1 e2 e3 e4 tb tq tc n r kk x w':=by
 intro kk x A h
 match kk,h with
 |0,h|1,h|2,h|3,h|4,h|5,h|6,h=>exact h
 |7,⟨c,a2,h1,h2,h3⟩=>exact⟨c,a2,h1,h2,hs _ _ h3⟩
 |8,h|9,h=>exact h
 |10,_=>exact absurd rfl A
 |_+11,_=>exact trivial
theorem z0o(B:Nat)(X:List Nat)(j:Jn)(w:World)(h:JAt w B X j)(hX:∀x∈X,x<w.heap.size)(hn:j.done.length≤900)(hf:j.fL.length≤maxLen)(hq:IntKind.i64.wrap (j.fN - 1)=j.fN - 1):
  Calls prog 44 #[.pointer (some ⟨B,0,none⟩)] w (zdj w B X (zef j)):=by
 have HJ:=zaa h;have M1:=h.lt;have A3:=h.1;have HX:=zaa hX;have HN:=zaa hn;have HF:=zaa hf;have HQ:=zaa hq;clear h hX hn hf hq;have M0:¬w.heap.size=B:=by omega
 go_enter func44,ntmps44;go_wp2_with fail;obtain⟨I,B0⟩:∃I,I=w.alloc (.cells #[.int .i64 0,.int .i64 0,.string ⟨#[]⟩] 31):=⟨_,rfl⟩;have O:Hid (JAt I B (w.heap.size::X) j):=by rw[B0];exact HJ.o.more (zab _ _) (Nat.le_refl _)
 have K:Hid (ButL [B] w.heap.size w I):=by rw[B0];exact ButL.of_below (zab _ _)
 have KR:Hid (I.heap[w.heap.size]?=some (.cells #[.int .i64 0,.int .i64 0,.string ⟨#[]⟩] 31 (0,0))):=by rw[B0];exact heap_alloc_new _ _
 have D6:I.heap.size=w.heap.size+1:=by rw[B0];simp
 have A8:w.heap.size<I.heap.size:=by omega
 have A9:w.heap.size≠B:=by omega
 have G3:Hid (∀x∈(w.heap.size::X),x<I.heap.size):=fun x hx=>by
  rcases List.mem_cons.1 hx with rfl|hx
  ·exact A8
  ·have:=HX.o x hx;omega
 rw[←B0];clear B0;refine(zfq B (w.heap.size::X) j I O.o).mono ?_;rintro e w' ⟨rfl,rfl⟩
 cases hst:j.steps with
 |nil=>
  have HE:Hid (zef j=(j,zaq 4)):=by rw[Hid,zef,hst]
  have B7:decide (0<([]:List St).length)=false:=rfl;rw[B7];clear hst B7;go_wp2_with fail;refine(zat 4 _).mono ?_;rintro e w2 ⟨rfl,D⟩;have Q:=zaa (zad D A8 KR.o);have A2:=zaa (O.o.below D);have A6:=zaa (K.o.trans (Y:=[]) (ButL.of_below D) K.o.size (by simp));clear D;obtain⟨⟨y0,y1,y2⟩,yf⟩:=zbo Q.o;go_wp2;exact zbe HE.o Q.o A2.o A6.o A9 A3 fun W u0 u1 u2=>by simp[results,results44,go_sem,u0,u1,u2]
 |cons s r=>
  have B7:decide (0<(s::r).length)=true:=by simp
  rw[B7];clear B7;have G7:=zaa hst;obtain⟨_,da,dc,db,dd,na,nc,nb,nd,ne,nf,sa,sc,sb,sd,se,sf,ca,cc,fa,fc,ta,tc,h1,hr⟩:=id O.o;have C1:Hid (w'.cell? ⟨B,1,none⟩=some (.slice da j.disk.safe.length dc)):=zak h1 1;have C2:Hid (w'.cell? ⟨B,2,none⟩=some (.slice db j.disk.wr.length dd)):=zak h1 2;obtain⟨n,B3⟩:∃n,n=j.steps.length:=⟨_,rfl⟩;have B5:=hr.2.2.2.2.2.1;have E3:=hr.2.2.2.2.2.2.2.1;rw[hst]at B5;obtain⟨S,N,G8,C6,E5⟩:=B5.resolve_left (by simp);have E0:Hid (w'.cell? ⟨B,56,none⟩=some (.slice (some ⟨S,N,none⟩) n tc)):=by rw[Hid,B3,←G8];exact zak h1 56
  have B2:=E5 0 (by simp);simp only[Nat.zero_mul,Nat.add_zero,List.getD_cons_zero]at B2;obtain⟨J4,D3⟩:=zb3 B2.1;have S0:=zaa D3;have S1:=zaa (zb3 B2.2.1).2;have S2:=zaa (zb3 B2.2.2).2
  have C3:Hid (SegSt (zas w' (w.heap.size::X)) (some ⟨S,N+3,none⟩) r):=.inr ⟨S,N+3,rfl,C6,fun i hi=>by
   have:=E5 (i+1) (by simp;omega);rw[show N+(i+1)*3=N+3+i*3 by omega]at this
   simpa using this⟩
  have E4:S<w'.heap.size:=by rw[zbr]at C6;exact C6
  have D7:Hid (n - 1=r.length):=by rw[Hid,B3,hst];simp
  have D8:Hid (1≤n):=by rw[Hid,B3,hst];simp
  have J2:Hid (n≤tc):=by rw[Hid,B3];exact E3
  have F9:=zaa (hr.1.ext (Ext.seenL w' _));have H1:=zaa hr.1;have C5:B<w'.heap.size:=by omega
  clear h1 hr B5 E3 G8 C6 E5 B2 D3 J4 hst B3;have H8:(1:Int)≤(n:Int):=by have:=D8.o;omega
  go_wp2;rename_i KK D4;obtain⟨I,E9⟩:∃I,I=w':=⟨_,rfl⟩;rw[←E9];subst E9
  have D5:∀(g:Nat→Value) (y:World) (T:Nat) (U:Option Addr) (R:Nat) (b:Option Addr) (Z:Nat),I.heap.size≤T→y.heap[T]?=some (.cells #[.slice U (zbc j.disk s).safe.length R,.slice b (zbc j.disk s).wr.length Z] 46 (0,0))→okD I.heap.size (.agg #[.slice da j.disk.safe.length dc,.slice db j.disk.wr.length dd]) (zbc j.disk s) (.agg #[.slice U (zbc j.disk s).safe.length R,.slice b (zbc j.disk s).wr.length Z]) y→Below I.heap.size I y→KK ⟨#[.pointer (some ⟨B,0,none⟩),g 1,.pointer (some ⟨w.heap.size,0,none⟩),.pointer (some ⟨T,0,none⟩),.int .i64 (doneE j.disk s),g 5,g 6,g 7,g 8,g 9,g 10,g 11,g 12,g 13,g 14,g 15,g 16,g 17,g 18,g 19,g 20,g 21,g 22,g 23,g 24,g 25,g 26,g 27,g 28,g 29,g 30,g 31,g 32,g 33,g 34,g 35,g 36,g 37,g 38,g 39,g 40,g 41,g 42,g 43],[]⟩ y:=by
   intro g y T U R b Z B1 m ok A1;apply D4;clear D4;have F1:=zaa (O.o.below A1);have D2:Hid (ButL [B] w.heap.size w y):=K.o.trans (Y:=[]) (ButL.of_below A1) K.o.size (by simp);have H0:=zaa (zad A1 A8 KR.o);have M2:I.heap.size≤y.heap.size:=A1.size
   have F5:Hid (IsDk (zas y (w.heap.size::X)) (.agg #[.slice U (zbc j.disk s).safe.length R,.slice b (zbc j.disk s).wr.length Z]) (zbc j.disk s)):=by
    rcases ok.2 with e|F
    ·have hd:=H1.o.ext (Ext.freshL A1);have E8:=ok.1;rw[Hid,e];rw[e]at E8;exact hd.asDisk E8
    ·exact ok.1.hideF F G3.o
   have H5:=zaa (zac A1 C5 E0.o);have H4:=zaa (C3.o.ext (Ext.freshL A1));have E6:=zaa m;have G5:T<y.heap.size:=(Array.getElem?_eq_some_iff.1 m).1;have G0:¬T=B:=by omega
   have H6:w.heap.size<y.heap.size:=by omega
   clear A1 m ok C1 C2 E0 S0 S1 S2 C3 F9 H1 O K KR;obtain⟨M,E1⟩:∃M,M=(zbc j.disk s):=⟨_,rfl⟩;rw[←E1]at F5 E6;have F6:=zaa E1;clear E1;by_cases he:doneE j.disk s=0
   ·have C4:Hid (zef j=if r=[] then zbg ({j with disk:=M,steps:=r}:Jn) else(({j with disk:=M,steps:=r}:Jn),zaq 0)):=by rw[Hid,zef,G7.o];simp only[he,if_true,F6.o]
    rw[he];clear he F6;go_wp2;rename_i D9 B8
    have B9:∀(g:Nat→Value) (W6:World),JAt W6 B (w.heap.size::X) ({j with disk:=M,steps:=r}:Jn)→ButL [B] y.heap.size y W6→D9 ⟨#[.pointer (some ⟨B,0,none⟩),g 1,.pointer (some ⟨w.heap.size,0,none⟩),g 3,g 4,g 5,g 6,g 7,g 8,g 9,g 10,g 11,g 12,g 13,g 14,g 15,g 16,g 17,g 18,g 19,g 20,g 21,g 22,g 23,g 24,g 25,g 26,g 27,g 28,g 29,g 30,g 31,g 32,g 33,g 34,g 35,g 36,g 37,g 38,g 39,g 40,g 41,g 42,g 43],[]⟩ W6:=by
     intro g W6 H3 C7;apply B8;clear B8;have O:=zaa H3;have K:Hid (ButL [B] w.heap.size w W6):=D2.o.trans C7 D2.o.size (by simp);have KR:Hid (W6.heap[w.heap.size]?=some (.cells #[.int .i64 0,.int .i64 0,.string ⟨#[]⟩] 31 (0,0))):=(C7.block _ (by omega) (by simpa using A9)).trans H0.o;have M3:y.heap.size≤W6.heap.size:=C7.size;have A8:w.heap.size<W6.heap.size:=by omega
     clear H3 C7;go_wp2_with fail;refine(zfq B (w.heap.size::X) ({j with disk:=M,steps:=r}:Jn) W6 O.o).mono ?_;rintro e w7 ⟨rfl,rfl⟩;by_cases hre:r=[]
     ·have D1:Hid (zef j=zbg ({j with disk:=M,steps:=r}:Jn)):=by rw[Hid,C4.o,if_pos hre]
      have B6:decide (0<(({j with disk:=M,steps:=r}:Jn)).steps.length)=false:=by show decide (0<r.length)=false;rw[hre];rfl
      rw[B6];clear B6 C4;go_wp2_with fail;refine(zty B (w.heap.size::X) ({j with disk:=M,steps:=r}:Jn) w7 O.o (fun x hx=>by have:=G3.o x hx;omega) HN.o HF.o HQ.o).mono ?_;rintro e w2 ⟨rfl,G1,C0⟩;have Q:Hid (w2.heap[w.heap.size]?=some (.cells #[.int .i64 0,.int .i64 0,.string ⟨#[]⟩] 31 (0,0))):=(C0.block _ (by omega) (by simpa using A9)).trans KR.o;have A2:=zaa G1;have A6:Hid (ButL [B] w.heap.size w w2):=K.o.trans C0 K.o.size (by simp);have L6:w7.heap.size≤w2.heap.size:=C0.size;clear G1 C0;obtain⟨P,hP⟩:∃P,P=zbg ({j with disk:=M,steps:=r}:Jn):=⟨_,rfl⟩;rw[←hP]at D1 A2⊢;have K0:Hid (zef j=(P.1,⟨P.2.code,P.2.n,P.2.text⟩)):=D1.o;rw[show vRp P.2=.agg #[.int .i64 P.2.code,.int .i64 P.2.n,.string P.2.text] from rfl];clear hP D1;obtain⟨⟨y0,y1,y2⟩,yf⟩:=zbo Q.o;go_wp2;exact zbe K0.o Q.o A2.o A6.o A9 A3 fun W u0 u1 u2=>by simp[results,results44,go_sem,u0,u1,u2]
     ·have HE:Hid (zef j=(({j with disk:=M,steps:=r}:Jn),zaq 0)):=by rw[Hid,C4.o,if_neg hre]
      have B6:decide (0<(({j with disk:=M,steps:=r}:Jn)).steps.length)=true:=by show decide (0<r.length)=true;simpa[List.length_pos_iff] using hre
      rw[B6];clear B6 C4 hre;go_wp2_with fail;refine(zat 0 _).mono ?_;rintro e w2 ⟨rfl,D⟩;have Q:=zaa (zad D A8 KR.o);have A2:=zaa (O.o.below D);have A6:=zaa (K.o.trans (Y:=[]) (ButL.of_below D) K.o.size (by simp));clear D;obtain⟨⟨y0,y1,y2⟩,yf⟩:=zbo Q.o;go_wp2;exact zbe HE.o Q.o A2.o A6.o A9 A3 fun W u0 u1 u2=>by simp[results,results44,go_sem,u0,u1,u2]
    have E2:=zaa B9;clear B9 B8;have C3:=H4;refine(show∀A0:Act,A0=_→Code.wp prog _ _ A0 _ from fun A0 hA0=>?_) _ rfl;have C:A0.tmps.size=44:=by rw[hA0];rfl
    have C8:A0.defers=[]:=by rw[hA0]
    have v0:A0.eval (.tmp 0)=.pointer (some ⟨B,0,none⟩):=by rw[hA0];rfl
    have L:A0.eval (.tmp 2)=.pointer (some ⟨w.heap.size,0,none⟩):=by rw[hA0];rfl
    have v3:A0.eval (.tmp 3)=.pointer (some ⟨T,0,none⟩):=by rw[hA0];rfl
    clear hA0;refine zbi 11 (fun w'=>(∃d,JAt w' B (w.heap.size::X) {j with disk:=d})∧ButL [B] y.heap.size y w'∧w'.cell? ⟨B,56,none⟩=some (.slice (some ⟨S,N,none⟩) n tc)) [27,28,29,30,31,32,33,34,35,36,36] (zme B j (w.heap.size::X) M U R b Z S N tc n r) (by kernel_rfl) (by kernel_rfl) (by kernel_rfl) (by kernel_rfl) (by decide) (⟨⟨_,F1.o.below (Below.refl _ _).drew⟩,ButL.of_below (Below.refl _ _).drew,H5.o⟩) ⟨?_,?_,?_,?_,?_,?_,?_,?_,?_,?_,?_,trivial⟩ ?_
    ·exact zbh v0 C (fun _=>rfl) fun ρ w' A z=>by simp only[execOp];go_simp
    ·exact zbh v0 C (fun _=>rfl) fun ρ w' A z=>by simp only[execOp];go_simp
    ·exact zbh v3 C (fun _=>rfl) fun ρ w' A z=>by have c0:w'.cell? ⟨T,0,none⟩=some (.slice U M.safe.length R):=(zgr ((A.2.1.block _ G5 (by simpa using G0)).trans E6.o)).1.1;have c1:w'.cell? ⟨T,1,none⟩=some (.slice b M.wr.length Z):=(zgr ((A.2.1.block _ G5 (by simpa using G0)).trans E6.o)).1.2;simp only[execOp];go_simp
    ·exact zbh v0 C (fun _=>rfl) fun ρ w' A z=>by simp only[execOp];go_simp
    ·exact zam 3 30 C (fun _ _ h=>h) (fun _=>rfl) fun ρ w' A p=>by simp only[execOp];go_simp
    ·exact zam 4 31 C (fun _ _ h=>h) (fun _=>rfl) fun ρ w' A p=>by simp only[execOp];go_simp
    ·exact zam 5 32 C (fun _ _ h=>h) (fun _=>rfl) fun ρ w' A p=>by have c0:w'.cell? ⟨B,56,none⟩=some (.slice (some ⟨S,N,none⟩) n tc):=A.2.2;simp only[execOp];go_simp
    ·intro a w' F A J;have p33:a.eval (.tmp 33)=.slice (some ⟨S,N,none⟩) n tc:=J ⟨6,.data⟩ (by simp) rfl;have B5:=C3.o.ext (Ext.butL (A.2.1.wider (Y:=(w.heap.size::X)) (by simp[A3])));have H8:=D8.o;have L4:=J2.o;by_cases E3:tc=1
     ·have L0:n=1:=by omega
      refine zbb (.slice (some ⟨S,N,none⟩) 0 0) rfl rfl (by have A4:=Act.eval_const a (.int .i64 1);revert p33 A4;generalize a.eval=ρ;intro p33 A4;simp only[execOp];go_simp) ⟨_,rfl,A,?_,fun _ _ _ h=>h⟩;show zme _ _ _ _ _ _ _ _ _ _ _ _ _ _ ((a.put (some 34) _).eval (.tmp 34)) w';rw[zax F C (by decide)];have H2:r.length=0:=by have:=D7.o;omega
      exact⟨0,_,by rw[H2],by omega,.inl (List.eq_nil_of_length_eq_zero H2)⟩
     ·refine zbb (.slice (some ⟨S,N+3,none⟩) (n - 1) (tc - 1)) rfl rfl (by have A4:=Act.eval_const a (.int .i64 1);revert p33 A4;generalize a.eval=ρ;intro p33 A4;simp only[execOp];go_simp) ⟨_,rfl,A,?_,fun _ _ _ h=>h⟩;show zme _ _ _ _ _ _ _ _ _ _ _ _ _ _ ((a.put (some 34) _).eval (.tmp 34)) w';rw[zax F C (by decide)];exact⟨tc - 1,_,by rw[D7.o],by have:=D7.o;omega,B5⟩
    ·exact zam 0 27 C (fun _ _ h=>h) (fun _=>rfl) fun ρ w' A p=>by simp only[execOp];go_simp
    ·exact zam 8 35 C (fun _ _ h=>h) (fun _=>rfl) fun ρ w' A p=>by simp only[execOp];go_simp
    ·intro a w' F A J;have p36:a.eval (.tmp 36)=.pointer (some ⟨B,1,none⟩):=J ⟨9,.data⟩ (by simp) rfl;have p29:a.eval (.tmp 29)=.agg #[.slice U M.safe.length R,.slice b M.wr.length Z]:=J ⟨2,.data⟩ (by simp) rfl;obtain⟨⟨d,C9⟩,F7,I3⟩:=A;obtain⟨_,I8,I5,K9,K8,K7,I2,J7,J5,I9,I7,J1,K1,H7,J8,I6,H9,K3,J0,I0,J6,K6,I1,k1,_⟩:=id C9;obtain⟨x1,c1⟩:∃v,w'.cell? ⟨B,1,none⟩=some v:=⟨_,(zak k1 1).trans rfl⟩;obtain⟨x2,c2⟩:∃v,w'.cell? ⟨B,2,none⟩=some v:=⟨_,(zak k1 2).trans rfl⟩;have M4:w'.frozen? ⟨B,1,none⟩=false:=frozen_of_row w' _ _ _ _ k1;have L2:w'.frozen? ⟨B,2,none⟩=false:=frozen_of_row w' _ _ _ _ k1;clear k1;have F3:=F5.o.ext (Ext.butL (F7.wider (Y:=(w.heap.size::X)) (by simp[A3])));refine zcw rfl rfl (w':=((w'.setCell ⟨B,1,none⟩ (.slice U M.safe.length R)).setCell ⟨B,2,none⟩ (.slice b M.wr.length Z))) (by revert p36 p29;generalize a.eval=ρ;intro p36 p29;simp only[execOp];go_simp) ⟨_,rfl,⟨⟨_,C9.putDisk F3⟩,?_,?_⟩,?_,zt4 (fun a l h=>(h.ext (Ext.setL (by simp[A3]) 1 _)).ext (Ext.setL (by simp[A3]) 2 _))⟩
     ·exact(F7.set (.inl (by simp)) 1 _).set (.inl (by simp)) 2 _
     ·simp[go_sem,I3]
     ·exact C9.putDisk F3
    ·intro a W F A J;have F8:a.eval (.tmp 28)=.pointer (some ⟨B,0,none⟩):=J 1 (by decide);obtain⟨yc,ya,J9,J3,K4⟩:∃c q,a.eval (.tmp 34)=.slice q r.length c∧r.length≤c∧SegSt (zas W (w.heap.size::X)) q r:=J 7 (by decide);have G2:JAt W B (w.heap.size::X) {j with disk:=M}:=J 10 (by decide);obtain⟨_,I8,I5,K9,K8,K7,I2,J7,J5,I9,I7,J1,K1,H7,J8,I6,H9,K3,J0,I0,J6,K6,I1,k1,_⟩:=id G2;obtain⟨L5,L8⟩:∃v,W.cell? ⟨B,56,none⟩=some v:=⟨_,(zak k1 56).trans rfl⟩;have L1:W.frozen? ⟨B,56,none⟩=false:=frozen_of_row W _ _ _ _ k1;clear k1;have B4:a.tmps.size=44:=F.size.trans C;show wpOps prog _ _ [11,12,13] a W;rw[wpOps_cons];refine zbb (.pointer (some ⟨B,0,none⟩)) rfl rfl (by revert F8;generalize a.eval=ρ;intro F8;simp only[execOp];go_simp) ?_;obtain⟨b1,A7⟩:∃b1,b1=a.put (some 37) (.pointer (some ⟨B,0,none⟩)):=⟨_,rfl⟩;have G9:b1.eval (.tmp 37)=.pointer (some ⟨B,0,none⟩):=by rw[A7];exact Act.eval_put_same _ _ _ (by rw[B4];decide)
     have K5:b1.eval (.tmp 34)=.slice ya r.length yc:=by rw[A7,Act.eval_put_ne _ _ _ _ (by decide)];exact J9
     show wpOps prog _ _ [12,13] (a.put (some 37) (.pointer (some ⟨B,0,none⟩))) W;rw[←A7,wpOps_cons];refine zbb (.pointer (some ⟨B,56,none⟩)) rfl rfl (by revert G9;generalize b1.eval=ρ;intro G9;simp only[execOp];go_simp) ?_;obtain⟨b2,D⟩:∃b2,b2=b1.put (some 38) (.pointer (some ⟨B,56,none⟩)):=⟨_,rfl⟩;have D6:b1.tmps.size=44:=by rw[A7,Act.size_put];exact B4
     have G4:b2.eval (.tmp 38)=.pointer (some ⟨B,56,none⟩):=by rw[D];exact Act.eval_put_same _ _ _ (by rw[D6];decide)
     have F0:b2.eval (.tmp 34)=.slice ya r.length yc:=by rw[D,Act.eval_put_ne _ _ _ _ (by decide)];exact K5
     show wpOps prog _ _ [13] (b1.put (some 38) (.pointer (some ⟨B,56,none⟩))) W;rw[←D,wpOps_cons];refine zcw rfl rfl (w':=W.setCell ⟨B,56,none⟩ (.slice ya r.length yc)) (by revert G4 F0;generalize b2.eval=ρ;intro G4 F0;simp only[execOp];go_simp) ?_;have f0:b2.eval (.tmp 0)=.pointer (some ⟨B,0,none⟩):=by rw[D,Act.eval_put_ne _ _ _ _ (by decide),A7,Act.eval_put_ne _ _ _ _ (by decide)];exact(F.other 0 rfl).trans v0
     have f2:b2.eval (.tmp 2)=.pointer (some ⟨w.heap.size,0,none⟩):=by rw[D,Act.eval_put_ne _ _ _ _ (by decide),A7,Act.eval_put_ne _ _ _ _ (by decide)];exact(F.other 2 rfl).trans L
     have u:b2=⟨#[_,_,_,_,_,_,_,_,_,_,_,_,_,_,_,_,_,_,_,_,_,_,_,_,_,_,_,_,_,_,_,_,_,_,_,_,_,_,_,_,_,_,_,_],[]⟩:=zci b2 44 (by rw[D,Act.size_put];exact D6) (by rw[D,Act.defers_put',A7,Act.defers_put'];exact F.defers.trans C8);dsimp only at u;rw[f0,f2]at u;show D9 b2 _;exact(congrArg (fun x=>D9 x _) u).mpr (E2.o (fun k=>b2.eval (.tmp k)) _ (G2.putSteps K4 J3) (A.2.1.set (.inl (by simp)) 56 _))
   ·have HE:Hid (zef j=(j,zaq (doneE j.disk s))):=by rw[Hid,zef,G7.o];simp only[he,if_false]
    have L9:(doneE j.disk s !=0)=true:=by simpa using he
    clear he;generalize doneE j.disk s=E at *;have O:=F1;have K:=D2;have KR:=H0;have A8:=H6;go_wp2_with fail;refine(zat E _).mono ?_;rintro e w2 ⟨rfl,D⟩;have Q:=zaa (zad D A8 KR.o);have A2:=zaa (O.o.below D);have A6:=zaa (K.o.trans (Y:=[]) (ButL.of_below D) K.o.size (by simp));clear D;obtain⟨⟨y0,y1,y2⟩,yf⟩:=zbo Q.o;go_wp2;exact zbe HE.o Q.o A2.o A6.o A9 A3 fun W u0 u1 u2=>by simp[results,results44,go_sem,u0,u1,u2]
  have E7:=zaa D5;clear D5 D4;refine(show∀A0:Act,A0=_→Code.wp prog _ _ A0 _ from fun A0 hA0=>?_) _ rfl;have C:A0.tmps.size=44:=by rw[hA0];rfl
  have C8:A0.defers=[]:=by rw[hA0]
  have v0:A0.eval (.tmp 0)=.pointer (some ⟨B,0,none⟩):=by rw[hA0];rfl
  have L:A0.eval (.tmp 2)=.pointer (some ⟨w.heap.size,0,none⟩):=by rw[hA0];rfl
  clear hA0;refine zbi 16 (fun w'=>Below I.heap.size I w') [10,11,12,13,14,15,16,17,18,19,20,9,21,22,3,3] (zib B I.heap.size j s da dc db dd S N tc n) (by kernel_rfl) (by kernel_rfl) (by kernel_rfl) (by kernel_rfl) (by decide) ((Below.refl _ _).drew) ⟨?_,?_,?_,?_,?_,?_,?_,?_,?_,?_,?_,?_,?_,?_,?_,?_,trivial⟩ ?_
  ·exact zbh v0 C (fun _=>rfl) fun ρ w' A z=>by simp only[execOp];go_simp
  ·exact zam 0 10 C (fun _ _ h=>h) (fun _=>rfl) fun ρ w' A p=>by simp only[execOp];go_simp
  ·exact zam 1 11 C (fun _ _ h=>h) (fun _=>rfl) fun ρ w' A p=>by simp only[execOp];go_simp
  ·exact zam 2 12 C (fun _ _ h=>h) (fun _=>rfl) fun ρ w' A p=>by have c0:w'.cell? ⟨B,1,none⟩=some (.slice da j.disk.safe.length dc):=zac A C5 C1.o;have c1:w'.cell? ⟨B,2,none⟩=some (.slice db j.disk.wr.length dd):=zac A C5 C2.o;simp only[execOp];go_simp
  ·exact zbh v0 C (fun _=>rfl) fun ρ w' A z=>by simp only[execOp];go_simp
  ·exact zam 4 14 C (fun _ _ h=>h) (fun _=>rfl) fun ρ w' A p=>by simp only[execOp];go_simp
  ·exact zam 5 15 C (fun _ _ h=>h) (fun _=>rfl) fun ρ w' A p=>by simp only[execOp];go_simp
  ·exact zam 6 16 C (fun _ _ h=>h) (fun _=>rfl) fun ρ w' A p=>by have c0:w'.cell? ⟨B,56,none⟩=some (.slice (some ⟨S,N,none⟩) n tc):=zac A C5 E0.o;simp only[execOp];go_simp
  ·intro a w' F A J;have F2:a.eval (.tmp 17)=.slice (some ⟨S,N,none⟩) n tc:=J ⟨7,.data⟩ (by simp) rfl;have L3:¬n=0:=by have:=D8.o;omega
   exact zf6 _ rfl rfl (by have A4:=Act.eval_const a (.int .i64 0);revert F2 A4;generalize a.eval=ρ;intro F2 A4;simp only[execOp];go_simp) F C A rfl
  ·exact zam 8 18 C (fun _ _ h=>h) (fun _=>rfl) fun ρ w' A p=>by have c0:w'.cell? ⟨S,N,none⟩=some (.int .i64 s.1):=zac A E4 S0.o;have c1:w'.cell? ⟨S,N+1,none⟩=some (.int .i64 s.2.1):=zac A E4 S1.o;have c2:w'.cell? ⟨S,N+2,none⟩=some (.string s.2.2):=zac A E4 S2.o;simp only[execOp];go_simp
  ·intro a w' F A J;have G6:a.eval (.tmp 13)=.agg #[.slice da j.disk.safe.length dc,.slice db j.disk.wr.length dd]:=J ⟨3,.data⟩ (by simp) rfl;have F4:a.eval (.tmp 19)=.agg #[.int .i64 s.1,.int .i64 s.2.1,.string s.2.2]:=J ⟨9,.data⟩ (by simp) rfl;refine zby 73 #[.agg #[.slice da j.disk.safe.length dc,.slice db j.disk.wr.length dd],.agg #[.int .i64 s.1,.int .i64 s.2.1,.string s.2.2]] rfl rfl (by have pf:=Act.eval_func a 73;revert G6 F4 pf;generalize a.eval=ρ;intro G6 F4 pf;simp only[execOp];go_simp) _ (z14 (.agg #[.slice da j.disk.safe.length dc,.slice db j.disk.wr.length dd]) j.disk s _ (F9.o.below A)) ?_;rintro e w2 ⟨L,rfl,K2,D,I4⟩;refine⟨_,rfl,_,rfl,zae A D,?_,zko D⟩;show zib _ _ _ _ _ _ _ _ _ _ _ _ _ ((a.put (some 20) _).eval (.tmp 20)) w2;rw[zax F C (by decide)];exact⟨L,rfl,K2,I4.imp id (fun h=>h.lower A.size)⟩
  ·intro a w' F A J;obtain⟨L,pc,ok⟩:∃L,a.eval (.tmp 20)=.tuple #[L,.int .i64 (doneE j.disk s)]∧okD I.heap.size (.agg #[.slice da j.disk.safe.length dc,.slice db j.disk.wr.length dd]) (zbc j.disk s) L w':=J ⟨10,.data⟩ (by simp) rfl;refine zbb (.tuple #[L,.int .i64 (doneE j.disk s)]) rfl rfl (by revert pc;generalize a.eval=ρ;intro pc;simp only[execOp];go_simp) ⟨_,rfl,A,?_,fun _ _ _ h=>h⟩;show zib _ _ _ _ _ _ _ _ _ _ _ _ _ ((a.put (some 9) _).eval (.tmp 9)) w';rw[zax F C (by decide)];exact⟨L,rfl,ok⟩
  ·intro a w' F A J;obtain⟨L,pm,ok⟩:∃L,a.eval (.tmp 9)=.tuple #[L,.int .i64 (doneE j.disk s)]∧okD I.heap.size (.agg #[.slice da j.disk.safe.length dc,.slice db j.disk.wr.length dd]) (zbc j.disk s) L w':=J ⟨11,.data⟩ (by simp) rfl;refine zbb (L) rfl rfl (by revert pm;generalize a.eval=ρ;intro pm;simp only[execOp];go_simp) ⟨_,rfl,A,?_,fun _ _ _ h=>h⟩;show zib _ _ _ _ _ _ _ _ _ _ _ _ _ ((a.put (some 21) _).eval (.tmp 21)) w';rw[zax F C (by decide)];exact ok
  ·intro a w' F A J;obtain⟨L,pm,ok⟩:∃L,a.eval (.tmp 9)=.tuple #[L,.int .i64 (doneE j.disk s)]∧okD I.heap.size (.agg #[.slice da j.disk.safe.length dc,.slice db j.disk.wr.length dd]) (zbc j.disk s) L w':=J ⟨11,.data⟩ (by simp) rfl;exact zf6 _ rfl rfl (by revert pm;generalize a.eval=ρ;intro pm;simp only[execOp];go_simp) F C A rfl
  ·intro a w' F A J;refine zgj (.pointer (some ⟨w'.heap.size,0,none⟩)) rfl rfl (w':=w'.alloc (.cells #[.slice none 0 0,.slice none 0 0] 46)) (by simp only[execOp];go_simp) ⟨_,rfl,A.alloc A.size _,?_,zko (zab _ _)⟩;show zib _ _ _ _ _ _ _ _ _ _ _ _ _ ((a.put (some 3) _).eval (.tmp 3)) _;rw[zax F C (by decide)];exact⟨_,_,_,_,_,_,_,rfl,A.size,heap_alloc_new _ _⟩
  ·intro a w' F A J;obtain⟨T,a1,n1,c1,q,n2,c2,pT,B1,m⟩:∃(T:Nat) (a1:Option Addr) (n1 c1:Nat) (q:Option Addr) (n2 c2:Nat),a.eval (.tmp 3)=.pointer (some ⟨T,0,none⟩)∧I.heap.size≤T∧w'.heap[T]?=some (.cells #[.slice a1 n1 c1,.slice q n2 c2] 46 (0,0)):=J ⟨14,.data⟩ (by simp) rfl;have ok:okD I.heap.size (.agg #[.slice da j.disk.safe.length dc,.slice db j.disk.wr.length dd]) (zbc j.disk s) (a.eval (.tmp 21)) w':=J ⟨12,.data⟩ (by simp) rfl;obtain⟨U,R,b,Z,hv,_⟩:=id ok.1;rw[hv]at ok;obtain⟨⟨t0,t1⟩,tf⟩:=zgr m;refine zcw rfl rfl (w':=((w'.setCell ⟨T,0,none⟩ (.slice U (zbc j.disk s).safe.length R)).setCell ⟨T,1,none⟩ (.slice b (zbc j.disk s).wr.length Z))) (by revert pT hv;generalize a.eval=ρ;intro pT hv;simp only[execOp];go_simp) ⟨_,rfl,?_,?_,zru m _ _ _ _ _ _⟩
   ·exact(A.setCell (p:=⟨T,0,none⟩) B1 _).setCell (p:=⟨T,1,none⟩) B1 _
   ·show zib _ _ _ _ _ _ _ _ _ _ _ _ _ (a.eval (.tmp 3)) _;exact⟨T,U,R,b,Z,pT,B1,zjo m _ _,ok.store m _ _ _ _ _ _⟩
  ·intro a W F A J;obtain⟨T,U,R,b,Z,pT,B1,m,ok⟩:∃(T:Nat) (U:Option Addr) (R:Nat) (b:Option Addr) (Z:Nat),a.eval (.tmp 3)=.pointer (some ⟨T,0,none⟩)∧I.heap.size≤T∧W.heap[T]?=some (.cells #[.slice U (zbc j.disk s).safe.length R,.slice b (zbc j.disk s).wr.length Z] 46 (0,0))∧okD I.heap.size (.agg #[.slice da j.disk.safe.length dc,.slice db j.disk.wr.length dd]) (zbc j.disk s) (.agg #[.slice U (zbc j.disk s).safe.length R,.slice b (zbc j.disk s).wr.length Z]) W:=J 15 (by decide);have pE:a.eval (.tmp 22)=.int .i64 (doneE j.disk s):=J 13 (by decide);show wpOps prog _ _ [16] a W;rw[wpOps_cons];refine zbb (.int .i64 (doneE j.disk s)) rfl rfl (by revert pE;generalize a.eval=ρ;intro pE;simp only[execOp];go_simp) ?_;have B4:a.tmps.size=44:=F.size.trans C;obtain⟨q,A5⟩:∃q,q=a.put (some 4) (.int .i64 (doneE j.disk s)):=⟨_,rfl⟩;have f4:q.eval (.tmp 4)=.int .i64 (doneE j.disk s):=by rw[A5];exact Act.eval_put_same _ _ _ (by rw[B4];decide)
   have f0:q.eval (.tmp 0)=.pointer (some ⟨B,0,none⟩):=by rw[A5,Act.eval_put_ne _ _ _ _ (by decide)];exact(F.other 0 rfl).trans v0
   have f2:q.eval (.tmp 2)=.pointer (some ⟨w.heap.size,0,none⟩):=by rw[A5,Act.eval_put_ne _ _ _ _ (by decide)];exact(F.other 2 rfl).trans L
   have f3:q.eval (.tmp 3)=.pointer (some ⟨T,0,none⟩):=by rw[A5,Act.eval_put_ne _ _ _ _ (by decide)];exact pT
   have u:q=⟨#[_,_,_,_,_,_,_,_,_,_,_,_,_,_,_,_,_,_,_,_,_,_,_,_,_,_,_,_,_,_,_,_,_,_,_,_,_,_,_,_,_,_,_,_],[]⟩:=zci q 44 (by rw[A5,Act.size_put];exact B4) (by rw[A5,Act.defers_put'];exact F.defers.trans C8);dsimp only at u;rw[f0,f2,f3,f4]at u;show KK (a.put (some 4) (.int .i64 (doneE j.disk s))) _;rw[←A5];exact(congrArg (fun x=>KK x _) u).mpr (E7.o (fun k=>q.eval (.tmp k)) _ T U R b Z B1 m ok A)
structure Ready (j:Jn):Prop where
 done:j.done.length≤900
 found:j.fL.length≤maxLen
 next:IntKind.i64.wrap (j.fN - 1)=j.fN - 1
 seq:IntKind.i64.wrap (j.now.seq+1)=j.now.seq+1
 last:IntKind.i64.wrap (j.last+1)=j.last+1
 info:j.now.info.length*24≤140737488355328
 data:j.now.data.length*24≤140737488355328
 few:j.down=true→j.steps=[]→∀t∈fndL j.disk,Few t
 used0:0≤j.ru
 used1:j.ru≤24
 acts0:0≤j.acts
 acts1:j.acts≤400
def znz (B:Nat)(D:Nat)(j:Jn)(X:List Nat)(na:Option Addr)(nc:Nat)(nb:Option Addr)(nd:Nat)(ne:Option Addr)(nf:Nat)(ah:Int)(an:Int):Nat→Value→World→Prop
 |0,v,_=>v=.pointer (some ⟨B,0,none⟩)
 |1,v,_=>v=.pointer (some ⟨B,0,none⟩)
 |2,v,_=>v=.pointer (some ⟨B,0,none⟩)
 |3,v,_=>v=.pointer (some ⟨B,31,none⟩)
 |4,v,_=>v=.agg #[.int .i64 j.now.seq,.slice na j.now.info.length nc,.slice nb j.now.data.length nd,.slice ne j.now.rev.length nf,.bool j.now.h0.on,.int .i64 j.now.h0.left,.bool j.now.h1.on,.int .i64 j.now.h1.left,.bool j.now.h2.on,.int .i64 j.now.h2.left]
 |5,v,_=>v=.pointer (some ⟨D,1,none⟩)
 |6,v,_=>v=.int .i64 ah
 |7,v,_=>v=.pointer (some ⟨D,3,none⟩)
 |8,v,_=>v=.int .i64 an
 |9,v,_=>v=.pointer (some ⟨B,0,none⟩)
 |10,v,_=>v=.pointer (some ⟨B,0,none⟩)
 |11,v,_=>v=.pointer (some ⟨B,3,none⟩)
 |12,v,_=>v=.agg #[.int .i64 j.rh,.int .i64 j.ru]
 |13,v,_=>v=.int .i64 (24 - j.ru)
 |14,v,w=>∃v2,v=.tuple #[v2,.int .i64 (zbd j.now ah an (24 - j.ru))]∧okTx X (zau j.now ah an (24 - j.ru)) v2 undef w
 |15,v,w=>okTx X (zau j.now ah an (24 - j.ru)) v undef w
 |16,v,_=>v=.int .i64 (zbd j.now ah an (24 - j.ru))
 |_,_,_=>True
theorem zkp{B:Nat}{D:Nat}{j:Jn}{X:List Nat}{na:Option Addr}{nc:Nat}{nb:Option Addr}{nd:Nat}{ne:Option Addr}{nf:Nat}{ah:Int}{an:Int}{w w':World}(hb:Below w.heap.size w w'){i:Nat}:∀kk uu,kk≠i→znz B D j X na nc nb nd ne nf ah an kk uu w→znz B D j X na nc nb nd ne nf ah an kk uu w':=by
 intro kk uu _ h
 match kk,h with
 |0,h|1,h|2,h|3,h|4,h|5,h|6,h|7,h|8,h|9,h|10,h|11,h|12,h|13,h=>exact h
 |14,⟨v2,h1,h2⟩=>exact⟨v2,h1,h2.below hb⟩
 |15,h=>exact h.below hb
 |16,h=>exact h
 |_+17,_=>exact trivial
def zmh (B:Nat)(D:Nat)(j:Jn)(X:List Nat)(na:Option Addr)(nc:Nat)(nb:Option Addr)(nd:Nat)(ne:Option Addr)(nf:Nat)(ah:Int):Nat→Value→World→Prop
 |0,v,_=>v=.pointer (some ⟨B,0,none⟩)
 |1,v,_=>v=.pointer (some ⟨B,0,none⟩)
 |2,v,_=>v=.pointer (some ⟨B,0,none⟩)
 |3,v,_=>v=.pointer (some ⟨B,31,none⟩)
 |4,v,_=>v=.agg #[.int .i64 j.now.seq,.slice na j.now.info.length nc,.slice nb j.now.data.length nd,.slice ne j.now.rev.length nf,.bool j.now.h0.on,.int .i64 j.now.h0.left,.bool j.now.h1.on,.int .i64 j.now.h1.left,.bool j.now.h2.on,.int .i64 j.now.h2.left]
 |5,v,_=>v=.pointer (some ⟨D,1,none⟩)
 |6,v,_=>v=.int .i64 ah
 |7,v,w=>∃v2,v=.tuple #[v2,.int .i64 (zcy j.now ah)]∧okTx X (zb2 j.now ah) v2 undef w
 |8,v,w=>okTx X (zb2 j.now ah) v undef w
 |9,v,_=>v=.int .i64 (zcy j.now ah)
 |_,_,_=>True
theorem zph{B:Nat}{D:Nat}{j:Jn}{X:List Nat}{na:Option Addr}{nc:Nat}{nb:Option Addr}{nd:Nat}{ne:Option Addr}{nf:Nat}{ah:Int}{w w':World}(hb:Below w.heap.size w w'){i:Nat}:∀kk uu,kk≠i→zmh B D j X na nc nb nd ne nf ah kk uu w→zmh B D j X na nc nb nd ne nf ah kk uu w':=by
 intro kk uu _ h
 match kk,h with
 |0,h|1,h|2,h|3,h|4,h|5,h|6,h=>exact h
 |7,⟨v2,h1,h2⟩=>exact⟨v2,h1,h2.below hb⟩
 |8,h=>exact h.below hb
 |9,h=>exact h
 |_+10,_=>exact trivial
theorem z0u(B:Nat)(X:List Nat)(j:Jn)(w:World)(h:JAt w B X j)(hX:∀x∈X,x<w.heap.size)(hK:Ready j)(ah ab an:Int)(at0:ByteArray)(ht:at0.size≤maxLen):
  Calls prog 47 #[.pointer (some ⟨B,0,none⟩),.agg #[.int .i64 1,.int .i64 ah,.int .i64 ab,.int .i64 an,.string at0]] w (zdj w B X (zav j ⟨1,ah,ab,an,at0⟩)):=by
 have HJ:=zaa h;have F0:=h.lt;have E1:=h.1;have HX:=zaa hX;have D6:=zaa hK.used0;have D5:=zaa hK.used1;have C6:=zaa hK.info;have B8:=zaa hK.data;have F1:=zaa hK.seq;have E8:=zaa hK.last;have E6:=zaa ht;have E5:Hid (j.done.length≤maxLen):=Nat.le_trans hK.done (by unfold maxLen;omega);clear h hX hK ht;have E9:¬w.heap.size=B:=by omega
 have E4:¬w.heap.size+1=B:=by omega
 have D7:Hid (zav j ⟨1,ah,ab,an,at0⟩=zls j (zau j.now ah an (24 - j.ru)) (zbd j.now ah an (24 - j.ru))):=by rw[Hid,zav];simp[]
 obtain⟨P,y⟩:∃P,P=zls j (zau j.now ah an (24 - j.ru)) (zbd j.now ah an (24 - j.ru)):=⟨_,rfl⟩;have HE:Hid (zav j ⟨1,ah,ab,an,at0⟩=(P.1,P.2)):=by rw[Hid,D7.o,←y]
 have D1:=zaa y;clear y;go_enter func47,ntmps47;go_wp2;obtain⟨C,Q⟩:∃C,C=(w.alloc (.cells #[.int .i64 1,.int .i64 ah,.int .i64 ab,.int .i64 an,.string at0] 23)).alloc (.cells #[.int .i64 0,.int .i64 0,.string ⟨#[]⟩] 31):=⟨_,rfl⟩;have B0:(w.alloc (.cells #[.int .i64 1,.int .i64 ah,.int .i64 ab,.int .i64 an,.string at0] 23)).heap.size=w.heap.size+1:=by simp
 have A6:Below w.heap.size w C:=by rw[Q];exact zae (zab _ _) (zab _ _)
 have B3:Hid (JAt C B ((w.heap.size+1)::X) j):=HJ.o.more A6 (by omega);have B2:Hid (ButL [B] w.heap.size w C):=ButL.of_below A6;have KR:Hid (C.heap[w.heap.size+1]?=some (.cells #[.int .i64 0,.int .i64 0,.string ⟨#[]⟩] 31 (0,0))):=by rw[Q,←B0];exact heap_alloc_new _ _
 have KA:Hid (C.heap[w.heap.size]?=some (.cells #[.int .i64 1,.int .i64 ah,.int .i64 ab,.int .i64 an,.string at0] 23 (0,0))):=by rw[Q];exact zad (zab _ _) (by omega) (heap_alloc_new _ _)
 have E7:C.heap.size=w.heap.size+2:=by rw[Q];simp
 have B4:w.heap.size+1<C.heap.size:=by omega
 have A9:w.heap.size+1≠B:=by omega
 have D8:Hid (∀x∈((w.heap.size+1)::X),x<C.heap.size):=fun x hx=>by
  rcases List.mem_cons.1 hx with rfl|hx
  ·exact B4
  ·have:=HX.o x hx;omega
 rw[←Q];clear Q B0;rename_i KK r;obtain⟨_,da,dc,db,dd,d,m,i,c,ne,l,sa,sc,sb,sd,se,sf,ca,cc,fa,fc,ta,tc,I,hr⟩:=id B3.o;have C3:Hid (C.cell? ⟨B,3,none⟩=some (.int .i64 j.rh)):=zak I 3;have C4:Hid (C.cell? ⟨B,4,none⟩=some (.int .i64 j.ru)):=zak I 4;have C8:Hid (C.cell? ⟨B,31,none⟩=some (.int .i64 j.now.seq)):=zak I 31;have C1:Hid (C.cell? ⟨B,32,none⟩=some (.slice d j.now.info.length m)):=zak I 32;have D3:Hid (C.cell? ⟨B,33,none⟩=some (.slice i j.now.data.length c)):=zak I 33;have D2:Hid (C.cell? ⟨B,34,none⟩=some (.slice ne j.now.rev.length l)):=zak I 34;have D9:Hid (C.cell? ⟨B,35,none⟩=some (.bool j.now.h0.on)):=zak I 35;have E3:Hid (C.cell? ⟨B,36,none⟩=some (.int .i64 j.now.h0.left)):=zak I 36;have B7:Hid (C.cell? ⟨B,37,none⟩=some (.bool j.now.h1.on)):=zak I 37;have C7:Hid (C.cell? ⟨B,38,none⟩=some (.int .i64 j.now.h1.left)):=zak I 38;have E2:Hid (C.cell? ⟨B,39,none⟩=some (.bool j.now.h2.on)):=zak I 39;have C0:Hid (C.cell? ⟨B,40,none⟩=some (.int .i64 j.now.h2.left)):=zak I 40;have A7:Hid (IsTx (zas C ((w.heap.size+1)::X)) (.agg #[.int .i64 j.now.seq,.slice d j.now.info.length m,.slice i j.now.data.length c,.slice ne j.now.rev.length l,.bool j.now.h0.on,.int .i64 j.now.h0.left,.bool j.now.h1.on,.int .i64 j.now.h1.left,.bool j.now.h2.on,.int .i64 j.now.h2.left]) j.now):=hr.2.1;have C5:=zaa hr.2.2.2.2.2.2.1;clear I hr;obtain⟨⟨z0,z1,z2,z3,z4⟩,_⟩:=zjn KA.o;have A1:=zaa z1;have A3:=zaa z3;clear z0 z1 z2 z3 z4;have E:B<C.heap.size:=by omega
 have B6:w.heap.size<C.heap.size:=by omega
 have s:∀(g:Nat→Value) (W3 N:World),zls j (zau j.now ah an (24 - j.ru)) (zbd j.now ah an (24 - j.ru))=P→W3=(((N.setCell ⟨(w.heap.size+1),0,none⟩ (.int .i64 P.2.code)).setCell ⟨(w.heap.size+1),1,none⟩ (.int .i64 P.2.n)).setCell ⟨(w.heap.size+1),2,none⟩ (.string P.2.text))→N.heap[w.heap.size+1]?=some (.cells #[.int .i64 0,.int .i64 0,.string ⟨#[]⟩] 31 (0,0))→JAt N B ((w.heap.size+1)::X) P.1→ButL [B] w.heap.size w N→KK ⟨#[.pointer (some ⟨B,0,none⟩),g 1,g 2,.pointer (some ⟨w.heap.size,0,none⟩),.pointer (some ⟨w.heap.size+1,0,none⟩),g 5,g 6,g 7,g 8,g 9,g 10,g 11,g 12,g 13,g 14,g 15,g 16,g 17,g 18,g 19,g 20,g 21,g 22,g 23,g 24,g 25,g 26,g 27,g 28,g 29,g 30,g 31,g 32,g 33,g 34,g 35,g 36,g 37,g 38,g 39,g 40,g 41,g 42,g 43,g 44,g 45,g 46,g 47,g 48,g 49,g 50,g 51,g 52,g 53,g 54,g 55,g 56,g 57,g 58,g 59,g 60,g 61,g 62,g 63,g 64,g 65,g 66],[]⟩ W3:=by
  intro g W3 N _ hW Z U b;apply r;clear r;have hX:=zgf Z (.int .i64 P.2.code) (.int .i64 P.2.n) (.string P.2.text);rw[←hW]at hX;obtain⟨⟨u0,u1,u2⟩,_⟩:=zbo hX;have HW:=zaa hW;clear hW hX;go_wp2;refine bodyPost_ret (v:=.agg #[.int .i64 P.2.code,.int .i64 P.2.n,.string P.2.text]) (by simp[results,results47,go_sem,u0,u1,u2]) rfl ⟨by rw[HE.o];rfl,?_,?_⟩
  ·rw[HE.o,HW.o];exact zw4 U A9 E1 _ _ _
  ·rw[HW.o];exact((b.set (.inr (by omega)) 0 _).set (.inr (by omega)) 1 _).set (.inr (by omega)) 2 _
 have A2:=zaa s;clear s r;refine(show∀A0:Act,A0=_→Code.wp prog _ _ A0 _ from fun A0 hA0=>?_) _ rfl;have D:A0.tmps.size=67:=by rw[hA0];rfl
 have B9:A0.defers=[]:=by rw[hA0]
 have v0:A0.eval (.tmp 0)=.pointer (some ⟨B,0,none⟩):=by rw[hA0];rfl
 have v3:A0.eval (.tmp 3)=.pointer (some ⟨w.heap.size,0,none⟩):=by rw[hA0];rfl
 have v4:A0.eval (.tmp 4)=.pointer (some ⟨w.heap.size+1,0,none⟩):=by rw[hA0];rfl
 clear hA0;refine zbi 17 (fun w'=>Below C.heap.size C w') [13,14,15,16,17,18,19,20,21,22,23,24,25,26,27,28,29] (znz B w.heap.size j ((w.heap.size+1)::X) d m i c ne l ah an) (by kernel_rfl) (by kernel_rfl) (by kernel_rfl) (by kernel_rfl) (by decide) ((Below.refl _ _).drew) ⟨?_,?_,?_,?_,?_,?_,?_,?_,?_,?_,?_,?_,?_,?_,?_,?_,?_,trivial⟩ ?_
 ·exact zbh v0 D (fun _=>rfl) fun ρ w' A z=>by simp only[execOp];go_simp
 ·exact zbh v0 D (fun _=>rfl) fun ρ w' A z=>by simp only[execOp];go_simp
 ·exact zam 1 14 D (fun _ _ h=>h) (fun _=>rfl) fun ρ w' A p=>by simp only[execOp];go_simp
 ·exact zam 2 15 D (fun _ _ h=>h) (fun _=>rfl) fun ρ w' A p=>by simp only[execOp];go_simp
 ·exact zam 3 16 D (fun _ _ h=>h) (fun _=>rfl) fun ρ w' A p=>by have c0:w'.cell? ⟨B,31,none⟩=some (.int .i64 j.now.seq):=zac A E C8.o;have c1:w'.cell? ⟨B,32,none⟩=some (.slice d j.now.info.length m):=zac A E C1.o;have c2:w'.cell? ⟨B,33,none⟩=some (.slice i j.now.data.length c):=zac A E D3.o;have c3:w'.cell? ⟨B,34,none⟩=some (.slice ne j.now.rev.length l):=zac A E D2.o;have c4:w'.cell? ⟨B,35,none⟩=some (.bool j.now.h0.on):=zac A E D9.o;have c5:w'.cell? ⟨B,36,none⟩=some (.int .i64 j.now.h0.left):=zac A E E3.o;have c6:w'.cell? ⟨B,37,none⟩=some (.bool j.now.h1.on):=zac A E B7.o;have c7:w'.cell? ⟨B,38,none⟩=some (.int .i64 j.now.h1.left):=zac A E C7.o;have c8:w'.cell? ⟨B,39,none⟩=some (.bool j.now.h2.on):=zac A E E2.o;have c9:w'.cell? ⟨B,40,none⟩=some (.int .i64 j.now.h2.left):=zac A E C0.o;simp only[execOp];go_simp
 ·exact zbh v3 D (fun _=>rfl) fun ρ w' A z=>by simp only[execOp];go_simp
 ·exact zam 5 18 D (fun _ _ h=>h) (fun _=>rfl) fun ρ w' A p=>by have c0:w'.cell? ⟨w.heap.size,1,none⟩=some (.int .i64 ah):=zac A B6 A1.o;simp only[execOp];go_simp
 ·exact zbh v3 D (fun _=>rfl) fun ρ w' A z=>by simp only[execOp];go_simp
 ·exact zam 7 20 D (fun _ _ h=>h) (fun _=>rfl) fun ρ w' A p=>by have c0:w'.cell? ⟨w.heap.size,3,none⟩=some (.int .i64 an):=zac A B6 A3.o;simp only[execOp];go_simp
 ·exact zbh v0 D (fun _=>rfl) fun ρ w' A z=>by simp only[execOp];go_simp
 ·exact zam 9 22 D (fun _ _ h=>h) (fun _=>rfl) fun ρ w' A p=>by simp only[execOp];go_simp
 ·exact zam 10 23 D (fun _ _ h=>h) (fun _=>rfl) fun ρ w' A p=>by simp only[execOp];go_simp
 ·exact zam 11 24 D (fun _ _ h=>h) (fun _=>rfl) fun ρ w' A p=>by have c0:w'.cell? ⟨B,3,none⟩=some (.int .i64 j.rh):=zac A E C3.o;have c1:w'.cell? ⟨B,4,none⟩=some (.int .i64 j.ru):=zac A E C4.o;simp only[execOp];go_simp
 ·intro a w' J A F;have p25:a.eval (.tmp 25)=.agg #[.int .i64 j.rh,.int .i64 j.ru]:=F ⟨12,.data⟩ (by simp) rfl;refine zby 34 #[.agg #[.int .i64 j.rh,.int .i64 j.ru]] rfl rfl (by have R:=Act.eval_func a 34;revert p25 R;generalize a.eval=ρ;intro p25 R;simp only[execOp];go_simp) _ (zkd j.rh j.ru _ D6.o D5.o) ?_;rintro e w2 ⟨rfl,O⟩;refine⟨_,rfl,_,rfl,zae A O,?_,zkp O⟩;show znz _ _ _ _ _ _ _ _ _ _ _ _ _ ((a.put (some 26) _).eval (.tmp 26)) w2;rw[zax J D (by decide)];exact rfl
 ·intro a w' J A F;have A4:a.eval (.tmp 17)=.agg #[.int .i64 j.now.seq,.slice d j.now.info.length m,.slice i j.now.data.length c,.slice ne j.now.rev.length l,.bool j.now.h0.on,.int .i64 j.now.h0.left,.bool j.now.h1.on,.int .i64 j.now.h1.left,.bool j.now.h2.on,.int .i64 j.now.h2.left]:=F ⟨4,.data⟩ (by simp) rfl;have A5:a.eval (.tmp 19)=.int .i64 ah:=F ⟨6,.data⟩ (by simp) rfl;have A8:a.eval (.tmp 21)=.int .i64 an:=F ⟨8,.data⟩ (by simp) rfl;have p26:a.eval (.tmp 26)=.int .i64 (24 - j.ru):=F ⟨13,.data⟩ (by simp) rfl;refine zby 80 #[.agg #[.int .i64 j.now.seq,.slice d j.now.info.length m,.slice i j.now.data.length c,.slice ne j.now.rev.length l,.bool j.now.h0.on,.int .i64 j.now.h0.left,.bool j.now.h1.on,.int .i64 j.now.h1.left,.bool j.now.h2.on,.int .i64 j.now.h2.left],.int .i64 ah,.int .i64 an,.int .i64 (24 - j.ru)] rfl rfl (by have R:=Act.eval_func a 80;revert A4 A5 A8 p26 R;generalize a.eval=ρ;intro A4 A5 A8 p26 R;simp only[execOp];go_simp) _ (ztp _ j.now ah an (24 - j.ru) _ ((A7.o.ext (Ext.seenL C _)).below A) C6.o B8.o) ?_;rintro e w2 ⟨M,rfl,C9,O,C2⟩;refine⟨_,rfl,_,rfl,zae A O,?_,zkp O⟩;show znz _ _ _ _ _ _ _ _ _ _ _ _ _ ((a.put (some 27) _).eval (.tmp 27)) w2;rw[zax J D (by decide)];exact⟨M,rfl,okTx.made D8.o A7.o C5.o ⟨A,.inl rfl⟩ C9 O C2⟩
 ·intro a w' J A F;obtain⟨M,q,ok⟩:∃M,a.eval (.tmp 27)=.tuple #[M,.int .i64 (zbd j.now ah an (24 - j.ru))]∧okTx ((w.heap.size+1)::X) (zau j.now ah an (24 - j.ru)) M undef w':=F ⟨14,.data⟩ (by simp) rfl;refine zbb (M) rfl rfl (by revert q;generalize a.eval=ρ;intro q;simp only[execOp];go_simp) ⟨_,rfl,A,?_,fun _ _ _ h=>h⟩;show znz _ _ _ _ _ _ _ _ _ _ _ _ _ ((a.put (some 28) _).eval (.tmp 28)) w';rw[zax J D (by decide)];exact ok
 ·intro a w' J A F;obtain⟨M,q,ok⟩:∃M,a.eval (.tmp 27)=.tuple #[M,.int .i64 (zbd j.now ah an (24 - j.ru))]∧okTx ((w.heap.size+1)::X) (zau j.now ah an (24 - j.ru)) M undef w':=F ⟨14,.data⟩ (by simp) rfl;exact zf6 _ rfl rfl (by revert q;generalize a.eval=ρ;intro q;simp only[execOp];go_simp) J D A rfl
 ·intro a W J A F;have ok:okTx ((w.heap.size+1)::X) (zau j.now ah an (24 - j.ru)) (a.eval (.tmp 28)) undef W:=F 15 (by decide);have pE:a.eval (.tmp 29)=.int .i64 (zbd j.now ah an (24 - j.ru)):=F 16 (by decide);have pB:a.eval (.tmp 13)=.pointer (some ⟨B,0,none⟩):=F 0 (by decide);have B1:a.tmps.size=67:=J.size.trans D;have D4:=B3.o.below A;obtain⟨u,B5,_⟩:=ok;obtain⟨ua,uc,ub,ud,ue,uf,hv,_⟩:=id u;rw[hv]at u B5;show wpOps prog _ _ [17,18] a W;rw[wpOps_cons];refine zby 79 #[.pointer (some ⟨B,0,none⟩),.agg #[.int .i64 (zau j.now ah an (24 - j.ru)).seq,.slice ua (zau j.now ah an (24 - j.ru)).info.length uc,.slice ub (zau j.now ah an (24 - j.ru)).data.length ud,.slice ue (zau j.now ah an (24 - j.ru)).rev.length uf,.bool (zau j.now ah an (24 - j.ru)).h0.on,.int .i64 (zau j.now ah an (24 - j.ru)).h0.left,.bool (zau j.now ah an (24 - j.ru)).h1.on,.int .i64 (zau j.now ah an (24 - j.ru)).h1.left,.bool (zau j.now ah an (24 - j.ru)).h2.on,.int .i64 (zau j.now ah an (24 - j.ru)).h2.left],.int .i64 (zbd j.now ah an (24 - j.ru))] rfl rfl (by have R:=Act.eval_func a 79;revert hv pE pB R;generalize a.eval=ρ;intro hv pE pB R;simp only[execOp];go_simp) _ (zji B ((w.heap.size+1)::X) j W D4 (zau j.now ah an (24 - j.ru)) ua uc ub ud ue uf u B5 (zbd j.now ah an (24 - j.ru))) ?_;rintro e N ⟨rfl,U,b⟩;refine⟨_,rfl,?_⟩;obtain⟨P0,hP⟩:∃P0,P0=zls j (zau j.now ah an (24 - j.ru)) (zbd j.now ah an (24 - j.ru)):=⟨_,rfl⟩;rw[←hP]at U⊢;have E0:P=P0:=D1.o.trans hP.symm;subst E0;obtain⟨K,L⟩:∃K,K=a.put (some 30) (vRp P.2):=⟨_,rfl⟩;have rr:K.eval (.tmp 30)=.agg #[.int .i64 P.2.code,.int .i64 P.2.n,.string P.2.text]:=by rw[L];exact Act.eval_put_same _ _ _ (by rw[B1];decide)
  have r4:K.eval (.tmp 4)=.pointer (some ⟨w.heap.size+1,0,none⟩):=by rw[L,Act.eval_put_ne _ _ _ _ (by decide)];exact(J.other 4 rfl).trans v4
  have r0:K.eval (.tmp 0)=.pointer (some ⟨B,0,none⟩):=by rw[L,Act.eval_put_ne _ _ _ _ (by decide)];exact(J.other 0 rfl).trans v0
  have r3:K.eval (.tmp 3)=.pointer (some ⟨w.heap.size,0,none⟩):=by rw[L,Act.eval_put_ne _ _ _ _ (by decide)];exact(J.other 3 rfl).trans v3
  have Z:N.heap[w.heap.size+1]?=some (.cells #[.int .i64 0,.int .i64 0,.string ⟨#[]⟩] 31 (0,0)):=(b.block _ (by have:=A.size;omega) (by simpa using A9)).trans (zad A B4 KR.o);obtain⟨⟨y0,y1,y2⟩,yf⟩:=zbo Z;show wpOps prog _ _ [18] (a.put (some 30) (vRp P.2)) N;rw[←L,wpOps_cons];refine zcw rfl rfl (w':=(((N.setCell ⟨(w.heap.size+1),0,none⟩ (.int .i64 P.2.code)).setCell ⟨(w.heap.size+1),1,none⟩ (.int .i64 P.2.n)).setCell ⟨(w.heap.size+1),2,none⟩ (.string P.2.text))) (by revert rr r4;generalize K.eval=ρ;intro rr r4;simp only[execOp];go_simp) ?_;have S:K=⟨#[_,_,_,_,_,_,_,_,_,_,_,_,_,_,_,_,_,_,_,_,_,_,_,_,_,_,_,_,_,_,_,_,_,_,_,_,_,_,_,_,_,_,_,_,_,_,_,_,_,_,_,_,_,_,_,_,_,_,_,_,_,_,_,_,_,_,_],[]⟩:=zci K 67 (by rw[L,Act.size_put];exact B1) (by rw[L,Act.defers_put'];exact J.defers.trans B9);dsimp only at S;rw[r0,r3,r4]at S;show KK K _;exact(congrArg (fun x=>KK x _) S).mpr (A2.o (fun k=>K.eval (.tmp k)) _ N hP.symm rfl Z U (B2.o.trans (Y:=[B]) ((ButL.of_below A).trans b A.size (by simp)) B2.o.size (by simp)))
theorem z0v(B:Nat)(X:List Nat)(j:Jn)(w:World)(h:JAt w B X j)(hX:∀x∈X,x<w.heap.size)(hK:Ready j)(ah ab an:Int)(at0:ByteArray)(ht:at0.size≤maxLen):
  Calls prog 47 #[.pointer (some ⟨B,0,none⟩),.agg #[.int .i64 5,.int .i64 ah,.int .i64 ab,.int .i64 an,.string at0]] w (zdj w B X (zav j ⟨5,ah,ab,an,at0⟩)):=by
 have HJ:=zaa h;have E2:=h.lt;have D2:=h.1;have HX:=zaa hX;have E4:=zaa hK.used0;have E3:=zaa hK.used1;have B9:=zaa hK.info;have B3:=zaa hK.data;have E5:=zaa hK.seq;have E0:=zaa hK.last;have D8:=zaa ht;have D7:Hid (j.done.length≤maxLen):=Nat.le_trans hK.done (by unfold maxLen;omega);clear h hX hK ht;have E1:¬w.heap.size=B:=by omega
 have D6:¬w.heap.size+1=B:=by omega
 have C7:Hid (zav j ⟨5,ah,ab,an,at0⟩=zls j (zb2 j.now ah) (zcy j.now ah)):=by rw[Hid,zav];simp[]
 obtain⟨P,y⟩:∃P,P=zls j (zb2 j.now ah) (zcy j.now ah):=⟨_,rfl⟩;have HE:Hid (zav j ⟨5,ah,ab,an,at0⟩=(P.1,P.2)):=by rw[Hid,C7.o,←y]
 have C3:=zaa y;clear y;go_enter func47,ntmps47;go_wp2;obtain⟨C,O⟩:∃C,C=(w.alloc (.cells #[.int .i64 5,.int .i64 ah,.int .i64 ab,.int .i64 an,.string at0] 23)).alloc (.cells #[.int .i64 0,.int .i64 0,.string ⟨#[]⟩] 31):=⟨_,rfl⟩;have A6:(w.alloc (.cells #[.int .i64 5,.int .i64 ah,.int .i64 ab,.int .i64 an,.string at0] 23)).heap.size=w.heap.size+1:=by simp
 have A3:Below w.heap.size w C:=by rw[O];exact zae (zab _ _) (zab _ _)
 have A9:Hid (JAt C B ((w.heap.size+1)::X) j):=HJ.o.more A3 (by omega);have A8:Hid (ButL [B] w.heap.size w C):=ButL.of_below A3;have KR:Hid (C.heap[w.heap.size+1]?=some (.cells #[.int .i64 0,.int .i64 0,.string ⟨#[]⟩] 31 (0,0))):=by rw[O,←A6];exact heap_alloc_new _ _
 have KA:Hid (C.heap[w.heap.size]?=some (.cells #[.int .i64 5,.int .i64 ah,.int .i64 ab,.int .i64 an,.string at0] 23 (0,0))):=by rw[O];exact zad (zab _ _) (by omega) (heap_alloc_new _ _)
 have D9:C.heap.size=w.heap.size+2:=by rw[O];simp
 have B0:w.heap.size+1<C.heap.size:=by omega
 have A5:w.heap.size+1≠B:=by omega
 have C8:Hid (∀x∈((w.heap.size+1)::X),x<C.heap.size):=fun x hx=>by
  rcases List.mem_cons.1 hx with rfl|hx
  ·exact B0
  ·have:=HX.o x hx;omega
 rw[←O];clear O A6;rename_i KK r;obtain⟨_,da,dc,db,dd,b,i,c,Z,ne,d,sa,sc,sb,sd,se,sf,ca,cc,fa,fc,ta,tc,J,hr⟩:=id A9.o;have C1:Hid (C.cell? ⟨B,31,none⟩=some (.int .i64 j.now.seq)):=zak J 31;have B6:Hid (C.cell? ⟨B,32,none⟩=some (.slice b j.now.info.length i)):=zak J 32;have C5:Hid (C.cell? ⟨B,33,none⟩=some (.slice c j.now.data.length Z)):=zak J 33;have C4:Hid (C.cell? ⟨B,34,none⟩=some (.slice ne j.now.rev.length d)):=zak J 34;have C9:Hid (C.cell? ⟨B,35,none⟩=some (.bool j.now.h0.on)):=zak J 35;have D5:Hid (C.cell? ⟨B,36,none⟩=some (.int .i64 j.now.h0.left)):=zak J 36;have B2:Hid (C.cell? ⟨B,37,none⟩=some (.bool j.now.h1.on)):=zak J 37;have C0:Hid (C.cell? ⟨B,38,none⟩=some (.int .i64 j.now.h1.left)):=zak J 38;have D3:Hid (C.cell? ⟨B,39,none⟩=some (.bool j.now.h2.on)):=zak J 39;have B5:Hid (C.cell? ⟨B,40,none⟩=some (.int .i64 j.now.h2.left)):=zak J 40;have A4:Hid (IsTx (zas C ((w.heap.size+1)::X)) (.agg #[.int .i64 j.now.seq,.slice b j.now.info.length i,.slice c j.now.data.length Z,.slice ne j.now.rev.length d,.bool j.now.h0.on,.int .i64 j.now.h0.left,.bool j.now.h1.on,.int .i64 j.now.h1.left,.bool j.now.h2.on,.int .i64 j.now.h2.left]) j.now):=hr.2.1;have B8:=zaa hr.2.2.2.2.2.2.1;clear J hr;obtain⟨⟨z0,z1,z2,z3,z4⟩,_⟩:=zjn KA.o;have A1:=zaa z1;clear z0 z1 z2 z3 z4;have E:B<C.heap.size:=by omega
 have D4:w.heap.size<C.heap.size:=by omega
 have s:∀(g:Nat→Value) (W3 N:World),zls j (zb2 j.now ah) (zcy j.now ah)=P→W3=(((N.setCell ⟨(w.heap.size+1),0,none⟩ (.int .i64 P.2.code)).setCell ⟨(w.heap.size+1),1,none⟩ (.int .i64 P.2.n)).setCell ⟨(w.heap.size+1),2,none⟩ (.string P.2.text))→N.heap[w.heap.size+1]?=some (.cells #[.int .i64 0,.int .i64 0,.string ⟨#[]⟩] 31 (0,0))→JAt N B ((w.heap.size+1)::X) P.1→ButL [B] w.heap.size w N→KK ⟨#[.pointer (some ⟨B,0,none⟩),g 1,g 2,.pointer (some ⟨w.heap.size,0,none⟩),.pointer (some ⟨w.heap.size+1,0,none⟩),g 5,g 6,g 7,g 8,g 9,g 10,g 11,g 12,g 13,g 14,g 15,g 16,g 17,g 18,g 19,g 20,g 21,g 22,g 23,g 24,g 25,g 26,g 27,g 28,g 29,g 30,g 31,g 32,g 33,g 34,g 35,g 36,g 37,g 38,g 39,g 40,g 41,g 42,g 43,g 44,g 45,g 46,g 47,g 48,g 49,g 50,g 51,g 52,g 53,g 54,g 55,g 56,g 57,g 58,g 59,g 60,g 61,g 62,g 63,g 64,g 65,g 66],[]⟩ W3:=by
  intro g W3 N _ hW S R U;apply r;clear r;have hX:=zgf S (.int .i64 P.2.code) (.int .i64 P.2.n) (.string P.2.text);rw[←hW]at hX;obtain⟨⟨u0,u1,u2⟩,_⟩:=zbo hX;have HW:=zaa hW;clear hW hX;go_wp2;refine bodyPost_ret (v:=.agg #[.int .i64 P.2.code,.int .i64 P.2.n,.string P.2.text]) (by simp[results,results47,go_sem,u0,u1,u2]) rfl ⟨by rw[HE.o];rfl,?_,?_⟩
  ·rw[HE.o,HW.o];exact zw4 R A5 D2 _ _ _
  ·rw[HW.o];exact((U.set (.inr (by omega)) 0 _).set (.inr (by omega)) 1 _).set (.inr (by omega)) 2 _
 have A2:=zaa s;clear s r;refine(show∀A0:Act,A0=_→Code.wp prog _ _ A0 _ from fun A0 hA0=>?_) _ rfl;have D:A0.tmps.size=67:=by rw[hA0];rfl
 have B4:A0.defers=[]:=by rw[hA0]
 have v0:A0.eval (.tmp 0)=.pointer (some ⟨B,0,none⟩):=by rw[hA0];rfl
 have v3:A0.eval (.tmp 3)=.pointer (some ⟨w.heap.size,0,none⟩):=by rw[hA0];rfl
 have v4:A0.eval (.tmp 4)=.pointer (some ⟨w.heap.size+1,0,none⟩):=by rw[hA0];rfl
 clear hA0;refine zbi 10 (fun w'=>Below C.heap.size C w') [33,34,35,36,37,38,39,40,41,42] (zmh B w.heap.size j ((w.heap.size+1)::X) b i c Z ne d ah) (by kernel_rfl) (by kernel_rfl) (by kernel_rfl) (by kernel_rfl) (by decide) ((Below.refl _ _).drew) ⟨?_,?_,?_,?_,?_,?_,?_,?_,?_,?_,trivial⟩ ?_
 ·exact zbh v0 D (fun _=>rfl) fun ρ w' A z=>by simp only[execOp];go_simp
 ·exact zbh v0 D (fun _=>rfl) fun ρ w' A z=>by simp only[execOp];go_simp
 ·exact zam 1 34 D (fun _ _ h=>h) (fun _=>rfl) fun ρ w' A p=>by simp only[execOp];go_simp
 ·exact zam 2 35 D (fun _ _ h=>h) (fun _=>rfl) fun ρ w' A p=>by simp only[execOp];go_simp
 ·exact zam 3 36 D (fun _ _ h=>h) (fun _=>rfl) fun ρ w' A p=>by have c0:w'.cell? ⟨B,31,none⟩=some (.int .i64 j.now.seq):=zac A E C1.o;have c1:w'.cell? ⟨B,32,none⟩=some (.slice b j.now.info.length i):=zac A E B6.o;have c2:w'.cell? ⟨B,33,none⟩=some (.slice c j.now.data.length Z):=zac A E C5.o;have c3:w'.cell? ⟨B,34,none⟩=some (.slice ne j.now.rev.length d):=zac A E C4.o;have c4:w'.cell? ⟨B,35,none⟩=some (.bool j.now.h0.on):=zac A E C9.o;have c5:w'.cell? ⟨B,36,none⟩=some (.int .i64 j.now.h0.left):=zac A E D5.o;have c6:w'.cell? ⟨B,37,none⟩=some (.bool j.now.h1.on):=zac A E B2.o;have c7:w'.cell? ⟨B,38,none⟩=some (.int .i64 j.now.h1.left):=zac A E C0.o;have c8:w'.cell? ⟨B,39,none⟩=some (.bool j.now.h2.on):=zac A E D3.o;have c9:w'.cell? ⟨B,40,none⟩=some (.int .i64 j.now.h2.left):=zac A E B5.o;simp only[execOp];go_simp
 ·exact zbh v3 D (fun _=>rfl) fun ρ w' A z=>by simp only[execOp];go_simp
 ·exact zam 5 38 D (fun _ _ h=>h) (fun _=>rfl) fun ρ w' A p=>by have c0:w'.cell? ⟨w.heap.size,1,none⟩=some (.int .i64 ah):=zac A D4 A1.o;simp only[execOp];go_simp
 ·intro a w' K A M;have p37:a.eval (.tmp 37)=.agg #[.int .i64 j.now.seq,.slice b j.now.info.length i,.slice c j.now.data.length Z,.slice ne j.now.rev.length d,.bool j.now.h0.on,.int .i64 j.now.h0.left,.bool j.now.h1.on,.int .i64 j.now.h1.left,.bool j.now.h2.on,.int .i64 j.now.h2.left]:=M ⟨4,.data⟩ (by simp) rfl;have p39:a.eval (.tmp 39)=.int .i64 ah:=M ⟨6,.data⟩ (by simp) rfl;refine zby 81 #[.agg #[.int .i64 j.now.seq,.slice b j.now.info.length i,.slice c j.now.data.length Z,.slice ne j.now.rev.length d,.bool j.now.h0.on,.int .i64 j.now.h0.left,.bool j.now.h1.on,.int .i64 j.now.h1.left,.bool j.now.h2.on,.int .i64 j.now.h2.left],.int .i64 ah] rfl rfl (by have l:=Act.eval_func a 81;revert p37 p39 l;generalize a.eval=ρ;intro p37 p39 l;simp only[execOp];go_simp) _ (zx1 _ j.now ah _ ((A4.o.ext (Ext.seenL C _)).below A) B9.o B3.o) ?_;rintro e w2 ⟨L,rfl,C2,m,B7⟩;refine⟨_,rfl,_,rfl,zae A m,?_,zph m⟩;show zmh _ _ _ _ _ _ _ _ _ _ _ _ ((a.put (some 40) _).eval (.tmp 40)) w2;rw[zax K D (by decide)];exact⟨L,rfl,okTx.made C8.o A4.o B8.o ⟨A,.inl rfl⟩ C2 m B7⟩
 ·intro a w' K A M;obtain⟨L,q,ok⟩:∃L,a.eval (.tmp 40)=.tuple #[L,.int .i64 (zcy j.now ah)]∧okTx ((w.heap.size+1)::X) (zb2 j.now ah) L undef w':=M ⟨7,.data⟩ (by simp) rfl;refine zbb (L) rfl rfl (by revert q;generalize a.eval=ρ;intro q;simp only[execOp];go_simp) ⟨_,rfl,A,?_,fun _ _ _ h=>h⟩;show zmh _ _ _ _ _ _ _ _ _ _ _ _ ((a.put (some 41) _).eval (.tmp 41)) w';rw[zax K D (by decide)];exact ok
 ·intro a w' K A M;obtain⟨L,q,ok⟩:∃L,a.eval (.tmp 40)=.tuple #[L,.int .i64 (zcy j.now ah)]∧okTx ((w.heap.size+1)::X) (zb2 j.now ah) L undef w':=M ⟨7,.data⟩ (by simp) rfl;exact zf6 _ rfl rfl (by revert q;generalize a.eval=ρ;intro q;simp only[execOp];go_simp) K D A rfl
 ·intro a W K A M;have ok:okTx ((w.heap.size+1)::X) (zb2 j.now ah) (a.eval (.tmp 41)) undef W:=M 8 (by decide);have pE:a.eval (.tmp 42)=.int .i64 (zcy j.now ah):=M 9 (by decide);have pB:a.eval (.tmp 33)=.pointer (some ⟨B,0,none⟩):=M 0 (by decide);have A7:a.tmps.size=67:=K.size.trans D;have C6:=A9.o.below A;obtain⟨u,B1,_⟩:=ok;obtain⟨ua,uc,ub,ud,ue,uf,hv,_⟩:=id u;rw[hv]at u B1;show wpOps prog _ _ [10,11] a W;rw[wpOps_cons];refine zby 79 #[.pointer (some ⟨B,0,none⟩),.agg #[.int .i64 (zb2 j.now ah).seq,.slice ua (zb2 j.now ah).info.length uc,.slice ub (zb2 j.now ah).data.length ud,.slice ue (zb2 j.now ah).rev.length uf,.bool (zb2 j.now ah).h0.on,.int .i64 (zb2 j.now ah).h0.left,.bool (zb2 j.now ah).h1.on,.int .i64 (zb2 j.now ah).h1.left,.bool (zb2 j.now ah).h2.on,.int .i64 (zb2 j.now ah).h2.left],.int .i64 (zcy j.now ah)] rfl rfl (by have l:=Act.eval_func a 79;revert hv pE pB l;generalize a.eval=ρ;intro hv pE pB l;simp only[execOp];go_simp) _ (zji B ((w.heap.size+1)::X) j W C6 (zb2 j.now ah) ua uc ub ud ue uf u B1 (zcy j.now ah)) ?_;rintro e N ⟨rfl,R,U⟩;refine⟨_,rfl,?_⟩;obtain⟨P0,hP⟩:∃P0,P0=zls j (zb2 j.now ah) (zcy j.now ah):=⟨_,rfl⟩;rw[←hP]at R⊢;have D1:P=P0:=C3.o.trans hP.symm;subst D1;obtain⟨F,I⟩:∃F,F=a.put (some 43) (vRp P.2):=⟨_,rfl⟩;have rr:F.eval (.tmp 43)=.agg #[.int .i64 P.2.code,.int .i64 P.2.n,.string P.2.text]:=by rw[I];exact Act.eval_put_same _ _ _ (by rw[A7];decide)
  have r4:F.eval (.tmp 4)=.pointer (some ⟨w.heap.size+1,0,none⟩):=by rw[I,Act.eval_put_ne _ _ _ _ (by decide)];exact(K.other 4 rfl).trans v4
  have r0:F.eval (.tmp 0)=.pointer (some ⟨B,0,none⟩):=by rw[I,Act.eval_put_ne _ _ _ _ (by decide)];exact(K.other 0 rfl).trans v0
  have r3:F.eval (.tmp 3)=.pointer (some ⟨w.heap.size,0,none⟩):=by rw[I,Act.eval_put_ne _ _ _ _ (by decide)];exact(K.other 3 rfl).trans v3
  have S:N.heap[w.heap.size+1]?=some (.cells #[.int .i64 0,.int .i64 0,.string ⟨#[]⟩] 31 (0,0)):=(U.block _ (by have:=A.size;omega) (by simpa using A5)).trans (zad A B0 KR.o);obtain⟨⟨y0,y1,y2⟩,yf⟩:=zbo S;show wpOps prog _ _ [11] (a.put (some 43) (vRp P.2)) N;rw[←I,wpOps_cons];refine zcw rfl rfl (w':=(((N.setCell ⟨(w.heap.size+1),0,none⟩ (.int .i64 P.2.code)).setCell ⟨(w.heap.size+1),1,none⟩ (.int .i64 P.2.n)).setCell ⟨(w.heap.size+1),2,none⟩ (.string P.2.text))) (by revert rr r4;generalize F.eval=ρ;intro rr r4;simp only[execOp];go_simp) ?_;have Q:F=⟨#[_,_,_,_,_,_,_,_,_,_,_,_,_,_,_,_,_,_,_,_,_,_,_,_,_,_,_,_,_,_,_,_,_,_,_,_,_,_,_,_,_,_,_,_,_,_,_,_,_,_,_,_,_,_,_,_,_,_,_,_,_,_,_,_,_,_,_],[]⟩:=zci F 67 (by rw[I,Act.size_put];exact A7) (by rw[I,Act.defers_put'];exact K.defers.trans B4);dsimp only at Q;rw[r0,r3,r4]at Q;show KK F _;exact(congrArg (fun x=>KK x _) Q).mpr (A2.o (fun k=>F.eval (.tmp k)) _ N hP.symm rfl S R (A8.o.trans (Y:=[B]) ((ButL.of_below A).trans U A.size (by simp)) A8.o.size (by simp)))
theorem z0w(B:Nat)(X:List Nat)(j:Jn)(w:World)(h:JAt w B X j)(hX:∀x∈X,x<w.heap.size)(hK:Ready j)(ah ab an:Int)(at0:ByteArray)(ht:at0.size≤maxLen):
  Calls prog 47 #[.pointer (some ⟨B,0,none⟩),.agg #[.int .i64 2,.int .i64 ah,.int .i64 ab,.int .i64 an,.string at0]] w (zdj w B X (zav j ⟨2,ah,ab,an,at0⟩)):=by
 have i:=zaa h;have A1:=h.lt;have b:=h.1;have l:=zaa hX;have A7:=zaa hK.used0;have A2:=zaa hK.used1;have Y:=zaa hK.info;have R:=zaa hK.data;have A8:=zaa hK.seq;have A6:=zaa hK.last;have Q:=zaa ht;have A4:Hid (j.done.length≤maxLen):=Nat.le_trans hK.done (by unfold maxLen;omega);clear h hX hK ht;have A9:¬w.heap.size=B:=by omega
 have A0:¬w.heap.size+1=B:=by omega
 have O:Hid (zav j ⟨2,ah,ab,an,at0⟩=zg9 j ⟨2,ah,ab,an,at0⟩):=by rw[Hid,zav];simp[]
 go_enter func47,ntmps47;go_wp2_with fail;obtain⟨A,C⟩:∃A,A=(w.alloc (.cells #[.int .i64 2,.int .i64 ah,.int .i64 ab,.int .i64 an,.string at0] 23)).alloc (.cells #[.int .i64 0,.int .i64 0,.string ⟨#[]⟩] 31):=⟨_,rfl⟩;have E:(w.alloc (.cells #[.int .i64 2,.int .i64 ah,.int .i64 ab,.int .i64 an,.string at0] 23)).heap.size=w.heap.size+1:=by simp
 have L:Below w.heap.size w A:=by rw[C];exact zae (zab _ _) (zab _ _)
 have a:Hid (JAt A B ((w.heap.size+1)::X) j):=i.o.more L (by omega);have I:Hid (ButL [B] w.heap.size w A):=ButL.of_below L;have k:Hid (A.heap[w.heap.size+1]?=some (.cells #[.int .i64 0,.int .i64 0,.string ⟨#[]⟩] 31 (0,0))):=by rw[C,←E];exact heap_alloc_new _ _
 have KA:Hid (A.heap[w.heap.size]?=some (.cells #[.int .i64 2,.int .i64 ah,.int .i64 ab,.int .i64 an,.string at0] 23 (0,0))):=by rw[C];exact zad (zab _ _) (by omega) (heap_alloc_new _ _)
 have A5:A.heap.size=w.heap.size+2:=by rw[C];simp
 have U:w.heap.size+1<A.heap.size:=by omega
 have K:w.heap.size+1≠B:=by omega
 have c:Hid (∀x∈((w.heap.size+1)::X),x<A.heap.size):=fun x hx=>by
  rcases List.mem_cons.1 hx with rfl|hx
  ·exact U
  ·have:=l.o x hx;omega
 rw[←C];clear C E;refine(zxz B ((w.heap.size+1)::X) j A a.o c.o ⟨2,ah,ab,an,at0⟩ Q.o Y.o R.o).mono ?_;rintro e N ⟨rfl,F,D⟩;have M:Hid (N.heap[w.heap.size+1]?=some (.cells #[.int .i64 0,.int .i64 0,.string ⟨#[]⟩] 31 (0,0))):=(D.block _ (by omega) (by simpa using K)).trans k.o;have J:=zaa F;have S:Hid (ButL [B] w.heap.size w N):=I.o.trans D I.o.size (by simp);have A3:A.heap.size≤N.heap.size:=D.size;clear F D;obtain⟨P,d⟩:∃P,P=zg9 j ⟨2,ah,ab,an,at0⟩:=⟨_,rfl⟩;rw[←d]at O J⊢;have Z:Hid (zav j ⟨2,ah,ab,an,at0⟩=(P.1,⟨P.2.code,P.2.n,P.2.text⟩)):=O.o;rw[show vRp P.2=.agg #[.int .i64 P.2.code,.int .i64 P.2.n,.string P.2.text] from rfl];clear d O;obtain⟨⟨y0,y1,y2⟩,yf⟩:=zbo M.o;go_wp2;exact zbe Z.o M.o J.o S.o K b fun W u0 u1 u2=>by simp[results,results47,go_sem,u0,u1,u2]
theorem z0x(B:Nat)(X:List Nat)(j:Jn)(w:World)(h:JAt w B X j)(hX:∀x∈X,x<w.heap.size)(hK:Ready j)(ah ab an:Int)(at0:ByteArray)(ht:at0.size≤maxLen):
  Calls prog 47 #[.pointer (some ⟨B,0,none⟩),.agg #[.int .i64 3,.int .i64 ah,.int .i64 ab,.int .i64 an,.string at0]] w (zdj w B X (zav j ⟨3,ah,ab,an,at0⟩)):=by
 have i:=zaa h;have A1:=h.lt;have b:=h.1;have l:=zaa hX;have A7:=zaa hK.used0;have A2:=zaa hK.used1;have Y:=zaa hK.info;have R:=zaa hK.data;have A8:=zaa hK.seq;have A6:=zaa hK.last;have Q:=zaa ht;have A4:Hid (j.done.length≤maxLen):=Nat.le_trans hK.done (by unfold maxLen;omega);clear h hX hK ht;have A9:¬w.heap.size=B:=by omega
 have A0:¬w.heap.size+1=B:=by omega
 have O:Hid (zav j ⟨3,ah,ab,an,at0⟩=zjv j ⟨3,ah,ab,an,at0⟩):=by rw[Hid,zav];simp[]
 go_enter func47,ntmps47;go_wp2_with fail;obtain⟨A,C⟩:∃A,A=(w.alloc (.cells #[.int .i64 3,.int .i64 ah,.int .i64 ab,.int .i64 an,.string at0] 23)).alloc (.cells #[.int .i64 0,.int .i64 0,.string ⟨#[]⟩] 31):=⟨_,rfl⟩;have E:(w.alloc (.cells #[.int .i64 3,.int .i64 ah,.int .i64 ab,.int .i64 an,.string at0] 23)).heap.size=w.heap.size+1:=by simp
 have L:Below w.heap.size w A:=by rw[C];exact zae (zab _ _) (zab _ _)
 have a:Hid (JAt A B ((w.heap.size+1)::X) j):=i.o.more L (by omega);have I:Hid (ButL [B] w.heap.size w A):=ButL.of_below L;have k:Hid (A.heap[w.heap.size+1]?=some (.cells #[.int .i64 0,.int .i64 0,.string ⟨#[]⟩] 31 (0,0))):=by rw[C,←E];exact heap_alloc_new _ _
 have KA:Hid (A.heap[w.heap.size]?=some (.cells #[.int .i64 3,.int .i64 ah,.int .i64 ab,.int .i64 an,.string at0] 23 (0,0))):=by rw[C];exact zad (zab _ _) (by omega) (heap_alloc_new _ _)
 have A5:A.heap.size=w.heap.size+2:=by rw[C];simp
 have U:w.heap.size+1<A.heap.size:=by omega
 have K:w.heap.size+1≠B:=by omega
 have c:Hid (∀x∈((w.heap.size+1)::X),x<A.heap.size):=fun x hx=>by
  rcases List.mem_cons.1 hx with rfl|hx
  ·exact U
  ·have:=l.o x hx;omega
 rw[←C];clear C E;refine(z0p B ((w.heap.size+1)::X) j A a.o c.o ⟨3,ah,ab,an,at0⟩ Q.o Y.o R.o).mono ?_;rintro e N ⟨rfl,F,D⟩;have M:Hid (N.heap[w.heap.size+1]?=some (.cells #[.int .i64 0,.int .i64 0,.string ⟨#[]⟩] 31 (0,0))):=(D.block _ (by omega) (by simpa using K)).trans k.o;have J:=zaa F;have S:Hid (ButL [B] w.heap.size w N):=I.o.trans D I.o.size (by simp);have A3:A.heap.size≤N.heap.size:=D.size;clear F D;obtain⟨P,d⟩:∃P,P=zjv j ⟨3,ah,ab,an,at0⟩:=⟨_,rfl⟩;rw[←d]at O J⊢;have Z:Hid (zav j ⟨3,ah,ab,an,at0⟩=(P.1,⟨P.2.code,P.2.n,P.2.text⟩)):=O.o;rw[show vRp P.2=.agg #[.int .i64 P.2.code,.int .i64 P.2.n,.string P.2.text] from rfl];clear d O;obtain⟨⟨y0,y1,y2⟩,yf⟩:=zbo M.o;go_wp2;exact zbe Z.o M.o J.o S.o K b fun W u0 u1 u2=>by simp[results,results47,go_sem,u0,u1,u2]
theorem z0y(B:Nat)(X:List Nat)(j:Jn)(w:World)(h:JAt w B X j)(hX:∀x∈X,x<w.heap.size)(hK:Ready j)(ah ab an:Int)(at0:ByteArray)(ht:at0.size≤maxLen):
  Calls prog 47 #[.pointer (some ⟨B,0,none⟩),.agg #[.int .i64 4,.int .i64 ah,.int .i64 ab,.int .i64 an,.string at0]] w (zdj w B X (zav j ⟨4,ah,ab,an,at0⟩)):=by
 have d:=zaa h;have A1:=h.lt;have a:=h.1;have k:=zaa hX;have A8:=zaa hK.used0;have A3:=zaa hK.used1;have U:=zaa hK.info;have Q:=zaa hK.data;have A9:=zaa hK.seq;have A7:=zaa hK.last;have A2:=zaa ht;have A5:Hid (j.done.length≤maxLen):=Nat.le_trans hK.done (by unfold maxLen;omega);clear h hX hK ht;have B0:¬w.heap.size=B:=by omega
 have A0:¬w.heap.size+1=B:=by omega
 have O:Hid (zav j ⟨4,ah,ab,an,at0⟩=ze6 j ⟨4,ah,ab,an,at0⟩):=by rw[Hid,zav];simp[]
 go_enter func47,ntmps47;go_wp2_with fail;obtain⟨A,C⟩:∃A,A=(w.alloc (.cells #[.int .i64 4,.int .i64 ah,.int .i64 ab,.int .i64 an,.string at0] 23)).alloc (.cells #[.int .i64 0,.int .i64 0,.string ⟨#[]⟩] 31):=⟨_,rfl⟩;have E:(w.alloc (.cells #[.int .i64 4,.int .i64 ah,.int .i64 ab,.int .i64 an,.string at0] 23)).heap.size=w.heap.size+1:=by simp
 have L:Below w.heap.size w A:=by rw[C];exact zae (zab _ _) (zab _ _)
 have Z:Hid (JAt A B ((w.heap.size+1)::X) j):=d.o.more L (by omega);have I:Hid (ButL [B] w.heap.size w A):=ButL.of_below L;have i:Hid (A.heap[w.heap.size+1]?=some (.cells #[.int .i64 0,.int .i64 0,.string ⟨#[]⟩] 31 (0,0))):=by rw[C,←E];exact heap_alloc_new _ _
 have KA:Hid (A.heap[w.heap.size]?=some (.cells #[.int .i64 4,.int .i64 ah,.int .i64 ab,.int .i64 an,.string at0] 23 (0,0))):=by rw[C];exact zad (zab _ _) (by omega) (heap_alloc_new _ _)
 have A6:A.heap.size=w.heap.size+2:=by rw[C];simp
 have S:w.heap.size+1<A.heap.size:=by omega
 have K:w.heap.size+1≠B:=by omega
 have b:Hid (∀x∈((w.heap.size+1)::X),x<A.heap.size):=fun x hx=>by
  rcases List.mem_cons.1 hx with rfl|hx
  ·exact S
  ·have:=k.o x hx;omega
 rw[←C];clear C E;refine(zuf B ((w.heap.size+1)::X) j A Z.o b.o ⟨4,ah,ab,an,at0⟩ U.o Q.o).mono ?_;rintro e N ⟨rfl,F,D⟩;have M:Hid (N.heap[w.heap.size+1]?=some (.cells #[.int .i64 0,.int .i64 0,.string ⟨#[]⟩] 31 (0,0))):=(D.block _ (by omega) (by simpa using K)).trans i.o;have J:=zaa F;have R:Hid (ButL [B] w.heap.size w N):=I.o.trans D I.o.size (by simp);have A4:A.heap.size≤N.heap.size:=D.size;clear F D;obtain⟨P,c⟩:∃P,P=ze6 j ⟨4,ah,ab,an,at0⟩:=⟨_,rfl⟩;rw[←c]at O J⊢;have Y:Hid (zav j ⟨4,ah,ab,an,at0⟩=(P.1,⟨P.2.code,P.2.n,P.2.text⟩)):=O.o;rw[show vRp P.2=.agg #[.int .i64 P.2.code,.int .i64 P.2.n,.string P.2.text] from rfl];clear c O;obtain⟨⟨y0,y1,y2⟩,yf⟩:=zbo M.o;go_wp2;exact zbe Y.o M.o J.o R.o K a fun W u0 u1 u2=>by simp[results,results47,go_sem,u0,u1,u2]
theorem z0z(B:Nat)(X:List Nat)(j:Jn)(w:World)(h:JAt w B X j)(hX:∀x∈X,x<w.heap.size)(hK:Ready j)(ah ab an:Int)(at0:ByteArray)(ht:at0.size≤maxLen):
  Calls prog 47 #[.pointer (some ⟨B,0,none⟩),.agg #[.int .i64 6,.int .i64 ah,.int .i64 ab,.int .i64 an,.string at0]] w (zdj w B X (zav j ⟨6,ah,ab,an,at0⟩)):=by
 have i:=zaa h;have A1:=h.lt;have a:=h.1;have l:=zaa hX;have A8:=zaa hK.used0;have A3:=zaa hK.used1;have U:=zaa hK.info;have Q:=zaa hK.data;have c:=zaa hK.seq;have A7:=zaa hK.last;have A2:=zaa ht;have A5:Hid (j.done.length≤maxLen):=Nat.le_trans hK.done (by unfold maxLen;omega);clear h hX hK ht;have A9:¬w.heap.size=B:=by omega
 have A0:¬w.heap.size+1=B:=by omega
 have O:Hid (zav j ⟨6,ah,ab,an,at0⟩=zcm j):=by rw[Hid,zav];simp[]
 go_enter func47,ntmps47;go_wp2_with fail;obtain⟨A,C⟩:∃A,A=(w.alloc (.cells #[.int .i64 6,.int .i64 ah,.int .i64 ab,.int .i64 an,.string at0] 23)).alloc (.cells #[.int .i64 0,.int .i64 0,.string ⟨#[]⟩] 31):=⟨_,rfl⟩;have E:(w.alloc (.cells #[.int .i64 6,.int .i64 ah,.int .i64 ab,.int .i64 an,.string at0] 23)).heap.size=w.heap.size+1:=by simp
 have L:Below w.heap.size w A:=by rw[C];exact zae (zab _ _) (zab _ _)
 have Z:Hid (JAt A B ((w.heap.size+1)::X) j):=i.o.more L (by omega);have I:Hid (ButL [B] w.heap.size w A):=ButL.of_below L;have k:Hid (A.heap[w.heap.size+1]?=some (.cells #[.int .i64 0,.int .i64 0,.string ⟨#[]⟩] 31 (0,0))):=by rw[C,←E];exact heap_alloc_new _ _
 have KA:Hid (A.heap[w.heap.size]?=some (.cells #[.int .i64 6,.int .i64 ah,.int .i64 ab,.int .i64 an,.string at0] 23 (0,0))):=by rw[C];exact zad (zab _ _) (by omega) (heap_alloc_new _ _)
 have A6:A.heap.size=w.heap.size+2:=by rw[C];simp
 have S:w.heap.size+1<A.heap.size:=by omega
 have K:w.heap.size+1≠B:=by omega
 have b:Hid (∀x∈((w.heap.size+1)::X),x<A.heap.size):=fun x hx=>by
  rcases List.mem_cons.1 hx with rfl|hx
  ·exact S
  ·have:=l.o x hx;omega
 rw[←C];clear C E;refine(zt7 B ((w.heap.size+1)::X) j A Z.o b.o U.o Q.o c.o).mono ?_;rintro e N ⟨rfl,F,D⟩;have M:Hid (N.heap[w.heap.size+1]?=some (.cells #[.int .i64 0,.int .i64 0,.string ⟨#[]⟩] 31 (0,0))):=(D.block _ (by omega) (by simpa using K)).trans k.o;have J:=zaa F;have R:Hid (ButL [B] w.heap.size w N):=I.o.trans D I.o.size (by simp);have A4:A.heap.size≤N.heap.size:=D.size;clear F D;obtain⟨P,d⟩:∃P,P=zcm j:=⟨_,rfl⟩;rw[←d]at O J⊢;have Y:Hid (zav j ⟨6,ah,ab,an,at0⟩=(P.1,⟨P.2.code,P.2.n,P.2.text⟩)):=O.o;rw[show vRp P.2=.agg #[.int .i64 P.2.code,.int .i64 P.2.n,.string P.2.text] from rfl];clear d O;obtain⟨⟨y0,y1,y2⟩,yf⟩:=zbo M.o;go_wp2;exact zbe Y.o M.o J.o R.o K a fun W u0 u1 u2=>by simp[results,results47,go_sem,u0,u1,u2]
theorem z00(B:Nat)(X:List Nat)(j:Jn)(w:World)(h:JAt w B X j)(hX:∀x∈X,x<w.heap.size)(hK:Ready j)(ah ab an:Int)(at0:ByteArray)(ht:at0.size≤maxLen):
  Calls prog 47 #[.pointer (some ⟨B,0,none⟩),.agg #[.int .i64 7,.int .i64 ah,.int .i64 ab,.int .i64 an,.string at0]] w (zdj w B X (zav j ⟨7,ah,ab,an,at0⟩)):=by
 have d:=zaa h;have A1:=h.lt;have a:=h.1;have k:=zaa hX;have A8:=zaa hK.used0;have A4:=zaa hK.used1;have A5:=zaa hK.info;have A3:=zaa hK.data;have A9:=zaa hK.seq;have Z:=zaa hK.last;have A2:=zaa ht;have U:Hid (j.done.length≤maxLen):=Nat.le_trans hK.done (by unfold maxLen;omega);clear h hX hK ht;have B0:¬w.heap.size=B:=by omega
 have A0:¬w.heap.size+1=B:=by omega
 have O:Hid (zav j ⟨7,ah,ab,an,at0⟩=zfz j):=by rw[Hid,zav];simp[]
 go_enter func47,ntmps47;go_wp2_with fail;obtain⟨A,C⟩:∃A,A=(w.alloc (.cells #[.int .i64 7,.int .i64 ah,.int .i64 ab,.int .i64 an,.string at0] 23)).alloc (.cells #[.int .i64 0,.int .i64 0,.string ⟨#[]⟩] 31):=⟨_,rfl⟩;have E:(w.alloc (.cells #[.int .i64 7,.int .i64 ah,.int .i64 ab,.int .i64 an,.string at0] 23)).heap.size=w.heap.size+1:=by simp
 have L:Below w.heap.size w A:=by rw[C];exact zae (zab _ _) (zab _ _)
 have Y:Hid (JAt A B ((w.heap.size+1)::X) j):=d.o.more L (by omega);have I:Hid (ButL [B] w.heap.size w A):=ButL.of_below L;have i:Hid (A.heap[w.heap.size+1]?=some (.cells #[.int .i64 0,.int .i64 0,.string ⟨#[]⟩] 31 (0,0))):=by rw[C,←E];exact heap_alloc_new _ _
 have KA:Hid (A.heap[w.heap.size]?=some (.cells #[.int .i64 7,.int .i64 ah,.int .i64 ab,.int .i64 an,.string at0] 23 (0,0))):=by rw[C];exact zad (zab _ _) (by omega) (heap_alloc_new _ _)
 have A7:A.heap.size=w.heap.size+2:=by rw[C];simp
 have R:w.heap.size+1<A.heap.size:=by omega
 have K:w.heap.size+1≠B:=by omega
 have b:Hid (∀x∈((w.heap.size+1)::X),x<A.heap.size):=fun x hx=>by
  rcases List.mem_cons.1 hx with rfl|hx
  ·exact R
  ·have:=k.o x hx;omega
 rw[←C];clear C E;refine(zxy B ((w.heap.size+1)::X) j A Y.o b.o U.o Z.o).mono ?_;rintro e N ⟨rfl,F,D⟩;have M:Hid (N.heap[w.heap.size+1]?=some (.cells #[.int .i64 0,.int .i64 0,.string ⟨#[]⟩] 31 (0,0))):=(D.block _ (by omega) (by simpa using K)).trans i.o;have J:=zaa F;have Q:Hid (ButL [B] w.heap.size w N):=I.o.trans D I.o.size (by simp);have A6:A.heap.size≤N.heap.size:=D.size;clear F D;obtain⟨P,c⟩:∃P,P=zfz j:=⟨_,rfl⟩;rw[←c]at O J⊢;have S:Hid (zav j ⟨7,ah,ab,an,at0⟩=(P.1,⟨P.2.code,P.2.n,P.2.text⟩)):=O.o;rw[show vRp P.2=.agg #[.int .i64 P.2.code,.int .i64 P.2.n,.string P.2.text] from rfl];clear c O;obtain⟨⟨y0,y1,y2⟩,yf⟩:=zbo M.o;go_wp2;exact zbe S.o M.o J.o Q.o K a fun W u0 u1 u2=>by simp[results,results47,go_sem,u0,u1,u2]
theorem z01(B:Nat)(X:List Nat)(j:Jn)(w:World)(h:JAt w B X j)(hX:∀x∈X,x<w.heap.size)(hK:Ready j)(ak ah ab an:Int)(at0:ByteArray)(ht:at0.size≤maxLen)(k1:¬ak=1)(k5:¬ak=5)(k2:¬ak=2)(k3:¬ak=3)(k4:¬ak=4)(k6:¬ak=6)(k7:¬ak=7):
  Calls prog 47 #[.pointer (some ⟨B,0,none⟩),.agg #[.int .i64 ak,.int .i64 ah,.int .i64 ab,.int .i64 an,.string at0]] w (zdj w B X (zav j ⟨ak,ah,ab,an,at0⟩)):=by
 have b:=zaa h;have A1:=h.lt;have Z:=h.1;have d:=zaa hX;have A9:=zaa hK.used0;have A4:=zaa hK.used1;have A5:=zaa hK.info;have A3:=zaa hK.data;have B1:=zaa hK.seq;have A8:=zaa hK.last;have A2:=zaa ht;have U:Hid (j.done.length≤maxLen):=Nat.le_trans hK.done (by unfold maxLen;omega);clear h hX hK ht;have B2:¬w.heap.size=B:=by omega
 have A0:¬w.heap.size+1=B:=by omega
 have b1:(ak==1)=false:=by simpa using k1
 have b5:(ak==5)=false:=by simpa using k5
 have b2:(ak==2)=false:=by simpa using k2
 have b3:(ak==3)=false:=by simpa using k3
 have b4:(ak==4)=false:=by simpa using k4
 have b6:(ak==6)=false:=by simpa using k6
 have b7:(ak==7)=false:=by simpa using k7
 have O:Hid (zav j ⟨ak,ah,ab,an,at0⟩=(j,zik j ab)):=by rw[Hid,zav];simp[k1,k5,k2,k3,k4,k6,k7]
 clear k1 k5 k2 k3 k4 k6 k7;go_enter func47,ntmps47;go_wp2_with fail;obtain⟨A,C⟩:∃A,A=(w.alloc (.cells #[.int .i64 ak,.int .i64 ah,.int .i64 ab,.int .i64 an,.string at0] 23)).alloc (.cells #[.int .i64 0,.int .i64 0,.string ⟨#[]⟩] 31):=⟨_,rfl⟩;have E:(w.alloc (.cells #[.int .i64 ak,.int .i64 ah,.int .i64 ab,.int .i64 an,.string at0] 23)).heap.size=w.heap.size+1:=by simp
 have L:Below w.heap.size w A:=by rw[C];exact zae (zab _ _) (zab _ _)
 have Y:Hid (JAt A B ((w.heap.size+1)::X) j):=b.o.more L (by omega);have I:Hid (ButL [B] w.heap.size w A):=ButL.of_below L;have c:Hid (A.heap[w.heap.size+1]?=some (.cells #[.int .i64 0,.int .i64 0,.string ⟨#[]⟩] 31 (0,0))):=by rw[C,←E];exact heap_alloc_new _ _
 have KA:Hid (A.heap[w.heap.size]?=some (.cells #[.int .i64 ak,.int .i64 ah,.int .i64 ab,.int .i64 an,.string at0] 23 (0,0))):=by rw[C];exact zad (zab _ _) (by omega) (heap_alloc_new _ _)
 have A7:A.heap.size=w.heap.size+2:=by rw[C];simp
 have R:w.heap.size+1<A.heap.size:=by omega
 have K:w.heap.size+1≠B:=by omega
 have B0:Hid (∀x∈((w.heap.size+1)::X),x<A.heap.size):=fun x hx=>by
  rcases List.mem_cons.1 hx with rfl|hx
  ·exact R
  ·have:=d.o x hx;omega
 rw[←C];clear C E;refine(z0c B ((w.heap.size+1)::X) j A ab Y.o U.o).mono ?_;rintro e N ⟨rfl,F,D⟩;have M:Hid (N.heap[w.heap.size+1]?=some (.cells #[.int .i64 0,.int .i64 0,.string ⟨#[]⟩] 31 (0,0))):=(D.block _ (by omega) (by simpa using K)).trans c.o;have J:=zaa F;have Q:Hid (ButL [B] w.heap.size w N):=I.o.trans D I.o.size (by simp);have A6:A.heap.size≤N.heap.size:=D.size;clear F D;obtain⟨P,a⟩:∃P,P=(j,zik j ab):=⟨_,rfl⟩;rw[←a]at O J⊢;have S:Hid (zav j ⟨ak,ah,ab,an,at0⟩=(P.1,⟨P.2.code,P.2.n,P.2.text⟩)):=O.o;rw[show vRp P.2=.agg #[.int .i64 P.2.code,.int .i64 P.2.n,.string P.2.text] from rfl];clear a O;obtain⟨⟨y0,y1,y2⟩,yf⟩:=zbo M.o;go_wp2;exact zbe S.o M.o J.o Q.o K Z fun W u0 u1 u2=>by simp[results,results47,go_sem,u0,u1,u2]
theorem zrz(B:Nat)(X:List Nat)(j:Jn)(w:World)(h:JAt w B X j)(hX:∀x∈X,x<w.heap.size)(hK:Ready j)(ac:Ac)(ht:ac.text.size≤maxLen):
  Calls prog 47 #[.pointer (some ⟨B,0,none⟩),.agg #[.int .i64 ac.kind,.int .i64 ac.h,.int .i64 ac.b,.int .i64 ac.n,.string ac.text]] w (zdj w B X (zav j ac)):=by
 obtain⟨C,E,D,an,A⟩:=ac;by_cases k1:C=1
 ·subst k1;exact z0u B X j w h hX hK E D an A ht
 by_cases k5:C=5
 ·subst k5;exact z0v B X j w h hX hK E D an A ht
 by_cases k2:C=2
 ·subst k2;exact z0w B X j w h hX hK E D an A ht
 by_cases k3:C=3
 ·subst k3;exact z0x B X j w h hX hK E D an A ht
 by_cases k4:C=4
 ·subst k4;exact z0y B X j w h hX hK E D an A ht
 by_cases k6:C=6
 ·subst k6;exact z0z B X j w h hX hK E D an A ht
 by_cases k7:C=7
 ·subst k7;exact z00 B X j w h hX hK E D an A ht
 exact z01 B X j w h hX hK C E D an A ht k1 k5 k2 k3 k4 k6 k7
theorem Ready.bump{j:Jn}(h:Ready j)(x:Int)(h0:0≤x)(h1:x≤400):Ready {j with acts:=x}:=⟨h.done,h.found,h.next,h.seq,h.last,h.info,h.data,h.few,h.used0,h.used1,h0,h1⟩
theorem zug(B:Nat)(X:List Nat)(j:Jn)(w:World)(h:JAt w B X j)(hX:∀x∈X,x<w.heap.size)(hK:Ready j)(ak ah ab an:Int)(at0:ByteArray)(hn:an≤9223372036854775807)(ht:at0.size≤maxLen)(hf:400≤j.acts):
  Calls prog 15 #[.pointer (some ⟨B,0,none⟩),.agg #[.int .i64 ak,.int .i64 ah,.int .i64 ab,.int .i64 an,.string at0]] w (zdj w B X (doJ j ⟨ak,ah,ab,an,at0⟩)):=by
 have a:=zaa h;have A1:=h.lt;have U:=h.1;have d:=zaa hX;have HK:=zaa hK;have A2:=zaa ht;have A3:=zaa hn;have A8:=hK.acts0;have A4:=hK.acts1;have B1:IntKind.i64.wrap (j.acts+1)=j.acts+1:=by rw[IntKind.wrap_i64];omega
 obtain⟨_,da,dc,db,dd,na,nc,nb,nd,ne,nf,sa,sc,sb,sd,se,sf,ca,cc,fa,fc,ta,tc,E,_⟩:=id h;have c0:w.cell? ⟨B,0,none⟩=some (.int .i64 j.acts):=zak E 0;have B0:w.frozen? ⟨B,0,none⟩=false:=frozen_of_row w _ _ _ _ E;have c6:w.cell? ⟨B,6,none⟩=some (.bool j.down):=zak E 6;have A5:w.frozen? ⟨B,6,none⟩=false:=frozen_of_row w _ _ _ _ E;clear h hX hK hn ht E;have B2:¬w.heap.size=B:=by omega
 have A0:¬w.heap.size+1=B:=by omega
 have c:Hid (doJ j ⟨ak,ah,ab,an,at0⟩=(j,zaq 11)):=by rw[Hid,doJ,if_pos hf]
 have N:(400:Int)≤j.acts:=hf;go_enter func15,ntmps15;go_wp2_with fail;have A6:w.heap.size=w.heap.size:=rfl;have Z:=a;have S:Hid (ButL [B] w.heap.size w w):=ButL.refl _ _ _;obtain⟨A,C⟩:∃A,A=(w.alloc (.cells #[.int .i64 ak,.int .i64 ah,.int .i64 ab,.int .i64 an,.string at0] 23)).alloc (.cells #[.int .i64 0,.int .i64 0,.string ⟨#[]⟩] 31):=⟨_,rfl⟩;have F:(w.alloc (.cells #[.int .i64 ak,.int .i64 ah,.int .i64 ab,.int .i64 an,.string at0] 23)).heap.size=w.heap.size+1:=by simp
 have K:Below w.heap.size w A:=by rw[C];exact zae (zab _ _) (zab _ _)
 have Q:Hid (JAt A B ((w.heap.size+1)::X) j):=Z.o.more K (by omega);have J:Hid (ButL [B] w.heap.size w A):=S.o.trans (Y:=[]) (ButL.of_below K) (by omega) (by simp);have b:Hid (A.heap[w.heap.size+1]?=some (.cells #[.int .i64 0,.int .i64 0,.string ⟨#[]⟩] 31 (0,0))):=by rw[C,←F];exact heap_alloc_new _ _
 have A7:A.heap.size=w.heap.size+2:=by rw[C];simp
 have I:w.heap.size+1<A.heap.size:=by omega
 have R:w.heap.size+1≠B:=by omega
 have A9:Hid (∀x∈((w.heap.size+1)::X),x<A.heap.size):=fun x hx=>by
  rcases List.mem_cons.1 hx with rfl|hx
  ·exact I
  ·have:=d.o x hx;omega
 rw[←C];clear C F;clear hf N;refine(zat 11 _).mono ?_;rintro e w2 ⟨rfl,D⟩;have L:=zaa (zad D I b.o);have O:=zaa (Q.o.below D);have M:=zaa (J.o.trans (Y:=[]) (ButL.of_below D) J.o.size (by simp));clear D;obtain⟨⟨y0,y1,y2⟩,yf⟩:=zbo L.o;go_wp2;exact zbe c.o L.o O.o M.o R U fun W u0 u1 u2=>by simp[results,results15,go_sem,u0,u1,u2]
theorem zx3(B:Nat)(X:List Nat)(j:Jn)(w:World)(h:JAt w B X j)(hX:∀x∈X,x<w.heap.size)(hK:Ready j)(ak ah ab an:Int)(at0:ByteArray)(hn:an≤9223372036854775807)(ht:at0.size≤maxLen)(hf:¬400≤j.acts)(hk:ak<1):
  Calls prog 15 #[.pointer (some ⟨B,0,none⟩),.agg #[.int .i64 ak,.int .i64 ah,.int .i64 ab,.int .i64 an,.string at0]] w (zdj w B X (doJ j ⟨ak,ah,ab,an,at0⟩)):=by
 have d:=zaa h;have A1:=h.lt;have b:=h.1;have l:=zaa hX;have HK:=zaa hK;have A2:=zaa ht;have A3:=zaa hn;have A7:=hK.acts0;have A4:=hK.acts1;have B0:IntKind.i64.wrap (j.acts+1)=j.acts+1:=by rw[IntKind.wrap_i64];omega
 obtain⟨_,da,dc,db,dd,na,nc,nb,nd,ne,nf,sa,sc,sb,sd,se,sf,ca,cc,fa,fc,ta,tc,I,_⟩:=id h;have c0:w.cell? ⟨B,0,none⟩=some (.int .i64 j.acts):=zak I 0;have A9:w.frozen? ⟨B,0,none⟩=false:=frozen_of_row w _ _ _ _ I;have c6:w.cell? ⟨B,6,none⟩=some (.bool j.down):=zak I 6;have A5:w.frozen? ⟨B,6,none⟩=false:=frozen_of_row w _ _ _ _ I;clear h hX hK hn ht I;have B1:¬w.heap.size=B:=by omega
 have A0:¬w.heap.size+1=B:=by omega
 have k:Hid (doJ j ⟨ak,ah,ab,an,at0⟩=(({j with acts:=j.acts+1}:Jn),zaq 3)):=by rw[Hid,doJ,if_neg hf,zha,if_pos (.inl hk)]
 have R:¬(j.acts≥400):=hf;go_enter func15,ntmps15;go_wp2_with fail;obtain⟨A,E⟩:∃A,A=w.setCell ⟨B,0,none⟩ (.int .i64 (j.acts+1)):=⟨_,rfl⟩;rw[←E];have M:A.heap.size=w.heap.size:=by rw[E];simp[World.setCell]
 have c:Hid (JAt A B X ({j with acts:=j.acts+1}:Jn)):=by rw[E];exact d.o.putActs _
 have a:Hid (ButL [B] w.heap.size w A):=by rw[E];exact(ButL.refl _ _ _).set (.inl (by simp)) 0 _
 clear E;obtain⟨C,D⟩:∃C,C=(A.alloc (.cells #[.int .i64 ak,.int .i64 ah,.int .i64 ab,.int .i64 an,.string at0] 23)).alloc (.cells #[.int .i64 0,.int .i64 0,.string ⟨#[]⟩] 31):=⟨_,rfl⟩;have J:(A.alloc (.cells #[.int .i64 ak,.int .i64 ah,.int .i64 ab,.int .i64 an,.string at0] 23)).heap.size=w.heap.size+1:=by simp[M]
 have N:Below A.heap.size A C:=by rw[D];exact zae (zab _ _) (zab _ _)
 have U:Hid (JAt C B ((w.heap.size+1)::X) ({j with acts:=j.acts+1}:Jn)):=c.o.more N (by omega);have L:Hid (ButL [B] w.heap.size w C):=a.o.trans (Y:=[]) (ButL.of_below N) (by omega) (by simp);have i:Hid (C.heap[w.heap.size+1]?=some (.cells #[.int .i64 0,.int .i64 0,.string ⟨#[]⟩] 31 (0,0))):=by rw[D,←J];exact heap_alloc_new _ _
 have A6:C.heap.size=w.heap.size+2:=by rw[D];simp[M]
 have K:w.heap.size+1<C.heap.size:=by omega
 have Z:w.heap.size+1≠B:=by omega
 have A8:Hid (∀x∈((w.heap.size+1)::X),x<C.heap.size):=fun x hx=>by
  rcases List.mem_cons.1 hx with rfl|hx
  ·exact K
  ·have:=l.o x hx;omega
 rw[←D];clear D J;clear hf R hk;refine(zat 3 _).mono ?_;rintro e w2 ⟨rfl,F⟩;have O:=zaa (zad F K i.o);have S:=zaa (U.o.below F);have Q:=zaa (L.o.trans (Y:=[]) (ButL.of_below F) L.o.size (by simp));clear F;obtain⟨⟨y0,y1,y2⟩,yf⟩:=zbo O.o;go_wp2;exact zbe k.o O.o S.o Q.o Z b fun W u0 u1 u2=>by simp[results,results15,go_sem,u0,u1,u2]
theorem zuh(B:Nat)(X:List Nat)(j:Jn)(w:World)(h:JAt w B X j)(hX:∀x∈X,x<w.heap.size)(hK:Ready j)(ak ah ab an:Int)(at0:ByteArray)(hn:an≤9223372036854775807)(ht:at0.size≤maxLen)(hf:¬400≤j.acts)(hk:11<ak):
  Calls prog 15 #[.pointer (some ⟨B,0,none⟩),.agg #[.int .i64 ak,.int .i64 ah,.int .i64 ab,.int .i64 an,.string at0]] w (zdj w B X (doJ j ⟨ak,ah,ab,an,at0⟩)):=by
 have i:=zaa h;have A1:=h.lt;have c:=h.1;have m:=zaa hX;have HK:=zaa hK;have A2:=zaa ht;have A3:=zaa hn;have A7:=hK.acts0;have A4:=hK.acts1;have B0:IntKind.i64.wrap (j.acts+1)=j.acts+1:=by rw[IntKind.wrap_i64];omega
 obtain⟨_,da,dc,db,dd,na,nc,nb,nd,ne,nf,sa,sc,sb,sd,se,sf,ca,cc,fa,fc,ta,tc,I,_⟩:=id h;have c0:w.cell? ⟨B,0,none⟩=some (.int .i64 j.acts):=zak I 0;have A9:w.frozen? ⟨B,0,none⟩=false:=frozen_of_row w _ _ _ _ I;have c6:w.cell? ⟨B,6,none⟩=some (.bool j.down):=zak I 6;have A5:w.frozen? ⟨B,6,none⟩=false:=frozen_of_row w _ _ _ _ I;clear h hX hK hn ht I;have B1:¬w.heap.size=B:=by omega
 have A0:¬w.heap.size+1=B:=by omega
 have l:Hid (doJ j ⟨ak,ah,ab,an,at0⟩=(({j with acts:=j.acts+1}:Jn),zaq 3)):=by rw[Hid,doJ,if_neg hf,zha,if_pos (.inr hk)]
 have S:¬(j.acts≥400):=hf;have Q:¬ak<1:=by omega
 go_enter func15,ntmps15;go_wp2_with fail;obtain⟨A,E⟩:∃A,A=w.setCell ⟨B,0,none⟩ (.int .i64 (j.acts+1)):=⟨_,rfl⟩;rw[←E];have M:A.heap.size=w.heap.size:=by rw[E];simp[World.setCell]
 have d:Hid (JAt A B X ({j with acts:=j.acts+1}:Jn)):=by rw[E];exact i.o.putActs _
 have b:Hid (ButL [B] w.heap.size w A):=by rw[E];exact(ButL.refl _ _ _).set (.inl (by simp)) 0 _
 clear E;obtain⟨C,D⟩:∃C,C=(A.alloc (.cells #[.int .i64 ak,.int .i64 ah,.int .i64 ab,.int .i64 an,.string at0] 23)).alloc (.cells #[.int .i64 0,.int .i64 0,.string ⟨#[]⟩] 31):=⟨_,rfl⟩;have J:(A.alloc (.cells #[.int .i64 ak,.int .i64 ah,.int .i64 ab,.int .i64 an,.string at0] 23)).heap.size=w.heap.size+1:=by simp[M]
 have N:Below A.heap.size A C:=by rw[D];exact zae (zab _ _) (zab _ _)
 have Z:Hid (JAt C B ((w.heap.size+1)::X) ({j with acts:=j.acts+1}:Jn)):=d.o.more N (by omega);have L:Hid (ButL [B] w.heap.size w C):=b.o.trans (Y:=[]) (ButL.of_below N) (by omega) (by simp);have k:Hid (C.heap[w.heap.size+1]?=some (.cells #[.int .i64 0,.int .i64 0,.string ⟨#[]⟩] 31 (0,0))):=by rw[D,←J];exact heap_alloc_new _ _
 have A6:C.heap.size=w.heap.size+2:=by rw[D];simp[M]
 have K:w.heap.size+1<C.heap.size:=by omega
 have a:w.heap.size+1≠B:=by omega
 have A8:Hid (∀x∈((w.heap.size+1)::X),x<C.heap.size):=fun x hx=>by
  rcases List.mem_cons.1 hx with rfl|hx
  ·exact K
  ·have:=m.o x hx;omega
 rw[←D];clear D J;clear hf S hk Q;refine(zat 3 _).mono ?_;rintro e w2 ⟨rfl,F⟩;have O:=zaa (zad F K k.o);have U:=zaa (Z.o.below F);have R:=zaa (L.o.trans (Y:=[]) (ButL.of_below F) L.o.size (by simp));clear F;obtain⟨⟨y0,y1,y2⟩,yf⟩:=zbo O.o;go_wp2;exact zbe l.o O.o U.o R.o a c fun W u0 u1 u2=>by simp[results,results15,go_sem,u0,u1,u2]
theorem z3d(B:Nat)(X:List Nat)(j:Jn)(w:World)(h:JAt w B X j)(hX:∀x∈X,x<w.heap.size)(hK:Ready j)(ah ab an:Int)(at0:ByteArray)(hn:an≤9223372036854775807)(ht:at0.size≤maxLen)(hf:¬400≤j.acts):
  Calls prog 15 #[.pointer (some ⟨B,0,none⟩),.agg #[.int .i64 8,.int .i64 ah,.int .i64 ab,.int .i64 an,.string at0]] w (zdj w B X (doJ j ⟨8,ah,ab,an,at0⟩)):=by
 have r:=zaa h;have A1:=h.lt;have l:=h.1;have u:=zaa hX;have S:=zaa hK;have A2:=zaa ht;have A3:=zaa hn;have A8:=hK.acts0;have A4:=hK.acts1;have B0:IntKind.i64.wrap (j.acts+1)=j.acts+1:=by rw[IntKind.wrap_i64];omega
 obtain⟨_,da,dc,db,dd,na,nc,nb,nd,ne,nf,sa,sc,sb,sd,se,sf,ca,cc,fa,fc,ta,tc,I,_⟩:=id h;have c0:w.cell? ⟨B,0,none⟩=some (.int .i64 j.acts):=zak I 0;have A9:w.frozen? ⟨B,0,none⟩=false:=frozen_of_row w _ _ _ _ I;have c6:w.cell? ⟨B,6,none⟩=some (.bool j.down):=zak I 6;have A6:w.frozen? ⟨B,6,none⟩=false:=frozen_of_row w _ _ _ _ I;clear h hX hK hn ht I;have B1:¬w.heap.size=B:=by omega
 have A0:¬w.heap.size+1=B:=by omega
 have Z:Hid (doJ j ⟨8,ah,ab,an,at0⟩=zef ({j with acts:=j.acts+1}:Jn)):=by rw[Hid,doJ,if_neg hf,zha];simp
 have c:¬(j.acts≥400):=hf;go_enter func15,ntmps15;go_wp2_with fail;obtain⟨C,E⟩:∃C,C=w.setCell ⟨B,0,none⟩ (.int .i64 (j.acts+1)):=⟨_,rfl⟩;rw[←E];have M:C.heap.size=w.heap.size:=by rw[E];simp[World.setCell]
 have m:Hid (JAt C B X ({j with acts:=j.acts+1}:Jn)):=by rw[E];exact r.o.putActs _
 have k:Hid (ButL [B] w.heap.size w C):=by rw[E];exact(ButL.refl _ _ _).set (.inl (by simp)) 0 _
 clear E;obtain⟨A,D⟩:∃A,A=(C.alloc (.cells #[.int .i64 8,.int .i64 ah,.int .i64 ab,.int .i64 an,.string at0] 23)).alloc (.cells #[.int .i64 0,.int .i64 0,.string ⟨#[]⟩] 31):=⟨_,rfl⟩;have J:(C.alloc (.cells #[.int .i64 8,.int .i64 ah,.int .i64 ab,.int .i64 an,.string at0] 23)).heap.size=w.heap.size+1:=by simp[M]
 have Q:Below C.heap.size C A:=by rw[D];exact zae (zab _ _) (zab _ _)
 have i:Hid (JAt A B ((w.heap.size+1)::X) ({j with acts:=j.acts+1}:Jn)):=m.o.more Q (by omega);have L:Hid (ButL [B] w.heap.size w A):=k.o.trans (Y:=[]) (ButL.of_below Q) (by omega) (by simp);have s:Hid (A.heap[w.heap.size+1]?=some (.cells #[.int .i64 0,.int .i64 0,.string ⟨#[]⟩] 31 (0,0))):=by rw[D,←J];exact heap_alloc_new _ _
 have A7:A.heap.size=w.heap.size+2:=by rw[D];simp[M]
 have b:w.heap.size+1<A.heap.size:=by omega
 have O:w.heap.size+1≠B:=by omega
 have p:Hid (∀x∈((w.heap.size+1)::X),x<A.heap.size):=fun x hx=>by
  rcases List.mem_cons.1 hx with rfl|hx
  ·exact b
  ·have:=u.o x hx;omega
 rw[←D];clear D J;clear hf c;refine(z0o B ((w.heap.size+1)::X) ({j with acts:=j.acts+1}:Jn) A i.o p.o S.o.done S.o.found S.o.next).mono ?_;rintro e U ⟨rfl,K,F⟩;have R:Hid (U.heap[w.heap.size+1]?=some (.cells #[.int .i64 0,.int .i64 0,.string ⟨#[]⟩] 31 (0,0))):=(F.block _ (by omega) (by simpa using O)).trans s.o;have N:=zaa K;have a:Hid (ButL [B] w.heap.size w U):=L.o.trans F L.o.size (by simp);have A5:A.heap.size≤U.heap.size:=F.size;clear K F;obtain⟨P,q⟩:∃P,P=zef ({j with acts:=j.acts+1}:Jn):=⟨_,rfl⟩;rw[←q]at Z N⊢;have d:Hid (doJ j ⟨8,ah,ab,an,at0⟩=(P.1,⟨P.2.code,P.2.n,P.2.text⟩)):=Z.o;rw[show vRp P.2=.agg #[.int .i64 P.2.code,.int .i64 P.2.n,.string P.2.text] from rfl];clear q Z;obtain⟨⟨y0,y1,y2⟩,yf⟩:=zbo R.o;go_wp2;exact zbe d.o R.o N.o a.o O l fun W u0 u1 u2=>by simp[results,results15,go_sem,u0,u1,u2]
theorem z02(B:Nat)(X:List Nat)(j:Jn)(w:World)(h:JAt w B X j)(hX:∀x∈X,x<w.heap.size)(hK:Ready j)(ah ab an:Int)(at0:ByteArray)(hn:an≤9223372036854775807)(ht:at0.size≤maxLen)(hf:¬400≤j.acts):
  Calls prog 15 #[.pointer (some ⟨B,0,none⟩),.agg #[.int .i64 10,.int .i64 ah,.int .i64 ab,.int .i64 an,.string at0]] w (zdj w B X (doJ j ⟨10,ah,ab,an,at0⟩)):=by
 have r:=zaa h;have A1:=h.lt;have l:=h.1;have u:=zaa hX;have HK:=zaa hK;have A2:=zaa ht;have Z:=zaa hn;have A7:=hK.acts0;have A3:=hK.acts1;have A9:IntKind.i64.wrap (j.acts+1)=j.acts+1:=by rw[IntKind.wrap_i64];omega
 obtain⟨_,da,dc,db,dd,na,nc,nb,nd,ne,nf,sa,sc,sb,sd,se,sf,ca,cc,fa,fc,ta,tc,I,_⟩:=id h;have c0:w.cell? ⟨B,0,none⟩=some (.int .i64 j.acts):=zak I 0;have A8:w.frozen? ⟨B,0,none⟩=false:=frozen_of_row w _ _ _ _ I;have c6:w.cell? ⟨B,6,none⟩=some (.bool j.down):=zak I 6;have A5:w.frozen? ⟨B,6,none⟩=false:=frozen_of_row w _ _ _ _ I;clear h hX hK hn ht I;have B0:¬w.heap.size=B:=by omega
 have A0:¬w.heap.size+1=B:=by omega
 have U:Hid (doJ j ⟨10,ah,ab,an,at0⟩=zjb ({j with acts:=j.acts+1}:Jn) an):=by rw[Hid,doJ,if_neg hf,zha];simp
 have c:¬(j.acts≥400):=hf;go_enter func15,ntmps15;go_wp2_with fail;obtain⟨C,E⟩:∃C,C=w.setCell ⟨B,0,none⟩ (.int .i64 (j.acts+1)):=⟨_,rfl⟩;rw[←E];have M:C.heap.size=w.heap.size:=by rw[E];simp[World.setCell]
 have m:Hid (JAt C B X ({j with acts:=j.acts+1}:Jn)):=by rw[E];exact r.o.putActs _
 have k:Hid (ButL [B] w.heap.size w C):=by rw[E];exact(ButL.refl _ _ _).set (.inl (by simp)) 0 _
 clear E;obtain⟨A,D⟩:∃A,A=(C.alloc (.cells #[.int .i64 10,.int .i64 ah,.int .i64 ab,.int .i64 an,.string at0] 23)).alloc (.cells #[.int .i64 0,.int .i64 0,.string ⟨#[]⟩] 31):=⟨_,rfl⟩;have J:(C.alloc (.cells #[.int .i64 10,.int .i64 ah,.int .i64 ab,.int .i64 an,.string at0] 23)).heap.size=w.heap.size+1:=by simp[M]
 have Q:Below C.heap.size C A:=by rw[D];exact zae (zab _ _) (zab _ _)
 have i:Hid (JAt A B ((w.heap.size+1)::X) ({j with acts:=j.acts+1}:Jn)):=m.o.more Q (by omega);have L:Hid (ButL [B] w.heap.size w A):=k.o.trans (Y:=[]) (ButL.of_below Q) (by omega) (by simp);have s:Hid (A.heap[w.heap.size+1]?=some (.cells #[.int .i64 0,.int .i64 0,.string ⟨#[]⟩] 31 (0,0))):=by rw[D,←J];exact heap_alloc_new _ _
 have A6:A.heap.size=w.heap.size+2:=by rw[D];simp[M]
 have b:w.heap.size+1<A.heap.size:=by omega
 have O:w.heap.size+1≠B:=by omega
 have p:Hid (∀x∈((w.heap.size+1)::X),x<A.heap.size):=fun x hx=>by
  rcases List.mem_cons.1 hx with rfl|hx
  ·exact b
  ·have:=u.o x hx;omega
 rw[←D];clear D J;clear hf c;refine(zx2 B ((w.heap.size+1)::X) ({j with acts:=j.acts+1}:Jn) A i.o p.o an Z.o).mono ?_;rintro e S ⟨rfl,K,F⟩;have R:Hid (S.heap[w.heap.size+1]?=some (.cells #[.int .i64 0,.int .i64 0,.string ⟨#[]⟩] 31 (0,0))):=(F.block _ (by omega) (by simpa using O)).trans s.o;have N:=zaa K;have a:Hid (ButL [B] w.heap.size w S):=L.o.trans F L.o.size (by simp);have A4:A.heap.size≤S.heap.size:=F.size;clear K F;obtain⟨P,q⟩:∃P,P=zjb ({j with acts:=j.acts+1}:Jn) an:=⟨_,rfl⟩;rw[←q]at U N⊢;have d:Hid (doJ j ⟨10,ah,ab,an,at0⟩=(P.1,⟨P.2.code,P.2.n,P.2.text⟩)):=U.o;rw[show vRp P.2=.agg #[.int .i64 P.2.code,.int .i64 P.2.n,.string P.2.text] from rfl];clear q U;obtain⟨⟨y0,y1,y2⟩,yf⟩:=zbo R.o;go_wp2;exact zbe d.o R.o N.o a.o O l fun W u0 u1 u2=>by simp[results,results15,go_sem,u0,u1,u2]
theorem z03(B:Nat)(X:List Nat)(j:Jn)(w:World)(h:JAt w B X j)(hX:∀x∈X,x<w.heap.size)(hK:Ready j)(ah ab an:Int)(at0:ByteArray)(hn:an≤9223372036854775807)(ht:at0.size≤maxLen)(hf:¬400≤j.acts):
  Calls prog 15 #[.pointer (some ⟨B,0,none⟩),.agg #[.int .i64 11,.int .i64 ah,.int .i64 ab,.int .i64 an,.string at0]] w (zdj w B X (doJ j ⟨11,ah,ab,an,at0⟩)):=by
 have q:=zaa h;have A1:=h.lt;have k:=h.1;have u:=zaa hX;have s:=zaa hK;have A2:=zaa ht;have A3:=zaa hn;have A8:=hK.acts0;have A4:=hK.acts1;have B0:IntKind.i64.wrap (j.acts+1)=j.acts+1:=by rw[IntKind.wrap_i64];omega
 obtain⟨_,da,dc,db,dd,na,nc,nb,nd,ne,nf,sa,sc,sb,sd,se,sf,ca,cc,fa,fc,ta,tc,I,_⟩:=id h;have c0:w.cell? ⟨B,0,none⟩=some (.int .i64 j.acts):=zak I 0;have A9:w.frozen? ⟨B,0,none⟩=false:=frozen_of_row w _ _ _ _ I;have c6:w.cell? ⟨B,6,none⟩=some (.bool j.down):=zak I 6;have A6:w.frozen? ⟨B,6,none⟩=false:=frozen_of_row w _ _ _ _ I;clear h hX hK hn ht I;have B1:¬w.heap.size=B:=by omega
 have A0:¬w.heap.size+1=B:=by omega
 have U:Hid (doJ j ⟨11,ah,ab,an,at0⟩=zb4 ({j with acts:=j.acts+1}:Jn)):=by rw[Hid,doJ,if_neg hf,zha];simp
 have b:¬(j.acts≥400):=hf;go_enter func15,ntmps15;go_wp2_with fail;obtain⟨C,E⟩:∃C,C=w.setCell ⟨B,0,none⟩ (.int .i64 (j.acts+1)):=⟨_,rfl⟩;rw[←E];have M:C.heap.size=w.heap.size:=by rw[E];simp[World.setCell]
 have l:Hid (JAt C B X ({j with acts:=j.acts+1}:Jn)):=by rw[E];exact q.o.putActs _
 have i:Hid (ButL [B] w.heap.size w C):=by rw[E];exact(ButL.refl _ _ _).set (.inl (by simp)) 0 _
 clear E;obtain⟨A,D⟩:∃A,A=(C.alloc (.cells #[.int .i64 11,.int .i64 ah,.int .i64 ab,.int .i64 an,.string at0] 23)).alloc (.cells #[.int .i64 0,.int .i64 0,.string ⟨#[]⟩] 31):=⟨_,rfl⟩;have J:(C.alloc (.cells #[.int .i64 11,.int .i64 ah,.int .i64 ab,.int .i64 an,.string at0] 23)).heap.size=w.heap.size+1:=by simp[M]
 have Q:Below C.heap.size C A:=by rw[D];exact zae (zab _ _) (zab _ _)
 have d:Hid (JAt A B ((w.heap.size+1)::X) ({j with acts:=j.acts+1}:Jn)):=l.o.more Q (by omega);have L:Hid (ButL [B] w.heap.size w A):=i.o.trans (Y:=[]) (ButL.of_below Q) (by omega) (by simp);have r:Hid (A.heap[w.heap.size+1]?=some (.cells #[.int .i64 0,.int .i64 0,.string ⟨#[]⟩] 31 (0,0))):=by rw[D,←J];exact heap_alloc_new _ _
 have A7:A.heap.size=w.heap.size+2:=by rw[D];simp[M]
 have a:w.heap.size+1<A.heap.size:=by omega
 have O:w.heap.size+1≠B:=by omega
 have m:Hid (∀x∈((w.heap.size+1)::X),x<A.heap.size):=fun x hx=>by
  rcases List.mem_cons.1 hx with rfl|hx
  ·exact a
  ·have:=u.o x hx;omega
 rw[←D];clear D J;clear hf b;refine(z0f B ((w.heap.size+1)::X) ({j with acts:=j.acts+1}:Jn) A d.o m.o s.o.few).mono ?_;rintro e S ⟨rfl,K,F⟩;have R:Hid (S.heap[w.heap.size+1]?=some (.cells #[.int .i64 0,.int .i64 0,.string ⟨#[]⟩] 31 (0,0))):=(F.block _ (by omega) (by simpa using O)).trans r.o;have N:=zaa K;have Z:Hid (ButL [B] w.heap.size w S):=L.o.trans F L.o.size (by simp);have A5:A.heap.size≤S.heap.size:=F.size;clear K F;obtain⟨P,p⟩:∃P,P=zb4 ({j with acts:=j.acts+1}:Jn):=⟨_,rfl⟩;rw[←p]at U N⊢;have c:Hid (doJ j ⟨11,ah,ab,an,at0⟩=(P.1,⟨P.2.code,P.2.n,P.2.text⟩)):=U.o;rw[show vRp P.2=.agg #[.int .i64 P.2.code,.int .i64 P.2.n,.string P.2.text] from rfl];clear p U;obtain⟨⟨y0,y1,y2⟩,yf⟩:=zbo R.o;go_wp2;exact zbe c.o R.o N.o Z.o O k fun W u0 u1 u2=>by simp[results,results15,go_sem,u0,u1,u2]
theorem zui(B:Nat)(X:List Nat)(j:Jn)(w:World)(h:JAt w B X j)(hX:∀x∈X,x<w.heap.size)(hK:Ready j)(ak ah ab an:Int)(at0:ByteArray)(hn:an≤9223372036854775807)(ht:at0.size≤maxLen)(hf:¬400≤j.acts)(h0:1≤ak)(h11:ak≤11)(k8:¬ak=8)(k10:¬ak=10)(k11:¬ak=11)(hd:j.down=true):
  Calls prog 15 #[.pointer (some ⟨B,0,none⟩),.agg #[.int .i64 ak,.int .i64 ah,.int .i64 ab,.int .i64 an,.string at0]] w (zdj w B X (doJ j ⟨ak,ah,ab,an,at0⟩)):=by
 have l:=zaa h;have A1:=h.lt;have c:=h.1;have r:=zaa hX;have HK:=zaa hK;have A2:=zaa ht;have A3:=zaa hn;have A7:=hK.acts0;have A4:=hK.acts1;have B0:IntKind.i64.wrap (j.acts+1)=j.acts+1:=by rw[IntKind.wrap_i64];omega
 obtain⟨_,da,dc,db,dd,na,nc,nb,nd,ne,nf,sa,sc,sb,sd,se,sf,ca,cc,fa,fc,ta,tc,I,_⟩:=id h;have c0:w.cell? ⟨B,0,none⟩=some (.int .i64 j.acts):=zak I 0;have A9:w.frozen? ⟨B,0,none⟩=false:=frozen_of_row w _ _ _ _ I;have n:w.cell? ⟨B,6,none⟩=some (.bool j.down):=zak I 6;have A5:w.frozen? ⟨B,6,none⟩=false:=frozen_of_row w _ _ _ _ I;clear h hX hK hn ht I;have B1:¬w.heap.size=B:=by omega
 have A0:¬w.heap.size+1=B:=by omega
 have q:Hid (doJ j ⟨ak,ah,ab,an,at0⟩=(({j with acts:=j.acts+1}:Jn),zaq 10)):=by rw[Hid,doJ,if_neg hf,zha,if_neg (by simp only;omega),if_neg k8,if_neg k10,if_neg k11,if_pos hd]
 have S:¬(j.acts≥400):=hf;have s:(ak==8)=false:=by simpa using k8
 have i:(ak==10)=false:=by simpa using k10
 have Q:(ak==11)=false:=by simpa using k11
 have k:¬ak<1:=by omega
 have p:¬ak>11:=by omega
 rw[hd]at n;go_enter func15,ntmps15;go_wp2_with fail;obtain⟨A,E⟩:∃A,A=w.setCell ⟨B,0,none⟩ (.int .i64 (j.acts+1)):=⟨_,rfl⟩;rw[←E];have M:A.heap.size=w.heap.size:=by rw[E];simp[World.setCell]
 have d:Hid (JAt A B X ({j with acts:=j.acts+1}:Jn)):=by rw[E];exact l.o.putActs _
 have b:Hid (ButL [B] w.heap.size w A):=by rw[E];exact(ButL.refl _ _ _).set (.inl (by simp)) 0 _
 clear E;obtain⟨C,D⟩:∃C,C=(A.alloc (.cells #[.int .i64 ak,.int .i64 ah,.int .i64 ab,.int .i64 an,.string at0] 23)).alloc (.cells #[.int .i64 0,.int .i64 0,.string ⟨#[]⟩] 31):=⟨_,rfl⟩;have J:(A.alloc (.cells #[.int .i64 ak,.int .i64 ah,.int .i64 ab,.int .i64 an,.string at0] 23)).heap.size=w.heap.size+1:=by simp[M]
 have O:Below A.heap.size A C:=by rw[D];exact zae (zab _ _) (zab _ _)
 have Z:Hid (JAt C B ((w.heap.size+1)::X) ({j with acts:=j.acts+1}:Jn)):=d.o.more O (by omega);have L:Hid (ButL [B] w.heap.size w C):=b.o.trans (Y:=[]) (ButL.of_below O) (by omega) (by simp);have m:Hid (C.heap[w.heap.size+1]?=some (.cells #[.int .i64 0,.int .i64 0,.string ⟨#[]⟩] 31 (0,0))):=by rw[D,←J];exact heap_alloc_new _ _
 have A6:C.heap.size=w.heap.size+2:=by rw[D];simp[M]
 have K:w.heap.size+1<C.heap.size:=by omega
 have a:w.heap.size+1≠B:=by omega
 have A8:Hid (∀x∈((w.heap.size+1)::X),x<C.heap.size):=fun x hx=>by
  rcases List.mem_cons.1 hx with rfl|hx
  ·exact K
  ·have:=r.o x hx;omega
 rw[←D];clear D J;clear hf S k8 s k10 i k11 Q k p h0 h11;refine(zat 10 _).mono ?_;rintro e w2 ⟨rfl,F⟩;have N:=zaa (zad F K m.o);have U:=zaa (Z.o.below F);have R:=zaa (L.o.trans (Y:=[]) (ButL.of_below F) L.o.size (by simp));clear F;obtain⟨⟨y0,y1,y2⟩,yf⟩:=zbo N.o;go_wp2;exact zbe q.o N.o U.o R.o a c fun W u0 u1 u2=>by simp[results,results15,go_sem,u0,u1,u2]
theorem z04(B:Nat)(X:List Nat)(j:Jn)(w:World)(h:JAt w B X j)(hX:∀x∈X,x<w.heap.size)(hK:Ready j)(ak ah ab an:Int)(at0:ByteArray)(hn:an≤9223372036854775807)(ht:at0.size≤maxLen)(hf:¬400≤j.acts)(h0:1≤ak)(h11:ak≤11)(k8:¬ak=8)(k10:¬ak=10)(k11:¬ak=11)(hd:j.down=false):
  Calls prog 15 #[.pointer (some ⟨B,0,none⟩),.agg #[.int .i64 ak,.int .i64 ah,.int .i64 ab,.int .i64 an,.string at0]] w (zdj w B X (doJ j ⟨ak,ah,ab,an,at0⟩)):=by
 have y:=zaa h;have A1:=h.lt;have s:=h.1;have HX:=zaa hX;have HK:=zaa hK;have l:=zaa ht;have A2:=zaa hn;have A8:=hK.acts0;have A6:=hK.acts1;have A9:IntKind.i64.wrap (j.acts+1)=j.acts+1:=by rw[IntKind.wrap_i64];omega
 obtain⟨_,da,dc,db,dd,na,nc,nb,nd,ne,nf,sa,sc,sb,sd,se,sf,ca,cc,fa,fc,ta,tc,I,_⟩:=id h;have c0:w.cell? ⟨B,0,none⟩=some (.int .i64 j.acts):=zak I 0;have A5:w.frozen? ⟨B,0,none⟩=false:=frozen_of_row w _ _ _ _ I;have z:w.cell? ⟨B,6,none⟩=some (.bool j.down):=zak I 6;have A4:w.frozen? ⟨B,6,none⟩=false:=frozen_of_row w _ _ _ _ I;clear h hX hK hn ht I;have B0:¬w.heap.size=B:=by omega
 have A0:¬w.heap.size+1=B:=by omega
 have U:Hid (doJ j ⟨ak,ah,ab,an,at0⟩=zav ({j with acts:=j.acts+1}:Jn) ⟨ak,ah,ab,an,at0⟩):=by rw[Hid,doJ,if_neg hf,zha,if_neg (by simp only;omega),if_neg k8,if_neg k10,if_neg k11,if_neg (by simp[hd])]
 have b:Hid (Ready ({j with acts:=j.acts+1}:Jn)):=HK.o.bump _ (by omega) (by omega);have q:¬(j.acts≥400):=hf;have b8:(ak==8)=false:=by simpa using k8
 have u:(ak==10)=false:=by simpa using k10
 have Z:(ak==11)=false:=by simpa using k11
 have r1:¬ak<1:=by omega
 have r2:¬ak>11:=by omega
 rw[hd]at z;go_enter func15,ntmps15;go_wp2_with fail;obtain⟨C,E⟩:∃C,C=w.setCell ⟨B,0,none⟩ (.int .i64 (j.acts+1)):=⟨_,rfl⟩;rw[←E];have M:C.heap.size=w.heap.size:=by rw[E];simp[World.setCell]
 have d:Hid (JAt C B X ({j with acts:=j.acts+1}:Jn)):=by rw[E];exact y.o.putActs _
 have r:Hid (ButL [B] w.heap.size w C):=by rw[E];exact(ButL.refl _ _ _).set (.inl (by simp)) 0 _
 clear E;obtain⟨A,D⟩:∃A,A=(C.alloc (.cells #[.int .i64 ak,.int .i64 ah,.int .i64 ab,.int .i64 an,.string at0] 23)).alloc (.cells #[.int .i64 0,.int .i64 0,.string ⟨#[]⟩] 31):=⟨_,rfl⟩;have J:(C.alloc (.cells #[.int .i64 ak,.int .i64 ah,.int .i64 ab,.int .i64 an,.string at0] 23)).heap.size=w.heap.size+1:=by simp[M]
 have O:Below C.heap.size C A:=by rw[D];exact zae (zab _ _) (zab _ _)
 have c:Hid (JAt A B ((w.heap.size+1)::X) ({j with acts:=j.acts+1}:Jn)):=d.o.more O (by omega);have L:Hid (ButL [B] w.heap.size w A):=r.o.trans (Y:=[]) (ButL.of_below O) (by omega) (by simp);have KR:Hid (A.heap[w.heap.size+1]?=some (.cells #[.int .i64 0,.int .i64 0,.string ⟨#[]⟩] 31 (0,0))):=by rw[D,←J];exact heap_alloc_new _ _
 have A7:A.heap.size=w.heap.size+2:=by rw[D];simp[M]
 have p:w.heap.size+1<A.heap.size:=by omega
 have Q:w.heap.size+1≠B:=by omega
 have i:Hid (∀x∈((w.heap.size+1)::X),x<A.heap.size):=fun x hx=>by
  rcases List.mem_cons.1 hx with rfl|hx
  ·exact p
  ·have:=HX.o x hx;omega
 rw[←D];clear D J;clear hf q k8 b8 k10 u k11 Z r1 r2 h0 h11;refine(zrz B ((w.heap.size+1)::X) ({j with acts:=j.acts+1}:Jn) A c.o i.o b.o ⟨ak,ah,ab,an,at0⟩ l.o).mono ?_;rintro e S ⟨rfl,K,F⟩;have R:Hid (S.heap[w.heap.size+1]?=some (.cells #[.int .i64 0,.int .i64 0,.string ⟨#[]⟩] 31 (0,0))):=(F.block _ (by omega) (by simpa using Q)).trans KR.o;have N:=zaa K;have m:Hid (ButL [B] w.heap.size w S):=L.o.trans F L.o.size (by simp);have A3:A.heap.size≤S.heap.size:=F.size;clear K F;obtain⟨P,k⟩:∃P,P=zav ({j with acts:=j.acts+1}:Jn) ⟨ak,ah,ab,an,at0⟩:=⟨_,rfl⟩;rw[←k]at U N⊢;have a:Hid (doJ j ⟨ak,ah,ab,an,at0⟩=(P.1,⟨P.2.code,P.2.n,P.2.text⟩)):=U.o;rw[show vRp P.2=.agg #[.int .i64 P.2.code,.int .i64 P.2.n,.string P.2.text] from rfl];clear k U;obtain⟨⟨y0,y1,y2⟩,yf⟩:=zbo R.o;go_wp2;exact zbe a.o R.o N.o m.o Q s fun W u0 u1 u2=>by simp[results,results15,go_sem,u0,u1,u2]
theorem zir(B:Nat)(X:List Nat)(j:Jn)(w:World)(h:JAt w B X j)(hX:∀x∈X,x<w.heap.size)(hK:Ready j)(ac:Ac)(hn:ac.n≤9223372036854775807)(ht:ac.text.size≤maxLen):
  Calls prog 15 #[.pointer (some ⟨B,0,none⟩),vAc ac] w (zdj w B X (doJ j ac)):=by
 obtain⟨C,E,D,an,A⟩:=ac;by_cases hf:400≤j.acts
 ·exact zug B X j w h hX hK C E D an A hn ht hf
 by_cases hl:C<1
 ·exact zx3 B X j w h hX hK C E D an A hn ht hf hl
 by_cases hh:11<C
 ·exact zuh B X j w h hX hK C E D an A hn ht hf hh
 by_cases k8:C=8
 ·subst k8;exact z3d B X j w h hX hK E D an A hn ht hf
 by_cases k10:C=10
 ·subst k10;exact z02 B X j w h hX hK E D an A hn ht hf
 by_cases k11:C=11
 ·subst k11;exact z03 B X j w h hX hK E D an A hn ht hf
 cases hd:j.down with
 |true=>exact zui B X j w h hX hK C E D an A hn ht hf (by omega) (by omega) k8 k10 k11 hd
 |false=>exact z04 B X j w h hX hK C E D an A hn ht hf (by omega) (by omega) k8 k10 k11 hd
theorem z3r:goodM (zbq 0 1)=0:=by kernel_rfl
def z3e:Dk:=⟨encT (zbq 0 1)::List.replicate 36 (fitT ⟨#[]⟩),[]⟩
theorem z4j:z1h=zfj z3e 0 1:=rfl
def zmi (bs:Nat)(D:Nat)(g:Nat)(c:Nat)(s:ByteArray):Nat→Value→World→Prop
 |0,v,_=>v=.pointer (some ⟨D,0,none⟩)
 |1,v,_=>v=.slice (some ⟨g,0,none⟩) 37 c
 |2,v,_=>v=.agg #[.int .i64 1,.int .i64 1,.int .i64 0,.slice none 0 0,.slice none 0 0]
 |3,v,_=>v=.tuple #[.string s,.int .i64 0]
 |4,v,_=>v=.tuple #[.string s,.int .i64 0]
 |5,v,_=>v=.string s
 |6,v,_=>v=.int .i64 0
 |7,v,_=>v=.pointer (some ⟨g,0,none⟩)
 |8,_,w=>w.ownsRow bs 9 1 (.slice (some ⟨g,0,none⟩) 37 c) 37 (cellsS (s::List.replicate 36 (fitT ⟨#[]⟩)))
 |_,_,_=>True
theorem zr0{bs:Nat}{D:Nat}{g:Nat}{c:Nat}{s:ByteArray}{w w':World}(hb:Below w.heap.size w w'){i:Nat}:∀kk uu,kk≠i→zmi bs D g c s kk uu w→zmi bs D g c s kk uu w':=by
 intro kk uu _ h
 match kk,h with
 |0,h|1,h|2,h|3,h|4,h|5,h|6,h|7,h=>exact h
 |8,h=>exact zah h hb
 |_+9,_=>exact trivial
theorem zx4{bs:Nat}{D:Nat}{g:Nat}{c:Nat}{s:ByteArray}{w w':World}:∀kk x,kk≠8→zmi bs D g c s kk x w→zmi bs D g c s kk x w':=by
 intro kk x A h
 match kk,h with
 |0,h|1,h|2,h|3,h|4,h|5,h|6,h|7,h=>exact h
 |8,_=>exact absurd rfl A
 |_+9,_=>exact trivial
def newR (w:World)(D g c:Nat)(w':World):Prop:=Below w.heap.size w w'∧w'.heap[D]?=some (.cells #[.slice (some ⟨g,0,none⟩) 37 c,.slice none 0 0] 46 (0,0))∧∃t,w'.ownsRow w.heap.size 9 1 (.slice (some ⟨g,0,none⟩) 37 c) 37 (cellsS (t::List.replicate 36 (fitT ⟨#[]⟩)))
theorem newR.below{w:World}{D g c:Nat}{w' w2:World}(h:newR w D g c w')(hb:Below w'.heap.size w' w2):newR w D g c w2:=⟨zae h.1 hb,zad hb (Array.getElem?_eq_some_iff.1 h.2.1).1 h.2.1,h.2.2.imp fun _ ho=>zah ho hb⟩
theorem zvf(w:World):
  Calls prog 41 #[] w fun e w'=>∃B,e=.returned (.pointer (some ⟨B,0,none⟩))∧w.heap.size≤B∧(∀X:List Nat,(∀x∈X,x<w.heap.size)→JAt w' B (B::X) z1h)∧Below w.heap.size w w':=by
 obtain⟨s,hs⟩:∃s,s=encT (zbq 0 1):=⟨_,rfl⟩;have HS:=zaa hs;clear hs;go_enter func41,ntmps41;go_wp2_with fail;refine(z4i _).mono ?_;rintro e C ⟨g,c,rfl,O,n⟩;have d:=O.lt g rfl;have B6:w.heap.size≤g:=d.1;have C3:g<C.heap.size:=d.2;go_wp2;rename_i KK k;obtain⟨U,J⟩:∃U,U=C.alloc (.cells #[.slice (some ⟨g,0,none⟩) 37 c,.slice none 0 0] 46):=⟨_,rfl⟩;have L:Below C.heap.size C U:=by rw[J];exact zab _ _
 have C0:=zaa (zah O L);have B0:=zaa (zae n L);have KD:Hid (U.heap[C.heap.size]?=some (.cells #[.slice (some ⟨g,0,none⟩) 37 c,.slice none 0 0] 46 (0,0))):=by rw[J];exact heap_alloc_new _ _
 have C6:U.heap.size=C.heap.size+1:=by rw[J];simp
 have C1:w.heap.size≤C.heap.size:=n.size;rw[←J];clear J L O n d;have B7:Hid (newR w C.heap.size g c U):=⟨B0.o,KD.o,fitT ⟨#[]⟩,C0.o⟩
 have l:∀(g0 g2 g3 g4 g5 g6 g7 g8 g9 u A2 A5 A6:Value) (W:World),W.ownsRow w.heap.size 9 1 (.slice (some ⟨g,0,none⟩) 37 c) 37 (cellsS (s::List.replicate 36 (fitT ⟨#[]⟩)))→Below w.heap.size w W→W.heap[C.heap.size]?=some (.cells #[.slice (some ⟨g,0,none⟩) 37 c,.slice none 0 0] 46 (0,0))→KK ⟨#[g0,.pointer (some ⟨C.heap.size,0,none⟩),g2,g3,g4,g5,g6,g7,g8,g9,u,A2,A5,A6],[]⟩ W:=by
  intro g0 g2 g3 g4 g5 g6 g7 g8 g9 u A2 A5 A6 W3 F A4 A3;apply k;clear k;have B5:=zaa F;have B4:=zaa A4;have B9:=zaa A3;obtain⟨⟨y0,y1⟩,_⟩:=zgr B9.o;clear F A4 A3;go_wp2_with fail;refine(zro z3e (some ⟨g,0,none⟩) c none 0 0 1 W3 (by decide+kernel)).mono ?_;rintro e Y ⟨rfl,S⟩;have q:=zaa (zah B5.o S);have R:=zaa (zae B4.o S);have C7:W3.heap.size≤Y.heap.size:=S.size;clear y0 y1 S;obtain⟨M,Z⟩:∃M,M=zbu (zfj z3e 0 1) (some ⟨g,0,none⟩) c none 0 none 0 none 0 none 0 none 0 none 0 none 0 none 0 none 0 none 0:=⟨_,rfl⟩;rw[←Z];have Q:=zaa Z;have A9:Hid ((prog.info? 93).map (·.size)=some M.size):=by rw[Hid,Q.o];exact z25 _ _ _ _ _ _ _ _ _ _ _ _ _ _ _ _ _ _ _ _ _ _ _
  have B1:Hid (M.all (·.oneCell')=true):=by rw[Hid,Q.o];exact zh1 _ _ _ _ _ _ _ _ _ _ _ _ _ _ _ _ _ _ _ _ _ _ _
  have B3:Hid (57=M.size):=by rw[Hid,Q.o];kernel_rfl
  clear Z;dsimp only
  repeat (first|(refine wpList_store_rowTo rfl _ _ _ rfl rfl Y.heap.size M rfl rfl _ _ (heap_alloc_new _ _) A9.o B3.o B1.o ?_)|go_step)
  refine bodyPost_ret (results_tmp rfl _ _ _) rfl ⟨Y.heap.size,rfl,R.o.size,fun X hX=>?_,?_⟩
  ·rw[Q.o,z4j];refine JAt.putAll (by simp) (heap_alloc_new Y _) (some ⟨g,0,none⟩) c none 0 none 0 none 0 none 0 none 0 none 0 none 0 none 0 none 0 none 0 ⟨?_,zq6 _ _,zq6 _ _,.inl rfl,.inl rfl,.inl rfl,z24 _,Nat.le_refl _,Nat.le_refl _,Nat.le_refl _⟩;have C2:g<Y.heap.size:=(q.o.lt g rfl).2;obtain⟨a2,c2,hv,hS,_⟩:=SegS.of_owns (zah q.o (zab Y _));simp only[Value.slice.injEq]at hv;obtain⟨rfl,_,rfl⟩:=hv;rw[HS.o]at hS;refine⟨some ⟨g,0,none⟩,c,none,0,rfl,?_,.inl rfl,by decide+kernel,by decide+kernel⟩;rcases hS with h0|⟨b,off,he,hlt,hc⟩
   ·cases h0
   ·cases he;refine .inr ⟨g,0,rfl,by rw[zbr];exact hlt,fun i hi=>zcc ?_ (hc i hi)⟩;simp only[List.mem_cons,not_or];exact⟨by omega,fun hx=>by have:=hX g hx;omega⟩
  ·exact((ButL.of_below (X:=[]) (R.o.alloc R.o.size _)).setRow (.inr R.o.size) M).below
 have r:=zaa l;clear l k;refine(show∀A0:Act,A0=_→Code.wp prog _ _ A0 _ from fun A0 hA0=>?_) _ rfl;have D:A0.tmps.size=14:=by rw[hA0];rfl
 have A8:A0.defers=[]:=by rw[hA0]
 have v1:A0.eval (.tmp 1)=.pointer (some ⟨C.heap.size,0,none⟩):=by rw[hA0];rfl
 clear hA0;refine zdz (fun w'=>newR w C.heap.size g c w') [5,6,7,8,4,9,10,11,11] (zmi w.heap.size C.heap.size g c s) (by kernel_rfl) (by kernel_rfl) (by kernel_rfl) (B7.o.below (Below.refl _ _).drew) ⟨?_,?_,?_,?_,?_,?_,?_,?_,?_,trivial⟩ ?_
 ·exact zbh v1 D (fun _=>rfl) fun ρ w' A z=>by simp only[execOp];go_simp
 ·exact zam 0 5 D (fun _ _ h=>h) (fun _=>rfl) fun ρ w' A p=>by have c0:w'.cell? ⟨C.heap.size,0,none⟩=some (.slice (some ⟨g,0,none⟩) 37 c):=(zgr A.2.1).1.1;simp only[execOp];go_simp
 ·intro a w' E A I;exact zf6 _ rfl rfl (by have K:=Act.eval_const a (.int .i64 1);revert K;generalize a.eval=ρ;intro K;simp only[execOp];go_simp) E D A rfl
 ·intro a w' E A I;have p7:a.eval (.tmp 7)=.agg #[.int .i64 1,.int .i64 1,.int .i64 0,.slice none 0 0,.slice none 0 0]:=I ⟨2,.data⟩ (by simp) rfl;refine zby 70 #[.agg #[.int .i64 1,.int .i64 1,.int .i64 0,.slice none 0 0,.slice none 0 0]] rfl rfl (by have pf:=Act.eval_func a 70;revert p7 pf;generalize a.eval=ρ;intro p7 pf;simp only[execOp];go_simp) _ (zdv _ (zbq 0 1) _ ⟨none,0,none,0,rfl,.inl rfl,.inl rfl,Nat.zero_le _,Nat.zero_le _⟩) ?_;rintro e w2 ⟨rfl,y⟩;refine⟨_,rfl,_,rfl,A.below y,?_,zr0 y⟩;show zmi _ _ _ _ _ _ ((a.put (some 8) _).eval (.tmp 8)) w2;rw[zax E D (by decide)];rw[HS.o,z3r];exact rfl
 ·exact zam 3 8 D (fun _ _ h=>h) (fun _=>rfl) fun ρ w' A p=>by simp only[execOp];go_simp
 ·exact zam 4 4 D (fun _ _ h=>h) (fun _=>rfl) fun ρ w' A p=>by simp only[execOp];go_simp
 ·exact zam 4 4 D (fun _ _ h=>h) (fun _=>rfl) fun ρ w' A p=>by simp only[execOp];go_simp
 ·intro a w' E A I;have p6:a.eval (.tmp 6)=.slice (some ⟨g,0,none⟩) 37 c:=I ⟨1,.data⟩ (by simp) rfl;exact zf6 _ rfl rfl (by have K:=Act.eval_const a (.int .i64 0);revert p6 K;generalize a.eval=ρ;intro p6 K;simp only[execOp];go_simp) E D A rfl
 ·intro a w' E A I;have p9:a.eval (.tmp 9)=.string s:=I ⟨5,.data⟩ (by simp) rfl;have A1:a.eval (.tmp 11)=.pointer (some ⟨g,0,none⟩):=I ⟨7,.data⟩ (by simp) rfl;obtain⟨B8,B2,t,j⟩:=A;have C4:w'.cell? ⟨g,0,none⟩=some (.string t):=by rw[j.cellAt 0 (by decide)];rfl
  have C5:w'.frozen? ⟨g,0,none⟩=false:=j.frozenAt 0;have F:=(j.stored 0 (.string s)).1;have m:(w'.setCell ⟨g,0,none⟩ (.string s)).ownsRow w.heap.size 9 1 (.slice (some ⟨g,0,none⟩) 37 c) 37 (cellsS (s::List.replicate 36 (fitT ⟨#[]⟩))):=F;refine zcw rfl rfl (w':=w'.setCell ⟨g,0,none⟩ (.string s)) (by revert p9 A1;generalize a.eval=ρ;intro p9 A1;simp only[execOp];go_simp) ⟨_,rfl,⟨B8.setCell (p:=⟨g,0,none⟩) B6 _,(Below.heap_setCell _ _ _ _ (by simp only;omega)).trans B2,s,m⟩,?_,zx4⟩;show zmi _ _ _ _ _ _ _ _;exact m
 ·intro a W E A I;have F:W.ownsRow w.heap.size 9 1 (.slice (some ⟨g,0,none⟩) 37 c) 37 (cellsS (s::List.replicate 36 (fitT ⟨#[]⟩))):=I 8 (by decide);have A7:a.tmps.size=14:=E.size.trans D;have f1:a.eval (.tmp 1)=.pointer (some ⟨C.heap.size,0,none⟩):=(E.other 1 rfl).trans v1;have N:a=⟨#[_,_,_,_,_,_,_,_,_,_,_,_,_,_],[]⟩:=zci a 14 A7 (E.defers.trans A8);dsimp only at N;rw[f1]at N;show KK a _;exact(congrArg (fun x=>KK x _) N).mpr (r.o (a.eval (.tmp 0)) (a.eval (.tmp 2)) (a.eval (.tmp 3)) (a.eval (.tmp 4)) (a.eval (.tmp 5)) (a.eval (.tmp 6)) (a.eval (.tmp 7)) (a.eval (.tmp 8)) (a.eval (.tmp 9)) (a.eval (.tmp 10)) (a.eval (.tmp 11)) (a.eval (.tmp 12)) (a.eval (.tmp 13)) W F A.1 A.2.1)
theorem Move.acts{j:Jn}{a:Ac}{j':Jn}{r:Rp}(m:Move j a j' r):j'.acts=j.acts:=by
 cases m with
 |last hk s hs he=>
  rw[zbg];split
  ·rfl
  split
  ·rfl
  split
  ·rfl
  ·rfl
 |_=>rfl
theorem zr1{j:Jn}{D:Dk}(h:Md j D)(a:Ac)(h0:0≤j.acts)(h1:j.acts≤400):
  (400≤j.acts∧doJ j a=(j,zaq 11))∨(j.acts<400∧(doJ j a).1.acts=j.acts+1∧∃D',Md (doJ j a).1 D'∧Trans {j with acts:=j.acts+1} D a (doJ j a).1 (doJ j a).2 D'):=by
 by_cases hf:400≤j.acts
 ·exact .inl ⟨hf,by rw[doJ,if_pos hf]⟩
 ·have e:doJ j a=zha {j with acts:=j.acts+1} a:=by rw[doJ,if_neg hf]
  have m:=zzj {j with acts:=j.acts+1} a;rw[e];refine .inr ⟨by omega,m.acts,(h.bump (x:=j.acts+1) (by omega)).move m (fun hk hs=>?_)⟩;show j.now.seq≤j.acts+1
  cases h with
  |idle p hs hz hD ht hq=>exact p.seq
  |commit P U k p hw hk hs hD ht he hse hrh hru hq hN=>exact p.seq
  |check k p hw hz hk hs hD ht hq=>exact p.seq
  |off l N P U p hs hf hD ht=>rw[p.now];show(0:Int)≤_;omega
  |back U k p hw hk hs hD ht=>rw[p.now];show(0:Int)≤_;omega
theorem z06:Tells z3e [] 1 0 0:=by
 have A:za0 z3e=true:=by kernel_rfl
 refine zqw A rfl (by kernel_rfl) z3r (fun n h1 h2=>?_)
 have C:zal z3e n=fitT ⟨#[]⟩:=by
  rw[z3e,zg3 A (by omega)];obtain⟨m,rfl⟩:∃m,n=m+1:=⟨n - 1,by omega⟩;rw[List.getD_cons_succ,List.getD,List.getElem?_replicate,if_pos (by omega)];rfl
 rw[C];intro B;rw[z05]at B;cases B
theorem z5n:Md z1h z3e:=.idle ⟨rfl,zo3 (by decide) (by decide),by decide,rfl,rfl,fun hb=>by cases hb⟩ rfl rfl rfl z06 rfl
theorem Md.ready{j:Jn}{D:Dk}(h:Md j D)(h0:0≤j.acts)(h1:j.acts≤400):Ready j:=by
 have B:∀x:Int, -10≤x→x≤1000→IntKind.i64.wrap x=x:=fun x _ _=>by rw[IntKind.wrap_i64];omega
 have I:∀{l:List Tx} {N P U:Int},Pow j→j.done.length≤24→j.now.seq≤j.last+2→j.last+1≤j.now.seq→0≤j.last→0≤j.ru→j.ru≤24→Ready j:=by
  intro _ _ _ _ p hd F A0 hl O M;have E:=zaw p.good;have A6:=p.seq;refine⟨by omega,by rw[p.fL];exact Nat.zero_le _,by rw[p.fN];exact B _ (by omega) (by omega),B _ (by omega) (by omega),B _ (by omega) (by omega),by omega,by omega,(fun hd2=>by rw[p.up]at hd2;cases hd2),O,M,h0,h1⟩
 have len:∀{N P U:Int},Tells D (j.done.map toldOf) N P U→j.done.length≤24:=by
  intro N P U A;have C:=zoi D;rw[A.tL,List.length_map]at C;exact C
 have L:∀{N:Int},Dn j N→j.fL.length≤24→ -1≤j.fN→j.fN≤402→(j.steps=[]→∀t∈fndL j.disk,Few t)→Ready j:=by
  intro N p K A4 A5 J;have C:=p.lo;have S:=p.seq;have R:=p.last0;refine⟨by rw[p.done];exact Nat.zero_le _,by unfold maxLen;omega,B _ (by omega) (by omega),by rw[p.now];exact B _ (by decide) (by decide),B _ (by omega) (by omega),by rw[p.now];decide,by rw[p.now];decide,fun _=>J,by rw[p.ru];exact Int.le_refl _,by rw[p.ru];decide,h0,h1⟩
 cases h with
 |idle p E hz hD A F=>have:=A.range;exact I (l:=[]) (N:=0) (P:=0) (U:=0) p (len A) (by omega) (by omega) (by omega) (by omega) (by omega)
 |commit P U k p hw hk E hD A he hse hrh hru F hN=>
  have:=A.range;obtain⟨_,Q,_,A2,A3⟩:=zbs he;have hn:=zd8 j.sealed (zaw Q).1 (zaw Q).2.2
  have A1:zca P U j.sealed=U+needN j.sealed.info.length j.sealed.rev.length:=by
   have C:=he;unfold sealE at C;split at C
   ·cases C
   ·rw[zca,if_pos he,takeU,if_pos C]
  exact I (l:=[]) (N:=0) (P:=0) (U:=0) p (len A) (by omega) (by omega) (by omega) (by omega) (by omega)
 |check k p hw hz hk E hD A F=>have:=A.range;exact I (l:=[]) (N:=0) (P:=0) (U:=0) p (len A) (by omega) (by omega) (by omega) (by omega) (by omega)
 |off l N P U p E K hD A=>
  refine L p (by rw[K.1];exact Nat.zero_le _) (by omega) (by omega) (fun _ t ht2=>z2o (A.goods t ?_))
  rwa [hD,A.tL]at ht2
 |back U k p hw hk E hD A=>
  have C:=A.range;have S:=p.seq;refine L p (by have R:=zoi D;rwa [A.tL]at R) (by omega) (by omega) (fun hs2=>?_);rw[hs2]at E;have:=congrArg List.length E;rw[List.length_drop]at this;simp at this;omega
def PJ (j:Jn):Prop:=∃D,Md j D∧0≤j.acts∧j.acts≤400
theorem PJ.ready{j:Jn}(h:PJ j):Ready j:=by
 obtain⟨D,B,C,A⟩:=h;exact B.ready C A
theorem PJ.do{j:Jn}(h:PJ j)(a:Ac):PJ (doJ j a).1:=by
 obtain⟨D,B,C,A⟩:=h;rcases zr1 B a C A with⟨h4,h5⟩|⟨h4,h5,D',h6,_⟩
 ·rw[h5];exact⟨D,B,C,A⟩
 ·exact⟨D',h6,by omega,by omega⟩
theorem PJ.new:PJ z1h:=⟨z3e,z5n,by decide,by decide⟩
def al1:Jn:=(doJ z1h ⟨1,0,0,2,⟨#[]⟩⟩).1
def al2:Jn:=(doJ al1 ⟨2,0,3,0,⟨#[120]⟩⟩).1
def al3:Jn:=(doJ al2 ⟨9,0,3,0,⟨#[]⟩⟩).1
theorem z5o:(doJ z1h ⟨1,0,0,2,⟨#[]⟩⟩).2.code=0:=by kernel_rfl
theorem z5p:(doJ al1 ⟨2,0,3,0,⟨#[120]⟩⟩).2.code=0:=by kernel_rfl
theorem z3s:(doJ al2 ⟨9,0,3,0,⟨#[]⟩⟩).2.n=1∧(doJ al2 ⟨9,0,3,0,⟨#[]⟩⟩).2.text=fitT ⟨#[120]⟩:=⟨by kernel_rfl,by kernel_rfl⟩
theorem z5q:(doJ al3 ⟨6,0,0,0,⟨#[]⟩⟩).2.code=9:=by kernel_rfl
def zvg (R1:Nat)(R2:Nat)(R3:Nat)(R4:Nat)(z:ByteArray):Nat→Value→World→Prop
 |0,v,_=>v=.pointer (some ⟨R1,0,none⟩)
 |1,v,_=>v=.int .i64 0
 |2,v,_=>v=.bool true
 |3,v,_=>v=.bool true
 |4,v,_=>v=.pointer (some ⟨R2,0,none⟩)
 |5,v,_=>v=.int .i64 0
 |6,v,_=>v=.bool true
 |7,v,_=>v=.bool true
 |8,v,_=>v=.bool true
 |9,v,_=>v=.pointer (some ⟨R3,2,none⟩)
 |10,v,_=>v=.string z
 |11,v,_=>v=.string z
 |12,v,_=>v=.bool true
 |13,v,_=>v=.bool true
 |14,v,_=>v=.bool true
 |15,v,_=>v=.pointer (some ⟨R3,1,none⟩)
 |16,v,_=>v=.int .i64 1
 |17,v,_=>v=.bool true
 |18,v,_=>v=.bool true
 |19,v,_=>v=.bool true
 |20,v,_=>v=.pointer (some ⟨R4,0,none⟩)
 |21,v,_=>v=.int .i64 9
 |22,v,_=>v=.bool true
 |23,v,_=>v=.bool true
 |24,v,_=>v=.bool true
 |_,_,_=>True
theorem zr2{R1:Nat}{R2:Nat}{R3:Nat}{R4:Nat}{z:ByteArray}{w w':World}(_hb:Below w.heap.size w w'){i:Nat}:∀kk uu,kk≠i→zvg R1 R2 R3 R4 z kk uu w→zvg R1 R2 R3 R4 z kk uu w':=by
 intro kk uu _ h
 match kk,h with
 |0,h|1,h|2,h|3,h|4,h|5,h|6,h|7,h|8,h|9,h|10,h|11,h|12,h|13,h|14,h|15,h|16,h|17,h|18,h|19,h|20,h|21,h|22,h|23,h|24,h=>exact h
 |_+25,_=>exact trivial
theorem z07(w:World):Calls Tryz.prog 39 #[] w fun e w'=>e=.returned (.bool true)∧Below w.heap.size w w':=by
 obtain⟨z,hz⟩:∃z,z=fitT ⟨#[120]⟩:=⟨_,rfl⟩;have HZ:=zaa hz;clear hz;go_enter Tryz.func39,Tryz.ntmps39;go_wp2_with fail;refine(zvf _).mono ?_;rintro e w1 ⟨B,rfl,G1,R,F⟩;have B5:=zaa (R [] (by simp));have G7:B<w1.heap.size:=B5.o.lt;have C3:=zaa F;have G5:w.heap.size≤w1.heap.size:=F.size;have B3:=zaa PJ.new
 have C9:Hid (∀P,P=doJ z1h ⟨1,0,0,2,⟨#[]⟩⟩→P.2.code=0∧∀j1,j1=P.1→∀P,P=doJ j1 ⟨2,0,3,0,⟨#[120]⟩⟩→P.2.code=0∧∀j2,j2=P.1→∀P,P=doJ j2 ⟨9,0,3,0,⟨#[]⟩⟩→P.2.n=1∧P.2.text=z∧∀j3,j3=P.1→∀P,P=doJ j3 ⟨6,0,0,0,⟨#[]⟩⟩→P.2.code=9∧True):=by
  rintro P rfl;refine⟨z5o,?_⟩;rintro j1 rfl P rfl;refine⟨z5p,?_⟩;rintro j2 rfl P rfl;refine⟨z3s.1,z3s.2.trans HZ.o.symm,?_⟩;rintro j3 rfl P rfl;exact⟨z5q,trivial⟩
 clear R F;obtain⟨j0,C8⟩:∃j0,j0=z1h:=⟨_,rfl⟩;rw[←C8]at B5 B3 C9;clear C8;go_wp2_with fail;refine(zir B [B] j0 w1 B5.o (fun x K=>by rw[List.mem_singleton.1 K];omega) B3.o.ready ⟨1,0,0,2,⟨#[]⟩⟩ (by decide) (by decide)).mono ?_;rintro e i ⟨rfl,R,I⟩;obtain⟨P,U⟩:∃P,P=doJ j0 ⟨1,0,0,2,⟨#[]⟩⟩:=⟨_,rfl⟩;have B9:Hid (PJ P.1):=by rw[U];exact B3.o.do _
 have C6:=zaa (C9.o P U);rw[←U]at R⊢
 have Y:vRp P.2=.agg #[.int .i64 0,.int .i64 P.2.n,.string P.2.text]:=by
  show Value.agg #[.int .i64 P.2.code,.int .i64 P.2.n,.string P.2.text]=_;rw[C6.o.1]
 rw[Y];obtain⟨j1,B8⟩:∃x,x=P.1:=⟨_,rfl⟩;rw[←B8]at B9 R;have F2:=zaa (C6.o.2 j1 B8);clear B8 Y;generalize P.2.n=n1 at *;generalize P.2.text=t1 at *;generalize P.2.code=c1 at *;clear U;have B7:w1.heap.size≤i.heap.size:=I.size
 have C0:Hid (Below w.heap.size w i):=by
  have K:=C3.o;exact⟨I.os.trans K.os,I.tape.trans K.tape,I.output.trans K.output,Nat.le_trans K.size I.size,fun q hq=>(I.block q (by have:=K.size;omega) (by simp;omega)).trans (K.block q hq)⟩
 go_wp2_with fail;obtain⟨W1,N⟩:∃W,W=i.alloc (.cells #[.int .i64 0,.int .i64 n1,.string t1] 31):=⟨_,rfl⟩;rw[←N];have F:Below i.heap.size i W1:=by rw[N];exact zab _ _
 have E8:=zaa (R.below F);have A7:=zaa (zae C0.o F);have F3:W1.heap.size=i.heap.size+1:=by rw[N];simp
 have J:Hid (W1.heap[i.heap.size]?=some (.cells #[.int .i64 0,.int .i64 n1,.string t1] 31 (0,0))):=by rw[N];exact heap_alloc_new _ _
 clear N F R I C0 C3;refine(zir B [B] j1 W1 E8.o (fun x K=>by rw[List.mem_singleton.1 K];omega) B9.o.ready ⟨2,0,3,0,⟨#[120]⟩⟩ (by decide) (by decide)).mono ?_;rintro e d ⟨rfl,R,I⟩;obtain⟨P,U⟩:∃P,P=doJ j1 ⟨2,0,3,0,⟨#[120]⟩⟩:=⟨_,rfl⟩;have C2:Hid (PJ P.1):=by rw[U];exact B9.o.do _
 have D2:=zaa (F2.o P U);rw[←U]at R⊢
 have Y:vRp P.2=.agg #[.int .i64 0,.int .i64 P.2.n,.string P.2.text]:=by
  show Value.agg #[.int .i64 P.2.code,.int .i64 P.2.n,.string P.2.text]=_;rw[D2.o.1]
 rw[Y];obtain⟨j2,A9⟩:∃x,x=P.1:=⟨_,rfl⟩;rw[←A9]at C2 R;have F1:=zaa (D2.o.2 j2 A9);clear A9 Y;generalize P.2.n=n2 at *;generalize P.2.text=t2 at *;generalize P.2.code=c2 at *;clear U;have B7:W1.heap.size≤d.heap.size:=I.size;have L:=zaa ((I.block _ (by omega) (by simp;omega)).trans J.o);clear J;have J:=L;clear L
 have B6:Hid (Below w.heap.size w d):=by
  have K:=A7.o;exact⟨I.os.trans K.os,I.tape.trans K.tape,I.output.trans K.output,Nat.le_trans K.size I.size,fun q hq=>(I.block q (by have:=K.size;omega) (by simp;omega)).trans (K.block q hq)⟩
 go_wp2_with fail;obtain⟨W2,N⟩:∃W,W=d.alloc (.cells #[.int .i64 0,.int .i64 n2,.string t2] 31):=⟨_,rfl⟩;rw[←N];have F:Below d.heap.size d W2:=by rw[N];exact zab _ _
 have E7:=zaa (R.below F);have A8:=zaa (zae B6.o F);have F6:W2.heap.size=d.heap.size+1:=by rw[N];simp
 have M:Hid (W2.heap[d.heap.size]?=some (.cells #[.int .i64 0,.int .i64 n2,.string t2] 31 (0,0))):=by rw[N];exact heap_alloc_new _ _
 have L:=zaa (zad F (by omega) J.o);clear J;have J:=L;clear L;clear N F R I B6 A7;refine(zir B [B] j2 W2 E7.o (fun x K=>by rw[List.mem_singleton.1 K];omega) C2.o.ready ⟨9,0,3,0,⟨#[]⟩⟩ (by decide) (by decide)).mono ?_;rintro e c ⟨rfl,R,I⟩;obtain⟨P,U⟩:∃P,P=doJ j2 ⟨9,0,3,0,⟨#[]⟩⟩:=⟨_,rfl⟩;have B4:Hid (PJ P.1):=by rw[U];exact C2.o.do _
 have A6:=zaa (F1.o P U);rw[←U]at R⊢
 have Y:vRp P.2=.agg #[.int .i64 P.2.code,.int .i64 1,.string z]:=by
  show Value.agg #[.int .i64 P.2.code,.int .i64 P.2.n,.string P.2.text]=_;rw[A6.o.1,A6.o.2.1]
 rw[Y];obtain⟨j3,B1⟩:∃x,x=P.1:=⟨_,rfl⟩;rw[←B1]at B4 R;have E1:=zaa (A6.o.2.2 j3 B1);clear B1 Y;generalize P.2.n=n3 at *;generalize P.2.text=t3 at *;generalize P.2.code=c3 at *;clear U;have B7:W2.heap.size≤c.heap.size:=I.size;have L:=zaa ((I.block _ (by omega) (by simp;omega)).trans J.o);clear J;have J:=L;clear L;have Q:=zaa ((I.block _ (by omega) (by simp;omega)).trans M.o);clear M;have M:=Q;clear Q
 have B0:Hid (Below w.heap.size w c):=by
  have K:=A8.o;exact⟨I.os.trans K.os,I.tape.trans K.tape,I.output.trans K.output,Nat.le_trans K.size I.size,fun q hq=>(I.block q (by have:=K.size;omega) (by simp;omega)).trans (K.block q hq)⟩
 go_wp2_with fail;obtain⟨W3,N⟩:∃W,W=c.alloc (.cells #[.int .i64 c3,.int .i64 1,.string z] 31):=⟨_,rfl⟩;rw[←N];have F:Below c.heap.size c W3:=by rw[N];exact zab _ _
 have E0:=zaa (R.below F);have B2:=zaa (zae B0.o F);have F4:W3.heap.size=c.heap.size+1:=by rw[N];simp
 have X:Hid (W3.heap[c.heap.size]?=some (.cells #[.int .i64 c3,.int .i64 1,.string z] 31 (0,0))):=by rw[N];exact heap_alloc_new _ _
 have L:=zaa (zad F (by omega) J.o);clear J;have J:=L;clear L;have Q:=zaa (zad F (by omega) M.o);clear M;have M:=Q;clear Q;clear N F R I B0 A8;refine(zir B [B] j3 W3 E0.o (fun x K=>by rw[List.mem_singleton.1 K];omega) B4.o.ready ⟨6,0,0,0,⟨#[]⟩⟩ (by decide) (by decide)).mono ?_;rintro e Z ⟨rfl,R,I⟩;obtain⟨P,U⟩:∃P,P=doJ j3 ⟨6,0,0,0,⟨#[]⟩⟩:=⟨_,rfl⟩;have E4:Hid (PJ P.1):=by rw[U];exact B4.o.do _
 have F0:=zaa (E1.o P U);rw[←U]at R⊢
 have Y:vRp P.2=.agg #[.int .i64 9,.int .i64 P.2.n,.string P.2.text]:=by
  show Value.agg #[.int .i64 P.2.code,.int .i64 P.2.n,.string P.2.text]=_;rw[F0.o.1]
 rw[Y];obtain⟨j4,D3⟩:∃x,x=P.1:=⟨_,rfl⟩;rw[←D3]at E4 R;clear D3 Y;generalize P.2.n=n4 at *;generalize P.2.text=t4 at *;generalize P.2.code=c4 at *;clear U;have B7:W3.heap.size≤Z.heap.size:=I.size;have L:=zaa ((I.block _ (by omega) (by simp;omega)).trans J.o);clear J;have J:=L;clear L;have Q:=zaa ((I.block _ (by omega) (by simp;omega)).trans M.o);clear M;have M:=Q;clear Q;have j:=zaa ((I.block _ (by omega) (by simp;omega)).trans X.o);clear X;have X:=j;clear j
 have A3:Hid (Below w.heap.size w Z):=by
  have K:=B2.o;exact⟨I.os.trans K.os,I.tape.trans K.tape,I.output.trans K.output,Nat.le_trans K.size I.size,fun q hq=>(I.block q (by have:=K.size;omega) (by simp;omega)).trans (K.block q hq)⟩
 go_wp2;rename_i KK A4;obtain⟨W4,N⟩:∃W,W=Z.alloc (.cells #[.int .i64 9,.int .i64 n4,.string t4] 31):=⟨_,rfl⟩;rw[←N];have F:Below Z.heap.size Z W4:=by rw[N];exact zab _ _
 have F8:=zaa (R.below F);have C1:=zaa (zae A3.o F);have F5:W4.heap.size=Z.heap.size+1:=by rw[N];simp
 have r:Hid (W4.heap[Z.heap.size]?=some (.cells #[.int .i64 9,.int .i64 n4,.string t4] 31 (0,0))):=by rw[N];exact heap_alloc_new _ _
 have L:=zaa (zad F (by omega) J.o);clear J;have J:=L;clear L;have Q:=zaa (zad F (by omega) M.o);clear M;have M:=Q;clear Q;have j:=zaa (zad F (by omega) X.o);clear X;have X:=j;clear j;clear N F R I A3 B2;obtain⟨R1,s⟩:∃x,x=i.heap.size:=⟨_,rfl⟩;obtain⟨R2,y⟩:∃x,x=d.heap.size:=⟨_,rfl⟩;obtain⟨l,m⟩:∃x,x=c.heap.size:=⟨_,rfl⟩;obtain⟨u,A1⟩:∃x,x=Z.heap.size:=⟨_,rfl⟩;obtain⟨W,N⟩:∃x,x=W4:=⟨_,rfl⟩;rw[←s]at J;rw[←y]at M;rw[←m]at X;rw[←A1]at r;rw[←N]at J M X r C1;rw[←s,←y,←m,←A1,←N];have E6:Hid (W.cell? ⟨R1,0,none⟩=some (.int .i64 0)):=(cell_of_row W _ 0 _ _ _ J.o).trans rfl;have G4:Hid (W.cell? ⟨R1,1,none⟩=some (.int .i64 n1)):=(cell_of_row W _ 1 _ _ _ J.o).trans rfl;have G6:Hid (W.cell? ⟨R1,2,none⟩=some (.string t1)):=(cell_of_row W _ 2 _ _ _ J.o).trans rfl;have D8:Hid (W.cell? ⟨R2,0,none⟩=some (.int .i64 0)):=(cell_of_row W _ 0 _ _ _ M.o).trans rfl;have F9:Hid (W.cell? ⟨R2,1,none⟩=some (.int .i64 n2)):=(cell_of_row W _ 1 _ _ _ M.o).trans rfl;have G0:Hid (W.cell? ⟨R2,2,none⟩=some (.string t2)):=(cell_of_row W _ 2 _ _ _ M.o).trans rfl;have G2:Hid (W.cell? ⟨l,0,none⟩=some (.int .i64 c3)):=(cell_of_row W _ 0 _ _ _ X.o).trans rfl;have E3:Hid (W.cell? ⟨l,1,none⟩=some (.int .i64 1)):=(cell_of_row W _ 1 _ _ _ X.o).trans rfl;have E2:Hid (W.cell? ⟨l,2,none⟩=some (.string z)):=(cell_of_row W _ 2 _ _ _ X.o).trans rfl;have E9:Hid (W.cell? ⟨u,0,none⟩=some (.int .i64 9)):=(cell_of_row W _ 0 _ _ _ r.o).trans rfl;have G3:Hid (W.cell? ⟨u,1,none⟩=some (.int .i64 n4)):=(cell_of_row W _ 1 _ _ _ r.o).trans rfl;have F7:Hid (W.cell? ⟨u,2,none⟩=some (.string t4)):=(cell_of_row W _ 2 _ _ _ r.o).trans rfl;have D6:R1<W.heap.size:=(Array.getElem?_eq_some_iff.1 J.o).1;have D7:R2<W.heap.size:=(Array.getElem?_eq_some_iff.1 M.o).1;have D4:l<W.heap.size:=(Array.getElem?_eq_some_iff.1 X.o).1;have D5:u<W.heap.size:=(Array.getElem?_eq_some_iff.1 r.o).1
 clear s y m A1 N;have s:=D6;have y:=D7;have m:=D4;have A1:=D5
 have A5:∀(g:Nat→Value) (W':World),Below W.heap.size W W'→KK ⟨#[.bool true,g 1,g 2,g 3,g 4,g 5,g 6,g 7,g 8,g 9,g 10,g 11,g 12,g 13,g 14,g 15,g 16,g 17,g 18,g 19,g 20,g 21,g 22,g 23,g 24,g 25,g 26,g 27,g 28,g 29,g 30,g 31,g 32,g 33,g 34,g 35,g 36,g 37,g 38,g 39,g 40,g 41,g 42,g 43,g 44],[]⟩ W':=by
  intro g W' hb;apply A4;clear A4;go_wp2;go_ret;exact⟨rfl,zae C1.o hb⟩
 have C4:=zaa A5;clear A5 A4;refine(show∀A0:Act,A0=_→Code.wp Tryz.prog _ _ A0 _ from fun A0 hA0=>?_) _ rfl;have E:A0.tmps.size=45:=by rw[hA0];rfl
 have D9:A0.defers=[]:=by rw[hA0]
 have v2:A0.eval (.tmp 2)=.pointer (some ⟨R1,0,none⟩):=by rw[hA0];rfl
 have v3:A0.eval (.tmp 3)=.pointer (some ⟨R2,0,none⟩):=by rw[hA0];rfl
 have v4:A0.eval (.tmp 4)=.pointer (some ⟨l,0,none⟩):=by rw[hA0];rfl
 have v5:A0.eval (.tmp 5)=.pointer (some ⟨u,0,none⟩):=by rw[hA0];rfl
 clear hA0;refine zdz (fun w'=>Below W.heap.size W w') [21,22,23,24,25,26,27,28,29,30,31,32,33,34,35,36,37,38,39,40,41,42,43,44,0] (zvg R1 R2 l u z) (by kernel_rfl) (by kernel_rfl) (by kernel_rfl) ((Below.refl _ _).drew) ⟨?_,?_,?_,?_,?_,?_,?_,?_,?_,?_,?_,?_,?_,?_,?_,?_,?_,?_,?_,?_,?_,?_,?_,?_,?_,trivial⟩ ?_
 ·exact zbh v2 E (fun _=>rfl) fun ρ w' C z=>by simp only[execOp];go_simp
 ·exact zam 0 21 E (fun _ _ h=>h) (fun _=>rfl) fun ρ w' C p=>by have c0:w'.cell? ⟨R1,0,none⟩=some (.int .i64 0):=zac C s E6.o;simp only[execOp];go_simp
 ·intro a w' D C A;have D1:a.eval (.tmp 22)=.int .i64 0:=A ⟨1,.data⟩ (by simp) rfl;exact zf6 _ rfl rfl (by have S:=Act.eval_const a (.int .i64 0);revert D1 S;generalize a.eval=ρ;intro D1 S;simp only[execOp];go_simp) D E C rfl
 ·exact zam 2 23 E (fun _ _ h=>h) (fun _=>rfl) fun ρ w' C p=>by simp only[execOp];go_simp
 ·intro a w' D C A;have O:a.eval (.tmp 24)=.bool true:=A ⟨3,Ground.guard⟩ (by simp) rfl;have z3:=(D.other 3 rfl).trans v3;exact zej _ rfl (zbk (b:=true) rfl rfl O) (by revert z3;generalize a.eval=ρ;intro z3;simp only[execOp];go_simp) D E C rfl
 ·intro a w' D C A;have O:a.eval (.tmp 24)=.bool true:=A ⟨3,Ground.guard⟩ (by simp) rfl;have p25:a.eval (.tmp 25)=.pointer (some ⟨R2,0,none⟩):=A ⟨4,.data⟩ (by simp) rfl;have c0:w'.cell? ⟨R2,0,none⟩=some (.int .i64 0):=zac C y D8.o;exact zej _ rfl (zbk (b:=true) rfl rfl O) (by revert p25;generalize a.eval=ρ;intro p25;simp only[execOp];go_simp) D E C rfl
 ·intro a w' D C A;have O:a.eval (.tmp 24)=.bool true:=A ⟨3,Ground.guard⟩ (by simp) rfl;have p26:a.eval (.tmp 26)=.int .i64 0:=A ⟨5,.data⟩ (by simp) rfl;exact zej _ rfl (zbk (b:=true) rfl rfl O) (by have S:=Act.eval_const a (.int .i64 0);revert p26 S;generalize a.eval=ρ;intro p26 S;simp only[execOp];go_simp) D E C rfl
 ·intro a w' D C A;have C7:a.eval (.tmp 24)=.bool true:=A ⟨3,.data⟩ (by simp) rfl;have p27:a.eval (.tmp 27)=.bool true:=A ⟨6,.data⟩ (by simp) rfl;exact zf6 _ rfl rfl (by revert C7 p27;generalize a.eval=ρ;intro C7 p27;simp only[execOp];go_simp) D E C rfl
 ·exact zam 7 28 E (fun _ _ h=>h) (fun _=>rfl) fun ρ w' C p=>by simp only[execOp];go_simp
 ·intro a w' D C A;have O:a.eval (.tmp 29)=.bool true:=A ⟨8,Ground.guard⟩ (by simp) rfl;have z4:=(D.other 4 rfl).trans v4;exact zej _ rfl (zbk (b:=true) rfl rfl O) (by revert z4;generalize a.eval=ρ;intro z4;simp only[execOp];go_simp) D E C rfl
 ·intro a w' D C A;have O:a.eval (.tmp 29)=.bool true:=A ⟨8,Ground.guard⟩ (by simp) rfl;have p30:a.eval (.tmp 30)=.pointer (some ⟨l,2,none⟩):=A ⟨9,.data⟩ (by simp) rfl;have c0:w'.cell? ⟨l,2,none⟩=some (.string z):=zac C m E2.o;exact zej _ rfl (zbk (b:=true) rfl rfl O) (by revert p30;generalize a.eval=ρ;intro p30;simp only[execOp];go_simp) D E C rfl
 ·intro a w' D C A;have O:a.eval (.tmp 29)=.bool true:=A ⟨8,Ground.guard⟩ (by simp) rfl;refine znt 25 #[.string ⟨#[120]⟩] rfl (zbk (b:=true) rfl rfl O) (by have pf:=Act.eval_func a 25;have S:=Act.eval_const a (.string ⟨#[120]⟩);revert pf S;generalize a.eval=ρ;intro pf S;simp only[execOp];go_simp) _ (zgt ⟨#[120]⟩ _ (by decide)) ?_;rintro e w2 ⟨rfl,C5⟩;refine⟨_,rfl,_,rfl,zae C C5,?_,zr2 C5⟩;show zvg _ _ _ _ _ _ ((a.put (some 32) _).eval (.tmp 32)) w2;rw[zax D E (by decide)];rw[←HZ.o];exact rfl
 ·intro a w' D C A;have O:a.eval (.tmp 29)=.bool true:=A ⟨8,Ground.guard⟩ (by simp) rfl;have p31:a.eval (.tmp 31)=.string z:=A ⟨10,.data⟩ (by simp) rfl;have p32:a.eval (.tmp 32)=.string z:=A ⟨11,.data⟩ (by simp) rfl;exact zej _ rfl (zbk (b:=true) rfl rfl O) (by revert p31 p32;generalize a.eval=ρ;intro p31 p32;simp only[execOp];go_simp) D E C rfl
 ·intro a w' D C A;have p29:a.eval (.tmp 29)=.bool true:=A ⟨8,.data⟩ (by simp) rfl;have p33:a.eval (.tmp 33)=.bool true:=A ⟨12,.data⟩ (by simp) rfl;exact zf6 _ rfl rfl (by revert p29 p33;generalize a.eval=ρ;intro p29 p33;simp only[execOp];go_simp) D E C rfl
 ·exact zam 13 34 E (fun _ _ h=>h) (fun _=>rfl) fun ρ w' C p=>by simp only[execOp];go_simp
 ·intro a w' D C A;have O:a.eval (.tmp 35)=.bool true:=A ⟨14,Ground.guard⟩ (by simp) rfl;have z4:=(D.other 4 rfl).trans v4;exact zej _ rfl (zbk (b:=true) rfl rfl O) (by revert z4;generalize a.eval=ρ;intro z4;simp only[execOp];go_simp) D E C rfl
 ·intro a w' D C A;have O:a.eval (.tmp 35)=.bool true:=A ⟨14,Ground.guard⟩ (by simp) rfl;have p36:a.eval (.tmp 36)=.pointer (some ⟨l,1,none⟩):=A ⟨15,.data⟩ (by simp) rfl;have c0:w'.cell? ⟨l,1,none⟩=some (.int .i64 1):=zac C m E3.o;exact zej _ rfl (zbk (b:=true) rfl rfl O) (by revert p36;generalize a.eval=ρ;intro p36;simp only[execOp];go_simp) D E C rfl
 ·intro a w' D C A;have O:a.eval (.tmp 35)=.bool true:=A ⟨14,Ground.guard⟩ (by simp) rfl;have p37:a.eval (.tmp 37)=.int .i64 1:=A ⟨16,.data⟩ (by simp) rfl;exact zej _ rfl (zbk (b:=true) rfl rfl O) (by have S:=Act.eval_const a (.int .i64 1);revert p37 S;generalize a.eval=ρ;intro p37 S;simp only[execOp];go_simp) D E C rfl
 ·intro a w' D C A;have p35:a.eval (.tmp 35)=.bool true:=A ⟨14,.data⟩ (by simp) rfl;have p38:a.eval (.tmp 38)=.bool true:=A ⟨17,.data⟩ (by simp) rfl;exact zf6 _ rfl rfl (by revert p35 p38;generalize a.eval=ρ;intro p35 p38;simp only[execOp];go_simp) D E C rfl
 ·exact zam 18 39 E (fun _ _ h=>h) (fun _=>rfl) fun ρ w' C p=>by simp only[execOp];go_simp
 ·intro a w' D C A;have O:a.eval (.tmp 40)=.bool true:=A ⟨19,Ground.guard⟩ (by simp) rfl;have z5:=(D.other 5 rfl).trans v5;exact zej _ rfl (zbk (b:=true) rfl rfl O) (by revert z5;generalize a.eval=ρ;intro z5;simp only[execOp];go_simp) D E C rfl
 ·intro a w' D C A;have O:a.eval (.tmp 40)=.bool true:=A ⟨19,Ground.guard⟩ (by simp) rfl;have p41:a.eval (.tmp 41)=.pointer (some ⟨u,0,none⟩):=A ⟨20,.data⟩ (by simp) rfl;have c0:w'.cell? ⟨u,0,none⟩=some (.int .i64 9):=zac C A1 E9.o;exact zej _ rfl (zbk (b:=true) rfl rfl O) (by revert p41;generalize a.eval=ρ;intro p41;simp only[execOp];go_simp) D E C rfl
 ·intro a w' D C A;have O:a.eval (.tmp 40)=.bool true:=A ⟨19,Ground.guard⟩ (by simp) rfl;have p42:a.eval (.tmp 42)=.int .i64 9:=A ⟨21,.data⟩ (by simp) rfl;exact zej _ rfl (zbk (b:=true) rfl rfl O) (by have S:=Act.eval_const a (.int .i64 9);revert p42 S;generalize a.eval=ρ;intro p42 S;simp only[execOp];go_simp) D E C rfl
 ·intro a w' D C A;have p40:a.eval (.tmp 40)=.bool true:=A ⟨19,.data⟩ (by simp) rfl;have p43:a.eval (.tmp 43)=.bool true:=A ⟨22,.data⟩ (by simp) rfl;exact zf6 _ rfl rfl (by revert p40 p43;generalize a.eval=ρ;intro p40 p43;simp only[execOp];go_simp) D E C rfl
 ·exact zam 23 44 E (fun _ _ h=>h) (fun _=>rfl) fun ρ w' C p=>by simp only[execOp];go_simp
 ·intro a W' D C A;have p0:a.eval (.tmp 0)=.bool true:=A 24 (by decide);have E5:a.tmps.size=45:=D.size.trans E;have A2:a=⟨#[_,_,_,_,_,_,_,_,_,_,_,_,_,_,_,_,_,_,_,_,_,_,_,_,_,_,_,_,_,_,_,_,_,_,_,_,_,_,_,_,_,_,_,_,_],[]⟩:=zci a 45 E5 (D.defers.trans D9);dsimp only at A2;rw[p0]at A2;show KK a _;exact(congrArg (fun x=>KK x _) A2).mpr (C4.o (fun k=>a.eval (.tmp k)) _ C)
section
variable (j:Jn) (D:Dk) (j':Jn) (D':Dk) (b:Nat)
structure SameB:Prop where
 hi:zai b j'.now.info=zai b j.now.info
 hd:zai b j'.now.data=zai b j.now.data
 hv:za7 j'.now.rev b=za7 j.now.rev b
 hq:j'.now.seq=j.now.seq
 hs:j'.sealed=j.sealed
 hdn:j'.done=j.done
 hr:j'.role b=j.role b
 hf:j'.freed b=j.freed b
 hl:j'.last=j.last
 hD:D'=D
structure WriteB (s:ByteArray):Prop where
 hi:zai b j'.now.info=some s
 hd0:zai b j.now.data=none
 hd:zai b j'.now.data=none
 hv:za7 j'.now.rev b=false
 hq:j'.now.seq=j.now.seq
 hs:j'.sealed=j.sealed
 hdn:j'.done=j.done
 hr:j'.role b=1
 hr0:j.role b≠2
 hf:j'.freed b=j.freed b
 hl:j'.last=j.last
 hD:D'=D
structure FillB (s:ByteArray):Prop where
 hi0:zai b j.now.info=none
 hv0:za7 j.now.rev b=false
 hi:zai b j'.now.info=none
 hv:za7 j'.now.rev b=false
 hd:zai b j'.now.data=some s
 hq:j'.now.seq=j.now.seq
 hs:j'.sealed=j.sealed
 hdn:j'.done=j.done
 hr:j'.role b=2
 hr0:j.role b≠1
 hf0:j.freed b≤j.last
 hf:j'.freed b=j.freed b
 hl:j'.last=j.last
 hD:D'=D
structure RevokeB:Prop where
 hi:zai b j'.now.info=none
 hd:zai b j'.now.data=none
 hv:za7 j'.now.rev b=true
 hq:j'.now.seq=j.now.seq
 hs:j'.sealed=j.sealed
 hdn:j'.done=j.done
 hr:j'.role b=0
 hr0:j.role b≠0
 hf:j'.freed b=j.now.seq
 hl:j'.last=j.last
 hD:D'=D
structure CommitB:Prop where
 hz:j.sealed=zc5 0
 hs:j'.sealed=j.now
 hn:j'.now=zc5 (j.now.seq+1)
 hq:j.now.seq=j.last+1
 hdn:j'.done=j.done
 hr:j'.role b=j.role b
 hf:j'.freed b=j.freed b
 hl:j'.last=j.last
 hD:D'=D
structure ThroughB:Prop where
 hs:j'.sealed=zc5 0
 hn:j'.now=j.now
 hse:j.sealed.seq=j.last+1
 hq:j.now.seq=j.last+2
 hdn:j'.done=j.done++[j.sealed]
 hr:j'.role b=j.role b
 hf:j'.freed b=j.freed b
 hl:j'.last=j.last+1
 hh:zal D' ((25+b:Nat):Int)=(zai b j.sealed.data).getD (zal D ((25+b:Nat):Int))
structure HomeB:Prop where
 hz:j.sealed=zc5 0
 hs:j'.sealed=zc5 0
 hn:j'.now=j.now
 hdn:j'.done=[]
 hr:j'.role b=j.role b
 hf:j'.freed b=j.freed b
 hl:j'.last=j.last
 hh:zal D' ((25+b:Nat):Int)=(newestF j.done b).getD (zal D ((25+b:Nat):Int))
inductive KpB:Prop
 |same (h:SameB j D j' D' b)
 |commit (h:CommitB j D j' D' b)
 |through (h:ThroughB j D j' D' b)
 |home (h:HomeB j D j' D' b)
inductive EvB:Prop
 |keep (h:KpB j D j' D' b)
 |write (s:ByteArray) (h:WriteB j D j' D' b s)
 |fill (s:ByteArray) (h:FillB j D j' D' b s)
 |revoke (h:RevokeB j D j' D' b)
end
inductive Ev (j:Jn)(D:Dk)(a:Ac)(j':Jn)(r:Rp)(D':Dk):Prop
 |calm (hd:j'.down=j.down) (hD:D'=D) (all:∀b:Nat,b<12→SameB j D j' D' b) (hk:r.code=0→a.kind≠2∧a.kind≠3∧a.kind≠4∧a.kind≠6∧a.kind≠10) (h8:a.kind=8→r.n=0)
   (h9:r.code=0→a.kind=9→∃b:Nat,b<12∧a.b=b∧textJ j b=(r.text,0)∧j.down=false)
 |write (b:Nat) (hb:b<12) (hab:a.b=b) (hk:a.kind=2) (hu:j.down=false) (hu':j'.down=false) (hc:r=zaq 0) (here:WriteB j D j' D' b (fitT a.text)) (others:∀x:Nat,x<12→x≠b→SameB j D j' D' x)
 |fill (b:Nat) (hb:b<12) (hab:a.b=b) (hk:a.kind=3) (hu:j.down=false) (hu':j'.down=false) (hc:r=zaq 0) (here:FillB j D j' D' b (fitT a.text)) (others:∀x:Nat,x<12→x≠b→SameB j D j' D' x)
 |revoke (b:Nat) (hb:b<12) (hab:a.b=b) (hk:a.kind=4) (hu:j.down=false) (hu':j'.down=false) (hc:r=zaq 0) (here:RevokeB j D j' D' b) (others:∀x:Nat,x<12→x≠b→SameB j D j' D' x)
 |commit (hk:a.kind=6) (hu:j.down=false) (hu':j'.down=false) (hc:r.code=0) (hn:r.n=j.last+1) (all:∀b:Nat,CommitB j D j' D' b)
 |through (hk:a.kind=8) (hu:j.down=false) (hu':j'.down=false) (hc:r.code=0) (hn:r.n=j.last+1) (all:∀b:Nat,b<12→ThroughB j D j' D' b)
 |home (hk:a.kind=8) (hu:j.down=false) (hu':j'.down=false) (hc:r=zaq 0) (all:∀b:Nat,b<12→HomeB j D j' D' b)
 |on (hk:a.kind=8) (hd:j.down=true) (hu':j'.down=false) (hc:r=zaq 0) (hl:j'.last=fndN D - 1) (hs:j'.sealed=zc5 0) (hn:j'.now=zc5 (fndN D)) (hdn:j'.done=[]) (hr:∀b:Nat,j'.role b=zcr (fndL D).reverse b) (hf:∀b:Nat,j'.freed b=0)
   (hdk:j'.disk=D') (hh:∀b:Nat,b<12→zal D' ((25+b:Nat):Int)=zo2 D b)
 |crash (hk:a.kind=10) (hu':j'.down=true) (hc:r=zaq 0) (hl:j'.last=j.last) (left:Left j D D')
theorem zld(f:Nat→Int){b:Int}{k:Nat}(x:Int)(h:b=k):upd f b x k=x:=by rw[upd,if_pos h.symm]
theorem zvh(f:Nat→Int){b:Int}{k:Nat}(x:Int)(h:b≠k):upd f b x k=f k:=by rw[upd,if_neg (fun e=>h e.symm)]
theorem zkq{l r:List (Int×ByteArray)}{x:Int}(hl:Up (·.1) l)(hr:Up (·.1) r)(h:l.filter (fun y=>decide (y.1=x))=r.filter (fun y=>decide (y.1=x))):zai x l=zai x r:=by
 have A:=zgd hl x;have B:=zgd hr x;rw[h,B]at A
 cases e1:zai x l with
 |none=>
  cases e2:zai x r with
  |none=>rfl
  |some s=>rw[e1,e2]at A;simp at A
 |some s=>
  cases e2:zai x r with
  |none=>rw[e1,e2]at A;simp at A
  |some u=>rw[e1,e2]at A;simp at A;rw[A]
theorem zmj{l:List (Int×ByteArray)}(h:Up (·.1) l){b x:Int}(s:ByteArray)(hx:x≠b):zai x (zbj (·.1) l b (b,s))=zai x l:=
 zkq (zuq h rfl) h (z4y b (b,s) rfl x hx)
theorem zkr{l:List (Int×ByteArray)}(h:Up (·.1) l){b x:Int}(hx:x≠b):zai x (zay (·.1) l b)=zai x l:=by
 refine zkq (zsg h b) h ?_;rw[zsh h,List.filter_filter];refine List.filter_congr fun y _=>?_;by_cases e:y.1=x
 ·simp[e,hx]
 ·simp[e]
theorem zn0{l r:List Int}{x y:Int}(h:x∈l↔y∈r):za7 l x=za7 r y:=by
 cases e1:za7 l x with
 |true=>rw[zei.1 (h.1 (zei.2 e1))]
 |false=>
  cases e2:za7 r y with
  |false=>rfl
  |true=>rw[zei.1 (h.2 (zei.2 e2))]at e1;cases e1
theorem zpi(l:List Int){b x:Int}(hx:x≠b):za7 (zay id l b) x=za7 l x:=zn0 ⟨fun h=>(zeb.1 h).1,fun h=>zeb.2 ⟨h,hx⟩⟩
theorem zr3(l:List Int){b x:Int}(hx:x≠b):za7 (zbj id l b b) x=za7 l x:=zn0 ⟨fun h=>by
 rcases zfo.1 h with e|e
 ·exact absurd e hx
 ·exact e.1,fun h=>zfo.2 (.inr ⟨h,hx⟩)⟩
theorem z08(l:List Int)(b:Int):za7 (zbj id l b b) b=true:=zei.1 (zfo.2 (.inl rfl))
theorem zpj{t:Tx}(hg:za9 t=true):Up (·.1) t.info∧Up (·.1) t.data:=by
 have A:=(za3 t).1 hg;exact⟨(zfr _ _).1 ((za5 _).1 A.2.2.1.1).2,(zfr _ _).1 ((za5 _).1 A.2.2.1.2.1).2⟩
section
variable {j:Jn} {D:Dk} {a:Ac} {j':Jn} {r:Rp} {D':Dk}
theorem zn1(t:Tx)(h:Int)(x:Hd):(zfc t h x).info=t.info∧(zfc t h x).data=t.data∧(zfc t h x).rev=t.rev∧(zfc t h x).seq=t.seq:=by
 unfold zfc;split
 ·exact⟨rfl,rfl,rfl,rfl⟩
 split<;>exact⟨rfl,rfl,rfl,rfl⟩
theorem Md.seqs(h:Md j D)(hu:j.down=false):fndL D=j.done.map toldOf∧fndN D=j.last+1∧(j.sealed=zc5 0∧j.now.seq=j.last+1∨j.sealed.seq=j.last+1∧j.now.seq=j.last+2∧za9 j.sealed=true):=by
 cases h with
 |idle p hs hz hD ht hq=>exact⟨ht.tL,ht.tN,.inl ⟨hz,hq⟩⟩
 |commit P U k p hw hk hs hD ht he hse hrh hru hq hN=>exact⟨ht.tL,ht.tN,.inr ⟨hse,hq,(zbs he).2.1⟩⟩
 |check k p hw hz hk hs hD ht hq=>exact⟨ht.tL,ht.tN,.inl ⟨hz,hq⟩⟩
 |off l N P U p hs hf hD ht=>rw[p.off]at hu;cases hu
 |back U k p hw hk hs hD ht=>rw[p.off]at hu;cases hu
theorem z56(h:Md j D)(h':Md j' D')(t:Trans j D a j' r D'):Ev j D a j' r D':=by
 cases t with
 |plain m hp=>
  have refl:∀b:Nat,b<12→SameB j D j D b:=fun b _=>⟨rfl,rfl,rfl,rfl,rfl,rfl,rfl,rfl,rfl,rfl⟩
  cases m with
  |no e he=>exact .calm rfl rfl refl (fun O=>absurd O he) (fun _=>rfl) (fun O=>absurd O he)
  |read hd hk hb ht=>
   refine .calm rfl rfl refl (fun _=>by omega) (fun h8=>by omega) (fun _ _=>⟨a.b.toNat,by omega,by omega,?_,hd⟩);rw[show((a.b.toNat:Nat):Int)=a.b from by omega];exact Prod.ext rfl ht
  |begin hd hk he=>
   obtain⟨Z,S,X,c⟩:=zn1 j.now a.h ⟨true,a.n⟩;have e:zau j.now a.h a.n (24 - j.ru)=zfc j.now a.h ⟨true,a.n⟩:=by rw[zau,if_pos he]
   rw[e];exact .calm rfl rfl (fun b _=>⟨by rw[Z],by rw[S],by rw[X],c,rfl,rfl,rfl,rfl,rfl,rfl⟩) (fun _=>by omega) (fun h8=>by omega) (fun _ h9=>by omega)
  |stop hd hk he=>
   obtain⟨Z,S,X,c⟩:=zn1 j.now a.h ⟨false,0⟩;have e:zb2 j.now a.h=zfc j.now a.h ⟨false,0⟩:=by rw[zb2,if_pos he]
   rw[e];exact .calm rfl rfl (fun b _=>⟨by rw[Z],by rw[S],by rw[X],c,rfl,rfl,rfl,rfl,rfl,rfl⟩) (fun _=>by omega) (fun h8=>by omega) (fun _ h9=>by omega)
  |write hd hk he hr=>
   obtain⟨F,i,R,C⟩:=zjg he;obtain⟨K,I,Y,w,y⟩:=zcd F;obtain⟨u1,u2⟩:=zpj K;obtain⟨n1,u,n3⟩:=zet j.now a.h a.b;have e:zaf j.now a.h a.b (fitT a.text)=ze2 j.now a.h a.b (fitT a.text):=by rw[zaf,if_pos he]
   have A:a.b=((a.b.toNat:Nat):Int):=by omega
   have Q:zai a.b j.now.data=none:=by
    cases hx:zai a.b j.now.data with
    |none=>rfl
    |some s=>rw[hx]at R;cases R
   rw[e];refine .write a.b.toNat (by omega) A hk hd hd rfl ⟨?_,?_,?_,?_,ze7 j.now a.h a.b,rfl,rfl,zld _ _ A,hr,rfl,rfl,rfl⟩ (fun x hx hne=>?_)
   ·rw[←A];exact zu9 _ u1 _ _
   ·rw[←A];exact Q
   ·rw[←A];show zai a.b (nameT j.now a.h a.b).data=none;rw[u];exact Q
   ·rw[←A];exact zwz _ _
   ·have B:(x:Int)≠a.b:=by omega
    exact⟨zmj u1 _ B,by show zai x (nameT j.now a.h a.b).data=_;rw[u],zpi _ B,ze7 j.now a.h a.b,rfl,rfl,zvh _ _ (by omega),rfl,rfl,rfl⟩
  |fill hd hk he hr hf=>
   obtain⟨F,i,C⟩:=zth he;obtain⟨K,I,Y,w,y⟩:=zcd F;obtain⟨u1,u2⟩:=zpj K;have e:zao j.now a.h a.b (fitT a.text)={j.now with data:=zbj (·.1) j.now.data a.b (a.b,fitT a.text)}:=by rw[zao,if_pos he]
   have A:a.b=((a.b.toNat:Nat):Int):=by omega
   have J:zai a.b j.now.info=none∧za7 j.now.rev a.b=false:=by
    unfold zcq at C;simp only[Bool.or_eq_false_iff]at C;refine⟨?_,C.2⟩
    cases hx:zai a.b j.now.info with
    |none=>rfl
    |some s=>rw[hx]at C;cases C.1
   rw[e];refine .fill a.b.toNat (by omega) A hk hd hd rfl ⟨?_,?_,?_,?_,?_,rfl,rfl,rfl,zld _ _ A,hr,hf,rfl,rfl,rfl⟩ (fun x hx hne=>?_)
   ·rw[←A];exact J.1
   ·rw[←A];exact J.2
   ·rw[←A];exact J.1
   ·rw[←A];exact J.2
   ·rw[←A];exact zu9 _ u2 _ _
   ·have B:(x:Int)≠a.b:=by omega
    exact⟨rfl,zmj u2 _ B,rfl,rfl,rfl,rfl,zvh _ _ (by omega),rfl,rfl,rfl⟩
  |revoke hd hk he hr=>
   obtain⟨F,A0,C⟩:=zjh he;obtain⟨K,I,Y,w,y⟩:=zcd F;obtain⟨u1,u2⟩:=zpj K;have e:zag j.now a.h a.b=ze3 j.now a.h a.b:=by rw[zag,if_pos he]
   have A:a.b=((a.b.toNat:Nat):Int):=by omega
   have L:(ze3 j.now a.h a.b).seq=j.now.seq:=ze7 j.now a.h a.b;rw[e];refine .revoke a.b.toNat (by omega) A hk hd hd rfl ⟨?_,?_,?_,L,rfl,rfl,zld _ _ A,hr,(zld _ _ A).trans L,rfl,rfl⟩ (fun x hx hne=>?_)
   ·rw[←A];exact zqz _ _
   ·rw[←A];exact zqz _ _
   ·rw[←A];exact z08 _ _
   ·have B:(x:Int)≠a.b:=by omega
    exact⟨zkr u1 B,zkr u2 B,zr3 _ B,L,rfl,rfl,zvh _ _ (by omega),zvh _ _ (by omega),rfl,rfl⟩
  |commit hd hk hs Y hm z he=>
   have E:j.sealed=zc5 0∧j.now.seq=j.last+1:=by
    cases h with
    |idle p hs2 E hD ht hq2=>exact⟨E,hq2⟩
    |commit P U k p hw hk2 hs2 hD ht he2 hse hrh hru hq2 hN=>
     rw[hs]at hs2;have:=congrArg List.length hs2;rw[List.length_drop]at this;simp at this;omega
    |check k p hw E hk2 hs2 hD ht hq2=>exact⟨E,hq2⟩
    |off l N P U p hs2 hf hD ht=>rw[p.off]at hd;cases hd
    |back U k p hw hk2 hs2 hD ht=>rw[p.off]at hd;cases hd
   exact .commit hk hd hd rfl E.2 (fun b=>⟨E.1,rfl,rfl,E.2,rfl,rfl,rfl,rfl,rfl⟩)
  |check hd hk hs hn he=>exact .calm rfl rfl (fun b _=>⟨rfl,rfl,rfl,rfl,rfl,rfl,rfl,rfl,rfl,rfl⟩) (fun _=>by omega) (fun h8=>by omega) (fun _ h9=>by omega)
  |step hk s q hs he hr=>exact .calm rfl rfl (fun b _=>⟨rfl,rfl,rfl,rfl,rfl,rfl,rfl,rfl,rfl,rfl⟩) (fun _=>by omega) (fun _=>rfl) (fun _ h9=>by omega)
  |last hk s hs he=>
   have hc:(zbg {j with disk:=zbc j.disk s,steps:=[]}).2.code=0:=by
    rw[zbg];split
    ·rfl
    split
    ·rfl
    split
    ·rfl
    ·rfl
   obtain⟨s2,q,M,h2,_⟩:=(hp hc).2 hk;rw[hs]at M
   injection M with _ d
   exact absurd d.symm h2
  |crash hk he=>exact absurd hk (hp rfl).1
  |back hk hd hs hE hc=>exact .calm rfl rfl (fun b _=>⟨rfl,rfl,rfl,rfl,rfl,rfl,rfl,rfl,rfl,rfl⟩) (fun _=>by omega) (fun h8=>by omega) (fun _ h9=>by omega)
 |through _ hk hu hse K hN hL I=>
  obtain⟨_,_,d⟩:=h.seqs hu
  have z:j.now.seq=j.last+2:=by
   rcases d with⟨e,_⟩|⟨_,e,_⟩
   ·have O:=h.last0;rw[e]at hse;have:(0:Int)=j.last+1:=hse;omega
   ·exact e
  exact .through hk hu hu rfl hse (fun b hb=>⟨rfl,rfl,hse,z,rfl,rfl,rfl,hse,I b hb⟩)
 |home _ hk hu E hN hL I=>
  obtain⟨M,_,_⟩:=h.seqs hu;exact .home hk hu hu rfl (fun b hb=>⟨E,E,rfl,rfl,rfl,rfl,rfl,by rw[I b hb,zo2,M,zkj]⟩)
 |on _ hk hd hfN hfL hN hL I=>
  refine .on hk hd rfl rfl ?_ rfl ?_ rfl (fun b=>?_) (fun _=>rfl) rfl I
  ·show j.fN - 1=_;rw[hfN]
  ·show zc5 j.fN=_;rw[hfN]
  ·show zcr j.fL.reverse b=_;rw[hfL]
 |crash hk hn _ hX left=>exact .crash hk rfl rfl rfl left
end
theorem z5r{j:Jn}{D:Dk}(h:Md j D)(a:Ac)(h0:0≤j.acts)(h1:j.acts≤400):
  ∃D',Md (doJ j a).1 D'∧0≤(doJ j a).1.acts∧(doJ j a).1.acts≤400∧Ev j D a (doJ j a).1 (doJ j a).2 D':=by
 rcases zr1 h a h0 h1 with⟨h4,h5⟩|⟨h4,h5,D',h6,ht⟩
 ·rw[h5];have A:(zaq 11).code≠0:=by decide
  exact⟨D,h,h0,h1,.calm rfl rfl (fun b _=>⟨rfl,rfl,rfl,rfl,rfl,rfl,rfl,rfl,rfl,rfl⟩) (fun h0=>absurd h0 A) (fun _=>rfl) (fun h0=>absurd h0 A)⟩
 ·refine⟨D',h6,by omega,by omega,?_⟩;have e:=z56 (h.bump (x:=j.acts+1) (by omega)) h6 ht
  cases e with
  |calm a1 a2 a3 a4 a5 a6=>exact .calm a1 a2 (fun b hb=>⟨(a3 b hb).hi,(a3 b hb).hd,(a3 b hb).hv,(a3 b hb).hq,(a3 b hb).hs,(a3 b hb).hdn,(a3 b hb).hr,(a3 b hb).hf,(a3 b hb).hl,(a3 b hb).hD⟩) a4 a5 a6
  |write b a1 a2 a3 a4 a5 a6 x y=>exact .write b a1 a2 a3 a4 a5 a6 ⟨x.hi,x.hd0,x.hd,x.hv,x.hq,x.hs,x.hdn,x.hr,x.hr0,x.hf,x.hl,x.hD⟩ (fun b hb hn=>⟨(y b hb hn).hi,(y b hb hn).hd,(y b hb hn).hv,(y b hb hn).hq,(y b hb hn).hs,(y b hb hn).hdn,(y b hb hn).hr,(y b hb hn).hf,(y b hb hn).hl,(y b hb hn).hD⟩)
  |fill b a1 a2 a3 a4 a5 a6 x y=>exact .fill b a1 a2 a3 a4 a5 a6 ⟨x.hi0,x.hv0,x.hi,x.hv,x.hd,x.hq,x.hs,x.hdn,x.hr,x.hr0,x.hf0,x.hf,x.hl,x.hD⟩ (fun b hb hn=>⟨(y b hb hn).hi,(y b hb hn).hd,(y b hb hn).hv,(y b hb hn).hq,(y b hb hn).hs,(y b hb hn).hdn,(y b hb hn).hr,(y b hb hn).hf,(y b hb hn).hl,(y b hb hn).hD⟩)
  |revoke b a1 a2 a3 a4 a5 a6 x y=>exact .revoke b a1 a2 a3 a4 a5 a6 ⟨x.hi,x.hd,x.hv,x.hq,x.hs,x.hdn,x.hr,x.hr0,x.hf,x.hl,x.hD⟩ (fun b hb hn=>⟨(y b hb hn).hi,(y b hb hn).hd,(y b hb hn).hv,(y b hb hn).hq,(y b hb hn).hs,(y b hb hn).hdn,(y b hb hn).hr,(y b hb hn).hf,(y b hb hn).hl,(y b hb hn).hD⟩)
  |commit a1 a2 a3 a4 a5 y=>exact .commit a1 a2 a3 a4 a5 (fun b=>⟨(y b).hz,(y b).hs,(y b).hn,(y b).hq,(y b).hdn,(y b).hr,(y b).hf,(y b).hl,(y b).hD⟩)
  |through a1 a2 a3 a4 a5 y=>exact .through a1 a2 a3 a4 a5 (fun b hb=>⟨(y b hb).hs,(y b hb).hn,(y b hb).hse,(y b hb).hq,(y b hb).hdn,(y b hb).hr,(y b hb).hf,(y b hb).hl,(y b hb).hh⟩)
  |home a1 a2 a3 a4 y=>exact .home a1 a2 a3 a4 (fun b hb=>⟨(y b hb).hz,(y b hb).hs,(y b hb).hn,(y b hb).hdn,(y b hb).hr,(y b hb).hf,(y b hb).hl,(y b hb).hh⟩)
  |on a1 a2 a3 a4 a5 a6 a7 a8 a9 a10 a11 a12=>exact .on a1 a2 a3 a4 a5 a6 a7 a8 a9 a10 a11 a12
  |crash a1 a2 a3 a4 left=>
   refine .crash a1 a2 a3 a4 ?_
   cases left with
   |all b1 b2 b3 b4=>exact .all b1 b2 b3 b4
   |without b1 b2 b3 b4 b5=>exact .without b1 b2 b3 b4 b5
   |whole b1 b2 b3 b4 b5=>exact .whole b1 b2 b3 b4 b5
def zcs:Ac:=⟨8,0,0,0,⟨#[]⟩⟩
def backAc:Ac:=⟨11,0,0,0,⟨#[]⟩⟩
section
variable {j:Jn} {D:Dk}
theorem zpk{S:List St}{k:Nat}{s:St}{r:List St}(hok:∀s∈S,zdc s)(hl:S.length≤50)(hg:za0 D=true)(hc:D.wr=[])(hs:s::r=S.drop k):doneE (runK D (S.take k)) s=0:=by
 obtain⟨C,_,e3⟩:=zez hs;have B:s∈S:=List.mem_of_getElem? C;have A:=zcn (S.take k) D (fun u hu=>hok u (List.mem_of_mem_take hu)) hg (by rw[hc,List.length_take];simp;omega);refine z4f (hok s B) A.1 ?_;have:=A.2;rw[hc,List.length_take]at this;simp at this;omega
theorem zf8{l:List Tx}{P N:Int}(hg:∀t∈l,za9 t=true)(h:checkE (newestL l) P N=0):(∀s∈checkS (newestL l) P N,zdc s)∧(checkS (newestL l) P N).length≤15∧checkS (newestL l) P N≠[]:=by
 obtain⟨B,D⟩:=zea h;have C:zba (encT (zbq P N))=true:=by have:=zer D;simp[zba];omega
 have A:=zeg hg;have A0:=zeh A;rw[B];exact⟨zjx A C,by simp[putR];omega,by simp[putR]⟩
theorem Md.stepE(h:Md j D){s:St}{r:List St}(hs:j.steps=s::r):doneE j.disk s=0:=by
 cases h with
 |idle p hs2 hz hD ht hq=>rw[hs2]at hs;cases hs
 |commit P U k p hw hk hs2 hD ht he hse hrh hru hq hN=>
  obtain⟨F,B⟩:=zey he;rw[hD];exact zpk F B ht.good ht.clean (hs.symm.trans hs2)
 |check k p hw hz hk hs2 hD ht hq=>
  have C:=ht.check;have I:=ht.goods;rw[zb9]at C;have E:∀t∈j.done.map toldOf,za9 t=true:=I;have A:=zf8 E (by rw[zb9];exact C);rw[zb9]at A;rw[hD];exact zpk A.1 (by omega) ht.good ht.clean (hs.symm.trans hs2)
 |off l N P U p hs2 hf hD ht=>rw[hs2]at hs;cases hs
 |back U k p hw hk hs2 hD ht=>
  have A:=zf8 ht.goods ht.check;rw[hD];exact zpk A.1 (by omega) ht.good ht.clean (hs.symm.trans hs2)
theorem Md.stepsLen(h:Md j D):j.steps.length≤50:=by
 cases h with
 |idle p hs2 hz hD ht hq=>rw[hs2];exact Nat.zero_le _
 |commit P U k p hw hk hs2 hD ht he hse hrh hru hq hN=>
  have:=(zey he).2;rw[hs2,List.length_drop];omega
 |check k p hw hz hk hs2 hD ht hq=>
  have B:=ht.check;have A:=zf8 ht.goods B;rw[zb9]at A;rw[hs2,List.length_drop];omega
 |off l N P U p hs2 hf hD ht=>rw[hs2];exact Nat.zero_le _
 |back U k p hw hk hs2 hD ht=>
  have A:=zf8 ht.goods ht.check;rw[hs2,List.length_drop];omega
theorem Md.work(h:Md j D)(hd:j.down=true)(hs:j.steps≠[]):j.work=11:=by
 cases h with
 |idle p=>rw[p.up]at hd;cases hd
 |commit P U k p=>rw[p.up]at hd;cases hd
 |check k p=>rw[p.up]at hd;cases hd
 |off l N P U p hs2=>exact absurd hs2 hs
 |back U k p hw=>exact hw
theorem Md.workUp(h:Md j D)(hu:j.down=false)(hs:j.steps≠[]):j.work=6∨j.work=7:=by
 cases h with
 |idle p hs2=>exact absurd hs2 hs
 |commit P U k p hw=>exact .inl hw
 |check k p hw=>exact .inr hw
 |off l N P U p=>rw[p.off]at hu;cases hu
 |back U k p hw=>rw[p.off]at hu;cases hu
theorem z4k(h:Md j D)(ha:j.acts<400):(doJ j zcs).1.steps=j.steps.tail∧(doJ j zcs).2.code=(if j.steps=[] then 4 else 0)∧(j.steps=[]→(doJ j zcs).1={j with acts:=j.acts+1})∧(j.down=false→(doJ j zcs).1.down=false)∧(j.down=true→j.steps≠[]→j.steps.tail=[]→(doJ j zcs).1.down=false)∧(j.down=true→(j.steps=[]∨j.steps.tail≠[])→(doJ j zcs).1.down=true):=by
 obtain⟨J,C⟩:∃J:Jn,J={j with acts:=j.acts+1}:=⟨_,rfl⟩;have I:J.steps=j.steps:=by rw[C]
 have Q:J.disk=j.disk:=by rw[C]
 have jw:J.work=j.work:=by rw[C]
 have B:J.down=j.down:=by rw[C]
 have e:doJ j zcs=zef J:=by
  rw[doJ,if_neg (by omega),zha,if_neg (by decide),if_pos (show zcs.kind=8 from rfl),C]
 rw[e,←C];have N:=fun s r hs=>h.stepE (s:=s) (r:=r) hs;have M:=h.work;have O:=h.workUp;clear e C
 have K:j.steps=[]∨∃s r,j.steps=s::r:=by
  cases j.steps with
  |nil=>exact .inl rfl
  |cons s r=>exact .inr ⟨s,r,rfl⟩
 rcases K with hs|⟨s,r,hs⟩
 ·have E:zef J=(J,zaq 4):=by unfold zef;rw[I,hs]
  rw[E,hs];exact⟨I.trans hs,rfl,fun _=>rfl,fun A=>B.trans A,fun _ hn=>absurd rfl hn,fun hd _=>B.trans hd⟩
 ·have L:doneE J.disk s=0:=by rw[Q];exact N s r hs
  rw[hs];by_cases hr:r=[]
  ·subst hr
   have E:zef J=zbg {J with disk:=zbc J.disk s,steps:=[]}:=by
    unfold zef;rw[I,hs];simp only[L,if_true]
   rw[E];by_cases hd:j.down=true
   ·have hw:=M hd (by rw[hs];simp)
    have F:zbg {J with disk:=zbc J.disk s,steps:=[]}=(zja {J with disk:=zbc J.disk s,steps:=[]},zaq 0):=by
     rw[zbg,if_neg (show¬J.work=6 by omega),if_neg (show¬J.work=7 by omega),if_pos (show J.work=11 by omega)]
    rw[F];exact⟨rfl,rfl,(fun h=>by cases h),fun _=>rfl,fun _ _ _=>rfl,fun _ h=>by simp at h⟩
   ·have A:j.down=false:=by simpa using hd
    rcases O A (by rw[hs];simp) with hw|hw
    ·have F:zbg {J with disk:=zbc J.disk s,steps:=[]}=zfi {J with disk:=zbc J.disk s,steps:=[]}:=by
      rw[zbg,if_pos (show J.work=6 by omega)]
     rw[F];exact⟨rfl,rfl,(fun h=>by cases h),fun _=>B.trans A,fun _ _ _=>B.trans A,fun h _=>absurd h hd⟩
    ·have F:zbg {J with disk:=zbc J.disk s,steps:=[]}=({{J with disk:=zbc J.disk s,steps:=[]} with done:=[],ru:=0},zaq 0):=by
      rw[zbg,if_neg (show¬J.work=6 by omega),if_pos (show J.work=7 by omega)]
     rw[F];exact⟨rfl,rfl,(fun h=>by cases h),fun _=>B.trans A,fun _ _ _=>B.trans A,fun h _=>absurd h hd⟩
  ·have E:zef J=({J with disk:=zbc J.disk s,steps:=r},zaq 0):=by
    unfold zef;rw[I,hs];simp only[L,if_true,hr,if_false]
   rw[E];exact⟨rfl,rfl,(fun h=>by cases h),fun A=>B.trans A,fun _ _ ht=>absurd ht hr,fun hd _=>B.trans hd⟩
theorem z4l(h:Md j D)(ha:j.acts<400)(hd:j.down=true)(hs:j.steps=[]):(doJ j backAc).1.down=true∧(doJ j backAc).1.steps≠[]∧(doJ j backAc).1.steps.length≤15∧(doJ j backAc).2.code=0:=by
 have e:doJ j backAc=zb4 {j with acts:=j.acts+1}:=by
  rw[doJ,if_neg (by omega),zha,if_neg (by decide),if_neg (by decide),if_neg (by decide),if_pos (show backAc.kind=11 from rfl)]
 cases h with
 |idle p=>rw[p.up]at hd;cases hd
 |commit P U k p=>rw[p.up]at hd;cases hd
 |check k p=>rw[p.up]at hd;cases hd
 |off l N P U p hs2 hf hD ht=>
  have J:scanE j.disk=0:=by rw[hD];exact ht.tE
  have B:checkE (newestL (fndL j.disk)) (fndP j.disk) (fndN j.disk)=0:=by rw[hD,ht.tL,ht.tP,ht.tN];exact ht.check
  have I:∀t∈fndL j.disk,za9 t=true:=by rw[hD,ht.tL];exact ht.goods
  have C:=zf8 I B
  have E:¬(({j with acts:=j.acts+1}:Jn).down=false∨({j with acts:=j.acts+1}:Jn).steps≠[]):=by
   rintro(A|A)
   ·have F:j.down=false:=A;rw[hd]at F;cases F
   ·exact A hs
  rw[e,zb4,if_neg E,if_pos J,if_pos B];exact⟨hd,C.2.2,C.2.1,rfl⟩
 |back U k p hw hk hs2 hD ht=>
  rw[hs]at hs2;have:=congrArg List.length hs2;rw[List.length_drop]at this;simp at this;omega
end
section
variable {j:Jn} {D:Dk}
theorem zpl{h u:Int}(a:0≤h)(b:h≤23)(c:0≤u)(d:u≤24):zgo h u=true:=by simp[zgo];omega
theorem Md.ringR(h:Md j D):zgo j.rh j.ru=true:=by
 cases h with
 |idle p hs hz hD ht hq=>have:=ht.range;exact zpl (by omega) (by omega) (by omega) (by omega)
 |commit P U k p hw hk hs hD ht he hse hrh hru hq hN=>
  have hr:=ht.range;obtain⟨_,hg,_,A1,A2⟩:=zbs he;have A:=he;unfold sealE at A;split at A
  ·cases A
  rename_i hc;have C:zcf P U j.sealed=(P+needN j.sealed.info.length j.sealed.rev.length)%24:=by rw[zcf,if_pos he,takeH,if_pos A]
  have B:zca P U j.sealed=U+needN j.sealed.info.length j.sealed.rev.length:=by rw[zca,if_pos he,takeU,if_pos A]
  have A0:U+needN j.sealed.info.length j.sealed.rev.length≤24:=by
   unfold takeE at A;split at A
   ·cases A
   split at A
   ·cases A
   ·omega
  have h0:0≤needN j.sealed.info.length j.sealed.rev.length:=by
   unfold takeE at A;split at A
   ·cases A
   ·omega
  rw[hrh,hru,C,B];exact zpl (by omega) (by omega) (by omega) (by omega)
 |check k p hw hz hk hs hD ht hq=>have:=ht.range;exact zpl (by omega) (by omega) (by omega) (by omega)
 |off l N P U p hs hf hD ht=>rw[p.rh,p.ru];rfl
 |back U k p hw hk hs hD ht=>rw[p.rh,p.ru];rfl
end
def ac0:Ac:=⟨0,0,0,0,⟨#[]⟩⟩
def ActAt (w:World)(b o:Nat)(x:Ac):Prop:=
 w.cell? ⟨b,o,none⟩=some (.int .i64 x.kind)∧w.cell? ⟨b,o+1,none⟩=some (.int .i64 x.h)∧w.cell? ⟨b,o+2,none⟩=some (.int .i64 x.b)∧w.cell? ⟨b,o+3,none⟩=some (.int .i64 x.n)∧w.cell? ⟨b,o+4,none⟩=some (.string x.text)
def SegA (w:World)(a:Option Addr)(l:List Ac):Prop:=l=[]∨∃b off,a=some ⟨b,off,none⟩∧b<w.heap.size∧∀i,i<l.length→ActAt w b (off+i*5) (l.getD i ac0)
theorem ActAt.ext{w w':World}{b o:Nat}{x:Ac}(h:ActAt w b o x)(e:Ext w w'):ActAt w' b o x:=⟨e.cell _ _ _ h.1,e.cell _ _ _ h.2.1,e.cell _ _ _ h.2.2.1,e.cell _ _ _ h.2.2.2.1,e.cell _ _ _ h.2.2.2.2⟩
theorem SegA.ext{w w':World}{a:Option Addr}{l:List Ac}(h:SegA w a l)(e:Ext w w'):SegA w' a l:=by
 rcases h with h|⟨b,off,rfl,hlt,hc⟩
 ·exact .inl h
 ·exact .inr ⟨b,off,rfl,Nat.lt_of_lt_of_le hlt e.size,fun i hi=>(hc i hi).ext e⟩
structure OkA (x:Ac):Prop where
 n:x.n≤9223372036854775807
 text:x.text.size≤maxLen
def jOf (l:List Ac)(k:Nat):Jn:=(l.take k).foldl (fun j a=>(doJ j a).1) z1h
def rOf (l:List Ac)(k:Nat):Rp:=(doJ (jOf l k) (l.getD k ac0)).2
theorem zvi(l:List Ac):jOf l 0=z1h:=by rw[jOf,List.take_zero];rfl
theorem zvj{l:List Ac}{k:Nat}(h:k<l.length):jOf l (k+1)=(doJ (jOf l k) (l.getD k ac0)).1:=by
 rw[jOf,List.take_add_one,List.getElem?_eq_getElem h,List.foldl_append,List.getD,List.getElem?_eq_getElem h];rfl
theorem z09(l:List Ac)(k:Nat):PJ (jOf l k):=by
 unfold jOf;generalize l.take k=q
 have:∀(q:List Ac) (j:Jn),PJ j→PJ (q.foldl (fun j a=>(doJ j a).1) j):=by
  intro q
  induction q with
  |nil=>intro j h;exact h
  |cons a q ih=>intro j h;exact ih _ (h.do a)
 exact this q _ PJ.new
def played (l:List Ac):Nat:=min l.length 150
def zfb (h:Int):Ac:=⟨5,h,0,0,⟨#[]⟩⟩
def zek:Ac:=⟨6,0,0,0,⟨#[]⟩⟩
def zct:Ac:=⟨7,0,0,0,⟨#[]⟩⟩
def zdd (b:Int):Ac:=⟨9,0,b,0,⟨#[]⟩⟩
section
variable {j:Jn} {D:Dk}
theorem z3f(h:Md j D)(ha:j.acts<400)(hu:j.down=false)(hs:j.steps≠[]):(doJ j zcs).1.now=j.now∧(j.steps.tail≠[]→(doJ j zcs).1.work=j.work)∧(j.work=7→j.steps.tail=[]→(doJ j zcs).1.done=[]):=by
 obtain⟨J,B⟩:∃J:Jn,J={j with acts:=j.acts+1}:=⟨_,rfl⟩;have K:J.steps=j.steps:=by rw[B]
 have O:J.disk=j.disk:=by rw[B]
 have L:J.work=j.work:=by rw[B]
 have E:J.now=j.now:=by rw[B]
 have e:doJ j zcs=zef J:=by
  rw[doJ,if_neg (by omega),zha,if_neg (by decide),if_pos (show zcs.kind=8 from rfl),B]
 rw[e];have M:=fun s r hs=>h.stepE (s:=s) (r:=r) hs;have N:=h.workUp hu hs;clear e B
 obtain⟨s,r,A⟩:∃s r,j.steps=s::r:=by
  cases hx:j.steps with
  |nil=>exact absurd hx hs
  |cons s r=>exact⟨s,r,rfl⟩
 have C:doneE J.disk s=0:=by rw[O];exact M s r A
 rw[A];by_cases hr:r=[]
 ·subst hr
  have F:zef J=zbg {J with disk:=zbc J.disk s,steps:=[]}:=by
   unfold zef;rw[K,A];simp only[C,if_true]
  rw[F];rcases N with hw|hw
  ·have I:zbg {J with disk:=zbc J.disk s,steps:=[]}=zfi {J with disk:=zbc J.disk s,steps:=[]}:=by
    rw[zbg,if_pos (show J.work=6 by omega)]
   rw[I];exact⟨E,fun h=>absurd rfl h,fun h=>by omega⟩
  ·have I:zbg {J with disk:=zbc J.disk s,steps:=[]}=({{J with disk:=zbc J.disk s,steps:=[]} with done:=[],ru:=0},zaq 0):=by
    rw[zbg,if_neg (show¬J.work=6 by omega),if_pos (show J.work=7 by omega)]
   rw[I];exact⟨E,fun h=>absurd rfl h,fun _ _=>rfl⟩
 ·have F:zef J=({J with disk:=zbc J.disk s,steps:=r},zaq 0):=by
   unfold zef;rw[K,A];simp only[C,if_true,hr,if_false]
  rw[F];exact⟨E,fun _=>L,fun _ ht=>absurd ht hr⟩
end
structure Rl (j ji:Jn)(i:Nat):Prop where
 md:∃D,Md ji D
 a0:0≤ji.acts
 a1:ji.acts≤j.acts+i
 st:ji.steps=j.steps.drop i
 up:j.down=false→ji.down=false∧ji.now=j.now∧(ji.steps≠[]→ji.work=j.work)∧(j.steps=[]→ji.done=j.done)∧(j.work=7→j.steps≠[]→ji.steps=[]→ji.done=[])
 dn:j.down=true→(j.steps=[]→ji.down=true)∧(j.steps≠[]→(ji.steps≠[]→ji.down=true)∧(ji.steps=[]→ji.down=false))
theorem Rl.refl{j:Jn}{D:Dk}(h:Md j D)(h0:0≤j.acts):Rl j j 0:=
 ⟨⟨D,h⟩,h0,by omega,rfl,fun hu=>⟨hu,rfl,fun _=>rfl,fun _=>rfl,fun _ h1 h2=>absurd h2 h1⟩,fun hd=>⟨fun _=>hd,fun h1=>⟨fun _=>hd,fun h2=>absurd h2 h1⟩⟩⟩
theorem Rl.step{j ji:Jn}{i:Nat}(h:Rl j ji i)(ha:ji.acts<400):Rl j (doJ ji zcs).1 (i+1)∧(doJ ji zcs).2.code=(if ji.steps=[] then 4 else 0):=by
 obtain⟨D,C⟩:=h.md;obtain⟨B,M,Z,L,R,Q⟩:=z4k C ha
 have A0:(doJ ji zcs).1.acts=ji.acts+1:=by
  rcases zr1 C zcs h.a0 (by omega) with⟨h4,_⟩|⟨_,h5,_⟩
  ·omega
  ·exact h5
 have I:∃D,Md (doJ ji zcs).1 D:=by
  obtain⟨X,A,_⟩:=z5r C zcs h.a0 (by omega);exact⟨X,A⟩
 have E:(doJ ji zcs).1.steps=j.steps.drop (i+1):=by
  rw[B,h.st,List.tail_drop]
 have A2:=h.a1;have A1:=h.a0;by_cases he:ji.steps=[]
 ·have e:=Z he;have N:(doJ ji zcs).1.steps=[]:=by rw[B,he];rfl
  refine⟨⟨I,by omega,by omega,E,fun hu=>?_,fun hd=>?_⟩,M⟩
  ·obtain⟨u1,u2,u3,u4,u5⟩:=h.up hu;exact⟨L u1,by rw[e];exact u2,fun hn=>absurd N hn,fun A=>by rw[e];exact u4 A,fun A h2 _=>by rw[e];exact u5 A h2 he⟩
  ·obtain⟨O,J⟩:=h.dn hd;exact⟨fun A=>by rw[e];exact O A,fun A=>⟨fun hn=>absurd N hn,fun _=>by rw[e];exact(J A).2 he⟩⟩
 ·have K:j.steps≠[]:=fun e=>he (by rw[h.st,e];simp);refine⟨⟨I,by omega,by omega,E,fun hu=>?_,fun hd=>?_⟩,M⟩
  ·obtain⟨u1,u2,u3,u4,u5⟩:=h.up hu;obtain⟨S,Y,U⟩:=z3f C ha u1 he;refine⟨L u1,S.trans u2,fun hn=>?_,fun A=>absurd A K,fun A _ h3=>?_⟩
   ·rw[B]at hn;exact(Y hn).trans (u3 he)
   ·rw[B]at h3;exact U (by rw[u3 he];exact A) h3
  ·obtain⟨O,J⟩:=h.dn hd;have F:=(J K).1 he;refine⟨fun A=>absurd A K,fun _=>⟨fun hn=>Q F (.inr (by rw[B]at hn;exact hn)),fun h3=>R F he (by rw[B]at h3;exact h3)⟩⟩
structure Stp (j je:Jn):Prop where
 md:∃D,Md je D
 a0:0≤je.acts
 a1:je.acts≤j.acts+51
 st:je.steps=[]
 up:j.down=false→je.down=false∧je.now=j.now∧(j.steps=[]→je.done=j.done)∧(j.work=7→j.steps≠[]→je.done=[])
 dn:j.down=true→(j.steps=[]→je.down=true)∧(j.steps≠[]→je.down=false)
theorem Rl.last{j ji:Jn}{i:Nat}(h:Rl j ji i)(hs:ji.steps=[])(ha:ji.acts<400)(hi:i≤50):Stp j (doJ ji zcs).1:=by
 obtain⟨A,_⟩:=h.step ha;have B:(doJ ji zcs).1.steps=[]:=by rw[A.st,←List.tail_drop,←h.st,hs];rfl
 refine⟨A.md,A.a0,by have:=A.a1;omega,B,fun hu=>?_,fun hd=>?_⟩
 ·obtain⟨u1,u2,_,u4,u5⟩:=A.up hu;exact⟨u1,u2,u4,fun a b=>u5 a b B⟩
 ·obtain⟨D,C⟩:=A.dn hd;exact⟨D,fun a=>(C a).2 B⟩
theorem Rl.more{j ji:Jn}{i:Nat}(h:Rl j ji i)(hl:j.steps.length≤50)(hs:ji.steps≠[]):i<50:=by
 rcases Nat.lt_or_ge i 50 with h1|h1
 ·exact h1
 ·rw[h.st,List.drop_of_length_le (by omega)]at hs;exact absurd rfl hs
structure Rest (j:Jn)(c:Int):Prop where
 md:∃D,Md j D
 a0:0≤j.acts
 a1:j.acts≤c
 up:j.down=false
 st:j.steps=[]
theorem Rest.idle{j:Jn}{c:Int}(h:Rest j c):∃D,Md j D∧Pow j∧j.sealed=zc5 0∧j.disk=D∧Tells D (j.done.map toldOf) (j.last+1) j.rh j.ru∧j.now.seq=j.last+1:=by
 obtain⟨D,B⟩:=h.md;have C:=h.st;have A:=h.up;have E:=B
 cases B with
 |idle p hs2 hz hD ht hq=>exact⟨D,E,p,hz,hD,ht,hq⟩
 |commit P U k p hw hk hs2 hD ht he hse hrh hru hq hN=>
  rw[C]at hs2;have:=congrArg List.length hs2;rw[List.length_drop]at this;simp at this;omega
 |check k p hw hz hk hs2 hD ht hq=>
  rw[C]at hs2;have:=congrArg List.length hs2;rw[List.length_drop]at this;simp at this;omega
 |off l N P U p=>rw[p.off]at A;cases A
 |back U k p=>rw[p.off]at A;cases A
theorem zr4{j:Jn}{D:Dk}(h:Md j D)(h0:0≤j.acts)(ha:j.acts<400)(a:Ac):(∃D',Md (doJ j a).1 D')∧(doJ j a).1.acts=j.acts+1:=by
 obtain⟨D',A,_⟩:=z5r h a h0 (by omega);refine⟨⟨D',A⟩,?_⟩;rcases zr1 h a h0 (by omega) with⟨h4,_⟩|⟨_,h5,_⟩
 ·omega
 ·exact h5
theorem zj4{j:Jn}(hu:j.down=false)(ha:j.acts<400){a:Ac}(h1:1≤a.kind)(h2:a.kind≤7):doJ j a=zav {j with acts:=j.acts+1} a:=by
 rw[doJ,if_neg (by omega),zha,if_neg (by omega),if_neg (by omega),if_neg (by omega),if_neg (by omega),if_neg (by show¬j.down=true;rw[hu];decide)]
theorem Rest.stop{j:Jn}{c:Int}(h:Rest j c)(hc:c<400)(x:Int)(hx:x=0∨x=1∨x=2):Rest (doJ j (zfb x)).1 (c+1)∧(zel (doJ j (zfb x)).1.now x).on=false∧∀y,y=0∨y=1∨y=2→y≠x→(zel (doJ j (zfb x)).1.now y).on=(zel j.now y).on:=by
 obtain⟨D,E,p,_⟩:=h.idle;have ha:=h.a1;obtain⟨hd,A0⟩:=zr4 E h.a0 (by omega) (zfb x)
 have e:doJ j (zfb x)=zls {j with acts:=j.acts+1} (zb2 j.now x) (zcy j.now x):=by
  rw[zj4 h.up (by omega) (by simp[zfb]) (by simp[zfb]),zav,if_neg (by simp[zfb]),if_pos (show(zfb x).kind=5 from rfl)];rfl
 have key:(doJ j (zfb x)).1.now=zb2 j.now x∧(doJ j (zfb x)).1.down=false∧(doJ j (zfb x)).1.steps=[]:=by
  rw[e,zls];split
  ·exact⟨rfl,h.up,h.st⟩
  ·rename_i A;refine⟨?_,h.up,h.st⟩;show j.now=_;rw[zb2,if_neg A]
 refine⟨⟨hd,by have:=h.a0;omega,by omega,key.2.1,key.2.2⟩,?_,?_⟩
 ·rw[key.1,zb2];split
  ·rcases hx with rfl|rfl|rfl<;>rfl
  ·rename_i A;unfold zcy at A;rw[if_neg (by rw[p.good];simp)]at A;split at A
   ·rename_i h2;rcases h2 with h2|h2|h2
    ·omega
    ·omega
    ·exact h2
   ·exact absurd rfl A
 ·intro y C B;rw[key.1,zb2];split
  ·rcases hx with rfl|rfl|rfl<;>rcases C with rfl|rfl|rfl<;>first|rfl|exact absurd rfl B
  ·rfl
theorem z1a{j:Jn}{D:Dk}(hm:Md j D)(p:Pow j)(ho:zfm j.now=false)(he:zcg j.now=false):sealE j.rh j.ru j.now=0:=by
 have A:=hm.ringR;have hn:=zz4 p.good;have hr:=p.room (by rw[zq3,ho,he];rfl);have hL:=zd8 j.now (zaw p.good).1 (zaw p.good).2.2;rw[sealE,if_neg (by rw[A,p.good,ho];simp),takeE,if_neg (by rw[A];simp;omega),if_neg (by omega)]
theorem Rest.seal{j:Jn}{c:Int}(h:Rest j c)(hc:c<400)(ho:zfm j.now=false):((doJ j zek).2.code=0∨(doJ j zek).2.code=4)∧(doJ j zek).1.down=false∧zcg (doJ j zek).1.now=true∧(∃D,Md (doJ j zek).1 D)∧0≤(doJ j zek).1.acts∧(doJ j zek).1.acts≤c+1:=by
 obtain⟨D,E,p,hz,hD,ht,hq⟩:=h.idle;have ha:=h.a1;have A2:=h.a0;obtain⟨hd,A1⟩:=zr4 E h.a0 (by omega) zek
 have e:doJ j zek=zcm {j with acts:=j.acts+1}:=by
  rw[zj4 h.up (by omega) (by decide) (by decide),zav,if_neg (by decide),if_neg (by decide),if_neg (by decide),if_neg (by decide),if_neg (by decide),if_pos (show zek.kind=6 from rfl)]
 have key:((doJ j zek).2.code=0∨(doJ j zek).2.code=4)∧(doJ j zek).1.down=false∧zcg (doJ j zek).1.now=true:=by
  have F:¬(({j with acts:=j.acts+1}:Jn).steps≠[]∨zfm ({j with acts:=j.acts+1}:Jn).now=true):=by
   rintro(A|A)
   ·exact A h.st
   ·have B:zfm j.now=true:=A;rw[ho]at B;cases B
  rw[e,zcm,if_neg F];by_cases he:zcg j.now=true
  ·rw[if_pos (show zcg ({j with acts:=j.acts+1}:Jn).now=true from he)];exact⟨.inr rfl,h.up,he⟩
  ·have C:zcg j.now=false:=by simpa using he
   have A0:=p.seq;rw[if_neg (show¬zcg ({j with acts:=j.acts+1}:Jn).now=true from he),if_neg (show¬2147483645<j.now.seq by omega),if_pos (show sealE j.rh j.ru j.now=0 from z1a E p ho C)];exact⟨.inl rfl,h.up,rfl⟩
 exact⟨key.1,key.2.1,key.2.2,hd,by omega,by omega⟩
theorem Rest.gone{j:Jn}{c:Int}(h:Rest j c)(hc:c<400):((doJ j zct).2.code=0∨(doJ j zct).2.code=4)∧(doJ j zct).1.down=false∧(doJ j zct).1.now=j.now∧(((doJ j zct).1.steps=[]∧(doJ j zct).1.done=[])∨((doJ j zct).1.steps≠[]∧(doJ j zct).1.work=7))∧(∃D,Md (doJ j zct).1 D)∧0≤(doJ j zct).1.acts∧(doJ j zct).1.acts≤c+1:=by
 obtain⟨D,E,p,hz,hD,C,hq⟩:=h.idle;have ha:=h.a1;have A1:=h.a0;obtain⟨hd,A0⟩:=zr4 E h.a0 (by omega) zct
 have e:doJ j zct=zfz {j with acts:=j.acts+1}:=by
  rw[zj4 h.up (by omega) (by decide) (by decide),zav,if_neg (by decide),if_neg (by decide),if_neg (by decide),if_neg (by decide),if_neg (by decide),if_neg (by decide),if_pos (show zct.kind=7 from rfl)]
 have key:((doJ j zct).2.code=0∨(doJ j zct).2.code=4)∧(doJ j zct).1.down=false∧(doJ j zct).1.now=j.now∧(((doJ j zct).1.steps=[]∧(doJ j zct).1.done=[])∨((doJ j zct).1.steps≠[]∧(doJ j zct).1.work=7)):=by
  rw[e,zfz,if_neg (show¬j.steps≠[] by rw[h.st];simp)];by_cases hn:j.done=[]
  ·rw[if_pos (show({j with acts:=j.acts+1}:Jn).done=[] from hn)];exact⟨.inr rfl,h.up,rfl,.inl ⟨h.st,hn⟩⟩
  ·have A:=C.check;have B:=zf8 C.goods A;rw[zb9]at A B;rw[if_neg (show¬({j with acts:=j.acts+1}:Jn).done=[] from hn),zdy,if_pos (show checkE (newestL j.done) j.rh (j.last+1)=0 from A)];exact⟨.inl rfl,h.up,rfl,.inr ⟨B.2.2,rfl⟩⟩
 exact⟨key.1,key.2.1,key.2.2.1,key.2.2.2,hd,by omega,by omega⟩
theorem zuj(log:List ByteArray):∀(f:Nat) (pos:Nat) (seq:Int) (acc:List Tx),(2147483647 - seq).toNat≤f→acc.length≤(scanP log pos seq acc).1.length∧((scanP log pos seq acc).1.length=acc.length→(scanP log pos seq acc).2=pos):=by
 intro f
 induction f with
 |zero=>
  intro pos seq acc B;rw[scanP,dif_neg (by omega)];exact⟨Nat.le_refl _,fun _=>rfl⟩
 |succ f ih=>
  intro pos seq acc B;rw[scanP];split
  ·split
   ·exact⟨Nat.le_refl _,fun _=>rfl⟩
   ·rename_i n t _;have A:=(ih n (seq+1) (acc++[t]) (by omega)).1;rw[List.length_append]at A;simp at A;exact⟨by omega,fun h2=>by omega⟩
  ·exact⟨Nat.le_refl _,fun _=>rfl⟩
theorem Tells.none{D:Dk}{N P U:Int}(h:Tells D [] N P U):U=0:=by
 have A:=h.tL;rw[fndL,if_pos h.tE]at A;have C:=(zuj (logOf D (zan D).pos) _ 0 (zan D).seq [] (Nat.le_refl _)).2;have E:(zbt D).1=(scanP (logOf D (zan D).pos) 0 (zan D).seq []).1:=rfl;rw[E]at A;have B:(zbt D).2=0:=C (by rw[A]);rw[←h.tU,(zhx h.tE).1,B];rfl
structure Calm (j:Jn):Prop where
 ru:j.ru=0
 up:j.down=false
 wr:j.disk.wr=[]
 rd:∀b:Nat,b<12→textJ j b=(zal j.disk ((25+b:Nat):Int),0)
theorem Rest.calm{j:Jn}{c:Int}(h:Rest j c)(he:zcg j.now=true)(hd:j.done=[]):Calm j:=by
 obtain⟨D,J,p,C,I,A,hq⟩:=h.idle;rw[hd]at A;refine⟨Tells.none A,h.up,by rw[I];exact A.clean,fun b hb=>?_⟩;unfold zcg at he;simp only[Bool.and_eq_true,decide_eq_true_eq]at he;have F:j.now.info=[]:=List.eq_nil_of_length_eq_zero he.1.1;have K:j.now.data=[]:=List.eq_nil_of_length_eq_zero he.1.2
 have E:zai (b:Int) (newestL ([]:List Tx))=none:=by
  rw[newestL,zvq];split<;>rfl
 have B:readE j.disk ((25+b:Nat):Int)=0:=zex J.disk (by omega);have c:(((25+b:Nat):Int))=25+(b:Int):=by omega
 rw[c]at B⊢;rw[textJ,F,K,C,hd];simp only[zai,zc5,E];rw[B]
theorem Calm.look{j:Jn}(h:Calm j)(ha:j.acts<400){b:Nat}(hb:b<12):(doJ j (zdd b)).2.code=0∧(doJ j (zdd b)).2.text=zal j.disk ((25+b:Nat):Int)∧(doJ j (zdd b)).1={j with acts:=j.acts+1}:=by
 have A:textJ {j with acts:=j.acts+1} b=(zal j.disk ((25+b:Nat):Int),0):=h.rd b hb
 have e:doJ j (zdd b)=({j with acts:=j.acts+1},zik {j with acts:=j.acts+1} b):=by
  rw[doJ,if_neg (by omega),zha,if_neg (by simp[zdd]),if_neg (by simp[zdd]),if_neg (by simp[zdd]),if_neg (by simp[zdd]),if_neg (by show¬j.down=true;rw[h.up];decide)];rw[zav,if_neg (by simp[zdd]),if_neg (by simp[zdd]),if_neg (by simp[zdd]),if_neg (by simp[zdd]),if_neg (by simp[zdd]),if_neg (by simp[zdd]),if_neg (by simp[zdd])];rfl
 rw[e];rw[zik,if_neg (by omega),A,if_pos rfl];exact⟨rfl,rfl,rfl⟩
open Go.Proofs.Tryz
def z5s (B:Nat)(b:Nat)(off:Nat)(k:Nat)(x:Ac)(r:Rp)(look:Value)(c:Nat)(l:List Ac):Nat→Value→World→Prop
 |0,v,_=>v=look
 |1,v,_=>v=.pointer (some ⟨B,0,none⟩)
 |2,v,_=>v=.slice (some ⟨b,off,none⟩) l.length c
 |3,v,_=>v=.int .i64 k
 |4,v,_=>v=.pointer (some ⟨b,off+k*5,none⟩)
 |5,v,_=>v=.agg #[.int .i64 x.kind,.int .i64 x.h,.int .i64 x.b,.int .i64 x.n,.string x.text]
 |6,v,_=>v=.agg #[.int .i64 r.code,.int .i64 r.n,.string r.text]
 |_,_,_=>True
theorem z3g(look:Value)(g:Nat)(lk:Value→Value→Value→Array Value)
  (hent:∀(o:Oper) (ρ:Operand→Value) (w:World) (x y z:Value) (ts:Array TypeId),o.op=Op.call {callee:=.value (.tmp 28),args:=#[.tmp 29,.tmp 33,.tmp 34],argTypes:=ts}→ρ (.tmp 28)=look→ρ (.tmp 29)=x→ρ (.tmp 33)=y→ρ (.tmp 34)=z→(execOp ρ o).run prog w=.ok (.enter g (lk x y z)) w)
  (a:Option Addr) (c:Nat) (l:List Ac) (w:World) (LX:List Nat) (hA:SegA (zas w LX) a l) (hlen:l.length≤maxLen) (hok:∀x∈l,OkA x) (hLX:∀x∈LX,x<w.heap.size)
  (S:Nat→World→Prop) (hS0:S 0 w) (hSb:∀k W W' B,S k W→w.heap.size≤B→w.heap.size≤W.heap.size→ButL [B] W.heap.size W W'→S k W')
  (hL:∀k W B,k<played l→w.heap.size≤B→S k W→JAt W B (B::LX) (jOf l (k+1))→(∀x∈(B::LX),x<W.heap.size)→Calls prog g (lk (.pointer (some ⟨B,0,none⟩)) (.agg #[.int .i64 (l.getD k ac0).kind,.int .i64 (l.getD k ac0).h,.int .i64 (l.getD k ac0).b,.int .i64 (l.getD k ac0).n,.string (l.getD k ac0).text]) (.agg #[.int .i64 (rOf l k).code,.int .i64 (rOf l k).n,.string (rOf l k).text])) W fun e W'=>e=.returned (.bool true)∧S (k+1) W'∧JAt W' B (B::LX) (jOf l (k+1))∧ButL LX w.heap.size W W'∧W.heap.size≤W'.heap.size):
  Calls prog 21 #[.slice a l.length c,look] w fun e w'=>∃B,e=.returned (.tuple #[.pointer (some ⟨B,0,none⟩),.bool true])∧w.heap.size≤B∧S (played l) w'∧JAt w' B (B::LX) (jOf l (played l))∧ButL LX w.heap.size w w':=by
 have HA:=zaa hA;have D8:=zaa hok;have A6:=zaa hLX;have F7:=zaa hS0;have A5:=zaa hSb;have HL:=zaa hL;have C8:=zaa hent;clear hA hok hLX hS0 hSb hL hent;unfold maxLen at hlen;go_enter func21,ntmps21;go_wp2_with fail;refine(z07 _).mono ?_;rintro e w1 ⟨rfl,C⟩;have B0:=zaa C;clear C;go_wp2_with fail;refine(zvf _).mono ?_;rintro e w2 ⟨B,rfl,G4,hJ,C6⟩;have X:w.heap.size≤w1.heap.size:=B0.o.size;have C4:=zaa (hJ LX (fun x hx=>Nat.lt_of_lt_of_le (A6.o x hx) X));have A7:=zaa (zae B0.o C6);have O:w.heap.size≤B:=by omega
 have C5:Hid (S 0 w2):=A5.o 0 w w2 B F7.o O (Nat.le_refl _) (ButL.of_below A7.o);clear hJ C6;go_wp2
 go_loopw [7] (fun i wr=>∃k:Nat,k≤played l∧i=.int .i64 k∧Hid (S k wr)∧Hid (JAt wr B (B::LX) (jOf l k))∧Hid (ButL LX w.heap.size w wr)) (fun i _=>l.length - (intOf i).toNat)
 case atStart=>exact⟨0,Nat.zero_le _,rfl,C5,by rw[zvi];exact C4,ButL.of_below A7.o⟩
 case round=>
  obtain⟨k,hk,rfl,B2,u,Z⟩:=hrel;clear C4 A7 C5 B0;have F2:played l=min l.length 150:=rfl;by_cases hkp:k<played l
  ·have L:k<l.length:=by omega
   have G7:k<150:=by omega
   have i1:(k:Int)<(l.length:Int):=by omega
   have i2:(k:Int)<150:=by omega
   have i0:(0:Int)≤(k:Int):=by omega
   obtain⟨b,off,rfl,hb,hc⟩:=(HA.o.ext (Ext.butL Z.o)).resolve_left (fun e=>by rw[e]at L;simp at L);obtain⟨x,hx⟩:∃x,x=l.getD k ac0:=⟨_,rfl⟩;have N:=hc k L;rw[←hx]at N;obtain⟨G6,e0⟩:=zb3 N.1;have e1:=(zb3 N.2.1).2;have e2:=(zb3 N.2.2.1).2;have e3:=(zb3 N.2.2.2.1).2;have e4:=(zb3 N.2.2.2.2).2;have E6:=zaa e0;have D1:=zaa e1;have E5:=zaa e2;have D3:=zaa e3;have E2:=zaa e4;have E8:b<wr.heap.size:=by rw[zbr]at hb;exact hb
   have G3:b<w.heap.size:=by
    rcases HA.o with e|⟨J,off2,he,A,_⟩
    ·rw[e]at L;simp at L
    ·cases he;rw[zbr]at A;exact A
   have HX:=zaa hx;have B8:OkA x:=D8.o x (by rw[hx,List.getD,List.getElem?_eq_getElem L];exact List.getElem_mem L);have B7:=zaa B8;have B9:w.heap.size≤wr.heap.size:=Z.o.size;clear hc N hx hb B8;go_wp2_with fail;refine(zir B (B::LX) (jOf l k) wr u.o (fun y R=>?_) (z09 l k).ready x B7.o.n B7.o.text).mono ?_
   ·rcases List.mem_cons.1 R with rfl|R
    ·exact u.o.lt
    ·have:=A6.o y R;omega
   rintro e D ⟨rfl,A2,d⟩;have C1:(doJ (jOf l k) x).2=rOf l k:=by rw[rOf,HX.o]
   have C3:(doJ (jOf l k) x).1=jOf l (k+1):=by rw[zvj L,HX.o]
   rw[C3]at A2;rw[C1];obtain⟨r,hr⟩:∃r,r=rOf l k:=⟨_,rfl⟩;rw[←hr];rw[show vRp r=.agg #[.int .i64 r.code,.int .i64 r.n,.string r.text] from rfl];have E3:=zaa hr;have G5:wr.heap.size≤D.heap.size:=d.size;have Q:D.heap[b]?=wr.heap[b]?:=d.block b E8 (by simp;omega);have F0:=zaa ((World.cell?_of_block Q).trans E6.o);have F8:=zaa ((World.cell?_of_block Q).trans D1.o);have F9:=zaa ((World.cell?_of_block Q).trans E5.o);have F6:=zaa ((World.cell?_of_block Q).trans D3.o);have F3:=zaa ((World.cell?_of_block Q).trans E2.o);have E1:=zaa (A5.o k wr D B B2.o O B9 d);have C9:Hid (ButL LX w.heap.size w D):=Z.o.trans d B9 (by simp;omega);clear C1 C3 hr d Q e0 e1 e2 e3 e4;go_wp2;rename_i KK A8;obtain⟨I,A1⟩:∃I,I=D.alloc (.cells #[.int .i64 r.code,.int .i64 r.n,.string r.text] 31):=⟨_,rfl⟩;rw[←A1];have F:Below D.heap.size D I:=by rw[A1];exact zab _ _
   have B1:I.heap[D.heap.size]?=some (.cells #[.int .i64 r.code,.int .i64 r.n,.string r.text] 31 (0,0)):=by rw[A1];exact heap_alloc_new _ _
   have Q0:Hid (I.cell? ⟨D.heap.size,0,none⟩=some (.int .i64 r.code)):=(cell_of_row I _ 0 _ _ _ B1).trans rfl;have Q1:Hid (I.cell? ⟨D.heap.size,1,none⟩=some (.int .i64 r.n)):=(cell_of_row I _ 1 _ _ _ B1).trans rfl;have Q2:Hid (I.cell? ⟨D.heap.size,2,none⟩=some (.string r.text)):=(cell_of_row I _ 2 _ _ _ B1).trans rfl;have P0:=zaa (zac F (show b<D.heap.size by omega) F0.o);have P1:=zaa (zac F (show b<D.heap.size by omega) F8.o);have P2:=zaa (zac F (show b<D.heap.size by omega) F9.o);have P3:=zaa (zac F (show b<D.heap.size by omega) F6.o);have P4:=zaa (zac F (show b<D.heap.size by omega) F3.o);have X:I.heap.size=D.heap.size+1:=by rw[A1];simp
   have A4:D.heap.size<I.heap.size:=by omega
   have C7:b<I.heap.size:=by omega
   have D9:Hid (∀W,Below I.heap.size I W→Calls prog g (lk (.pointer (some ⟨B,0,none⟩)) (.agg #[.int .i64 x.kind,.int .i64 x.h,.int .i64 x.b,.int .i64 x.n,.string x.text]) (.agg #[.int .i64 r.code,.int .i64 r.n,.string r.text])) W fun e W'=>e=.returned (.bool true)∧S (k+1) W'∧JAt W' B (B::LX) (jOf l (k+1))∧ButL LX w.heap.size w W'∧W.heap.size≤W'.heap.size):=by
    intro W E;have s:=zae F E
    have h1:=HL.o k W B hkp O (A5.o k D W B E1.o O (by omega) (ButL.of_below s)) (A2.below s) (fun y R=>by
     have h2:=s.size;rcases List.mem_cons.1 R with rfl|R
     ·have:=A2.lt;omega
     ·have:=A6.o y R;omega)
    rw[←HX.o,←E3.o]at h1;refine h1.mono ?_;rintro e W' ⟨h3,h4,h5,h6,h7⟩;exact⟨h3,h4,h5,(C9.o.trans (Y:=[]) (ButL.of_below s) (by omega) (by simp)).trans h6 (Nat.le_refl _) (by intro y R;exact .inl R),h7⟩
   have F:=C7
   have A9:∀(g:Nat→Value) (W':World),S (k+1) W'→JAt W' B (B::LX) (jOf l (k+1))→ButL LX w.heap.size w W'→True→KK ⟨#[.slice (some ⟨b,off,none⟩) l.length c,look,undef,undef,g 4,g 5,.pointer (some ⟨B,0,none⟩),.int .i64 (k:Int),g 8,.bool true,.bool false,.pointer (some ⟨B,0,none⟩),g 12,g 13,g 14,g 15,g 16,g 17,g 18,g 19,g 20,g 21,g 22,g 23,g 24,g 25,g 26,g 27,g 28,g 29,g 30,g 31,g 32,g 33,g 34,g 35,.bool false,g 37,undef],[]⟩ W':=by
    intro g W' C0 B4 B5 _;apply A8;clear A8;have G2:=zaa C0;have D5:=zaa B4;have E4:=zaa B5;clear C0 B4 B5;go_wp2
    go_roundw
    case rel=>exact⟨k+1,by omega,by go_num,G2,D5,E4⟩
    case measure=>first|(simp[intOf];omega)|simp[intOf]
   have B3:=zaa A9;clear A9 A8;refine(show∀A0:Act,A0=_→Code.wp prog _ _ A0 _ from fun A0 hA0=>?_) _ rfl;have M:A0.tmps.size=39:=by rw[hA0];rfl
   have D2:A0.defers=[]:=by rw[hA0]
   have v0:A0.eval (.tmp 0)=.slice (some ⟨b,off,none⟩) l.length c:=by rw[hA0];rfl
   have v1:A0.eval (.tmp 1)=look:=by rw[hA0];rfl
   have v2:A0.eval (.tmp 2)=undef:=by rw[hA0];rfl
   have v3:A0.eval (.tmp 3)=undef:=by rw[hA0];rfl
   have v6:A0.eval (.tmp 6)=.pointer (some ⟨B,0,none⟩):=by rw[hA0];rfl
   have v7:A0.eval (.tmp 7)=.int .i64 (k:Int):=by rw[hA0];rfl
   have v9:A0.eval (.tmp 9)=.bool true:=by rw[hA0];rfl
   have F1:A0.eval (.tmp 10)=.bool false:=by rw[hA0];rfl
   have E7:A0.eval (.tmp 11)=.pointer (some ⟨B,0,none⟩):=by rw[hA0];rfl
   have D4:A0.eval (.tmp 38)=undef:=by rw[hA0];rfl
   have v8:A0.eval (.tmp 8)=.pointer (some ⟨D.heap.size,0,none⟩):=by rw[hA0];rfl
   clear hA0;refine zbi 7 (fun w'=>Below I.heap.size I w') [28,29,30,31,32,33,34] (z5s B b off k x r look c l) (by kernel_rfl) (by kernel_rfl) (by kernel_rfl) (by kernel_rfl) (by decide) ((Below.refl _ _).drew) ⟨?_,?_,?_,?_,?_,?_,?_,trivial⟩ ?_
   ·exact zbh v1 M (fun _=>rfl) fun ρ w' E z=>by simp only[execOp];go_simp
   ·exact zbh v6 M (fun _=>rfl) fun ρ w' E z=>by simp only[execOp];go_simp
   ·exact zbh v0 M (fun _=>rfl) fun ρ w' E z=>by simp only[execOp];go_simp
   ·exact zbh v7 M (fun _=>rfl) fun ρ w' E z=>by simp only[execOp];go_simp
   ·intro a w' K E q;have p30:a.eval (.tmp 30)=.slice (some ⟨b,off,none⟩) l.length c:=q ⟨2,.data⟩ (by simp) rfl;have p31:a.eval (.tmp 31)=.int .i64 k:=q ⟨3,.data⟩ (by simp) rfl;exact zf6 _ rfl rfl (by revert p30 p31;generalize a.eval=ρ;intro p30 p31;simp only[execOp];go_simp) K M E rfl
   ·exact zam 4 32 M (fun _ _ h=>h) (fun _=>rfl) fun ρ w' E p=>by have c0:w'.cell? ⟨b,off+k*5,none⟩=some (.int .i64 x.kind):=zac E F (P0.o);have c1:w'.cell? ⟨b,off+k*5+1,none⟩=some (.int .i64 x.h):=zac E F (P1.o);have c2:w'.cell? ⟨b,off+k*5+2,none⟩=some (.int .i64 x.b):=zac E F (P2.o);have c3:w'.cell? ⟨b,off+k*5+3,none⟩=some (.int .i64 x.n):=zac E F (P3.o);have c4:w'.cell? ⟨b,off+k*5+4,none⟩=some (.string x.text):=zac E F (P4.o);simp only[execOp];go_simp
   ·exact zbh v8 M (fun _=>rfl) fun ρ w' E z=>by have c0:w'.cell? ⟨D.heap.size,0,none⟩=some (.int .i64 r.code):=zac E A4 (Q0.o);have c1:w'.cell? ⟨D.heap.size,1,none⟩=some (.int .i64 r.n):=zac E A4 (Q1.o);have c2:w'.cell? ⟨D.heap.size,2,none⟩=some (.string r.text):=zac E A4 (Q2.o);simp only[execOp];go_simp
   ·intro U W K E q;have p28:U.eval (.tmp 28)=look:=q 0 (by decide);have p29:U.eval (.tmp 29)=.pointer (some ⟨B,0,none⟩):=q 1 (by decide);have p33:U.eval (.tmp 33)=.agg #[.int .i64 x.kind,.int .i64 x.h,.int .i64 x.b,.int .i64 x.n,.string x.text]:=q 5 (by decide);have p34:U.eval (.tmp 34)=.agg #[.int .i64 r.code,.int .i64 r.n,.string r.text]:=q 6 (by decide);have C2:U.tmps.size=39:=K.size.trans M;show wpOps prog _ _ [7,8] U W;rw[wpOps_cons];refine zby g (lk (.pointer (some ⟨B,0,none⟩)) (.agg #[.int .i64 x.kind,.int .i64 x.h,.int .i64 x.b,.int .i64 x.n,.string x.text]) (.agg #[.int .i64 r.code,.int .i64 r.n,.string r.text])) rfl rfl (C8.o _ U.eval W _ _ _ _ rfl p28 p29 p33 p34) _ (D9.o W E) ?_;rintro e w5 ⟨rfl,E0,F4,G1,_⟩;refine⟨_,rfl,?_⟩;obtain⟨j,C⟩:∃j,j=U.put (some 35) (.bool true):=⟨_,rfl⟩;have B6:j.eval (.tmp 35)=.bool true:=by rw[C];exact Act.eval_put_same _ _ _ (by rw[C2];decide)
    have X:j.tmps.size=39:=by rw[C,Act.size_put];exact C2
    show wpOps prog _ _ [8] (U.put (some 35) (.bool true)) w5;rw[←C,wpOps_cons];refine zbb (.bool false) rfl rfl (by revert B6;generalize j.eval=ρ;intro B6;simp only[execOp];go_simp) ?_;obtain⟨J,A⟩:∃J,J=j.put (some 36) (.bool false):=⟨_,rfl⟩;have E9:J.eval (.tmp 36)=.bool false:=by rw[A];exact Act.eval_put_same _ _ _ (by rw[X];decide)
    have f0:J.eval (.tmp 0)=.slice (some ⟨b,off,none⟩) l.length c:=by rw[A,Act.eval_put_ne _ _ _ _ (by decide),C,Act.eval_put_ne _ _ _ _ (by decide)];exact(K.other 0 rfl).trans v0
    have f1:J.eval (.tmp 1)=look:=by rw[A,Act.eval_put_ne _ _ _ _ (by decide),C,Act.eval_put_ne _ _ _ _ (by decide)];exact(K.other 1 rfl).trans v1
    have f2:J.eval (.tmp 2)=undef:=by rw[A,Act.eval_put_ne _ _ _ _ (by decide),C,Act.eval_put_ne _ _ _ _ (by decide)];exact(K.other 2 rfl).trans v2
    have f3:J.eval (.tmp 3)=undef:=by rw[A,Act.eval_put_ne _ _ _ _ (by decide),C,Act.eval_put_ne _ _ _ _ (by decide)];exact(K.other 3 rfl).trans v3
    have f6:J.eval (.tmp 6)=.pointer (some ⟨B,0,none⟩):=by rw[A,Act.eval_put_ne _ _ _ _ (by decide),C,Act.eval_put_ne _ _ _ _ (by decide)];exact(K.other 6 rfl).trans v6
    have f7:J.eval (.tmp 7)=.int .i64 (k:Int):=by rw[A,Act.eval_put_ne _ _ _ _ (by decide),C,Act.eval_put_ne _ _ _ _ (by decide)];exact(K.other 7 rfl).trans v7
    have f9:J.eval (.tmp 9)=.bool true:=by rw[A,Act.eval_put_ne _ _ _ _ (by decide),C,Act.eval_put_ne _ _ _ _ (by decide)];exact(K.other 9 rfl).trans v9
    have F5:J.eval (.tmp 10)=.bool false:=by rw[A,Act.eval_put_ne _ _ _ _ (by decide),C,Act.eval_put_ne _ _ _ _ (by decide)];exact(K.other 10 rfl).trans F1
    have G0:J.eval (.tmp 11)=.pointer (some ⟨B,0,none⟩):=by rw[A,Act.eval_put_ne _ _ _ _ (by decide),C,Act.eval_put_ne _ _ _ _ (by decide)];exact(K.other 11 rfl).trans E7
    have D6:J.eval (.tmp 38)=undef:=by rw[A,Act.eval_put_ne _ _ _ _ (by decide),C,Act.eval_put_ne _ _ _ _ (by decide)];exact(K.other 38 rfl).trans D4
    have m:J=⟨#[_,_,_,_,_,_,_,_,_,_,_,_,_,_,_,_,_,_,_,_,_,_,_,_,_,_,_,_,_,_,_,_,_,_,_,_,_,_,_],[]⟩:=zci J 39 (by rw[A,Act.size_put];exact X) (by rw[A,Act.defers_put',C,Act.defers_put'];exact K.defers.trans D2);dsimp only at m;rw[f0,f1,f2,f3,f6,f7,f9,F5,G0,E9,D6]at m;show KK (j.put (some 36) (.bool false)) _;rw[←A];exact(congrArg (fun y=>KK y _) m).mpr (B3.o (fun k=>J.eval (.tmp k)) _ E0 F4 G1 trivial)
  ·have D7:k=played l:=by omega
   subst D7;have A3:¬((played l:Int)<(l.length:Int))∨¬((played l:Int)<150):=by omega
   clear F2;rcases Classical.em ((played l:Int)<(l.length:Int)) with i1|i1
   ·have i2:¬((played l:Int)<150):=by omega
    clear A3;go_wp2;refine bodyPost_ret (results_tmp2 rfl _ _ _) rfl ⟨B,rfl,O,B2.o,u.o,Z.o⟩
   ·clear A3;go_wp2;refine bodyPost_ret (results_tmp2 rfl _ _ _) rfl ⟨B,rfl,O,B2.o,u.o,Z.o⟩
open Go.Proofs.Tryz
theorem z1c(x0:Value)(k h b n:Int)(s:ByteArray)(c m:Int)(u:ByteArray)(w:World):
  Calls prog 36 #[x0,.agg #[.int .i64 k,.int .i64 h,.int .i64 b,.int .i64 n,.string s],.agg #[.int .i64 c,.int .i64 m,.string u]] w fun e w'=>e=.returned (.bool true)∧Below w.heap.size w w':=by
 go_enter func36,ntmps36;go_wp2;go_ret;exact⟨rfl,zae (zab _ _) (zab _ _)⟩
theorem zr7(o:Oper)(ρ:Operand→Value)(w:World)(x y z:Value)(ts:Array TypeId)(ho:o.op=Op.call {callee:=.value (.tmp 28),args:=#[.tmp 29,.tmp 33,.tmp 34],argTypes:=ts})(h1:ρ (.tmp 28)=.func (.func 36) #[] #[])(h2:ρ (.tmp 29)=x)(h3:ρ (.tmp 33)=y)(h4:ρ (.tmp 34)=z):
  (execOp ρ o).run prog w=.ok (.enter 36 #[x,y,z]) w:=by
 simp only[execOp,ho]
 go_simp
theorem zx5(a:Option Addr)(c:Nat)(l:List Ac)(w:World)(LX:List Nat)(hA:SegA (zas w LX) a l)(hlen:l.length≤maxLen)(hok:∀x∈l,OkA x)(hLX:∀x∈LX,x<w.heap.size):
  Calls prog 21 #[.slice a l.length c,.func (.func 36) #[] #[]] w fun e w'=>∃B,e=.returned (.tuple #[.pointer (some ⟨B,0,none⟩),.bool true])∧w.heap.size≤B∧JAt w' B (B::LX) (jOf l (played l))∧Below w.heap.size w w':=by
 refine(z3g _ 36 (fun x y z=>#[x,y,z]) zr7 a c l w LX hA hlen hok hLX (fun _ W=>Below w.heap.size w W) (Below.refl _ _) ?_ ?_).mono ?_
 ·intro k W I B C F E A;exact C.trans ⟨A.os,A.tape,A.output,A.size,fun q hq=>A.block q (by omega) (by simp;omega)⟩
 ·intro k W B hk hB D J hX;refine(z1c _ _ _ _ _ _ _ _ _ W).mono ?_;rintro e I ⟨rfl,hb⟩;have hs:=D.size;exact⟨rfl,zae D hb,J.below hb,ButL.of_below ⟨hb.os,hb.tape,hb.output,hb.size,fun q hq=>hb.block q (by omega)⟩,hb.size⟩
 ·rintro e w' ⟨B,rfl,C,F,E,_⟩;exact⟨B,rfl,C,E,F⟩
theorem z3t(c n:Int)(t:ByteArray)(w:World):(Instr.field 31 (.agg #[.int .i64 c,.int .i64 n,.string t]) 0).run prog w=.ok (.int .i64 c) w:=by
 simp[Instr.field,go_sem,asAgg]
theorem PJ.of{j:Jn}(h:∃D,Md j D)(h0:0≤j.acts)(h1:j.acts≤400):PJ j:=by
 obtain⟨D,h⟩:=h;exact⟨D,h,h0,h1⟩
theorem zuk(B JB:Nat)(X:List Nat)(j:Jn)(w:World)(hJ:JAt w B X j)(hX:∀y∈X,y<w.heap.size)(hB:w.heap[JB]?=some (.cells #[.pointer (some ⟨B,0,none⟩)] 24 (0,0)))(hn:JB≠B)(hm:∃D,Md j D)(h0:0≤j.acts)(ha:j.acts≤340):
  Calls prog 37 #[.pointer (some ⟨JB,0,none⟩)] w fun e w'=>e=.returned (.bool true)∧∃je,Stp j je∧JAt w' B X je∧ButL [B] w.heap.size w w':=by
 obtain⟨D,hm⟩:=hm;have a:=hm.stepsLen;have h:=(Array.getElem?_eq_some_iff.1 hB).1;have d:Hid (∃A,Rl j A 0∧JAt w B X A∧ButL [B] w.heap.size w w):=⟨j,Rl.refl hm h0,hJ,ButL.refl _ _ _⟩;have s:=zaa hB;have z:=zaa hX;have A0:=z3t;clear hJ hB hX hm h0;go_enter func37,ntmps37;go_wp2_with fail
 go_loopw [2] (fun i wr=>∃q:Nat,q≤50∧i=.int .i64 q∧Hid (∃A,Rl j A q∧JAt wr B X A∧ButL [B] w.heap.size w wr)) (fun i _=>60 - (intOf i).toNat)
 case atStart=>exact⟨0,by omega,by go_num,d⟩
 case round=>
  obtain⟨q,x,rfl,c⟩:=hrel;clear d;obtain⟨A,K,hJ,hb⟩:=c.o;have A2:(q:Int)<60:=by omega
  have A1:=K.a1;have k:=K.a0;have p:=hb.size;have u:wr.cell? ⟨JB,0,none⟩=some (.pointer (some ⟨B,0,none⟩)):=(cell_of_row wr _ 0 _ _ _ ((hb.block JB h (by simpa using hn)).trans s.o)).trans rfl;have l:=PJ.of K.md k (by omega);obtain⟨O,Y⟩:=K.step (by omega);have J:=zaa K;have L:=zaa O;have b:=zaa hJ;have Z:=zaa hb;have C:=zaa Y;have S:=zaa l.ready;clear c K hJ hb O Y l;go_wp2_with fail;refine(zir B X A wr b.o (fun y hy=>by have:=z.o y hy;omega) S.o zcs (show(0:Int)≤9223372036854775807 by decide) (show(⟨#[]⟩:ByteArray).size≤maxLen by decide)).mono ?_;rintro e N ⟨rfl,Q,R⟩;have I:=zaa Q;have F:=zaa (Z.o.trans R p (by simp));clear Q R u b Z S;obtain⟨E,U⟩:∃E,E=(doJ A zcs).2:=⟨_,rfl⟩;rw[←U]at C⊢;rw[show vRp E=.agg #[.int .i64 E.code,.int .i64 E.n,.string E.text] from rfl];clear U;by_cases he:A.steps=[]
  ·have m:Hid (∃je,Stp j je∧JAt N B X je∧ButL [B] w.heap.size w N):=⟨_,J.o.last he (by omega) x,I.o,F.o⟩;have M:E.code=4:=C.o.trans (if_pos he);rw[M];clear he M C J L I F;go_wp2;go_ret;exact⟨rfl,m.o⟩
  ·have A3:=J.o.more a he;have M:E.code=0:=C.o.trans (if_neg he);have r:Hid (∃A,Rl j A (q+1)∧JAt N B X A∧ButL [B] w.heap.size w N):=⟨_,L.o,I.o,F.o⟩;rw[M];clear he M C J L I F;go_wp2
   go_roundw
   case rel=>exact⟨q+1,by omega,by go_num,r⟩
   case measure=>first|(simp[intOf];omega)|simp[intOf]
theorem SegA.takeN{w:World}{a:Option Addr}{l:List Ac}(h:SegA w a l)(q:Nat):SegA w a (l.take q):=by
 rcases h with h0|⟨b,off,rfl,hlt,hc⟩
 ·left;rw[h0];exact List.take_nil
 ·refine .inr ⟨b,off,rfl,hlt,fun i hi=>?_⟩;rw[List.length_take]at hi;have:=hc i (by omega)
  rwa [show(l.take q).getD i ac0=l.getD i ac0 from by rw[List.getD,List.getD,List.getElem?_take,if_pos (by omega)]]
structure SetS (w W:World)(B JB:Nat)(j:Jn):Prop where
 ja:JAt W B [B] j
 box:W.heap[JB]?=some (.cells #[.pointer (some ⟨B,0,none⟩)] 24 (0,0))
 bel:Below w.heap.size w W
 ne:JB≠B
 ge:w.heap.size≤B
theorem SetS.cell{w W:World}{B JB:Nat}{j:Jn}(h:SetS w W B JB j):W.cell? ⟨JB,0,none⟩=some (.pointer (some ⟨B,0,none⟩)):=(cell_of_row W _ 0 _ _ _ h.box).trans rfl
theorem SetS.lt{w W:World}{B JB:Nat}{j:Jn}(h:SetS w W B JB j):JB<W.heap.size:=(Array.getElem?_eq_some_iff.1 h.box).1
theorem SetS.below{w W W':World}{B JB:Nat}{j:Jn}(h:SetS w W B JB j)(hb:Below W.heap.size W W'):SetS w W' B JB j:=⟨h.ja.below hb,zad hb h.lt h.box,zae h.bel hb,h.ne,h.ge⟩
theorem SetS.but{w W W':World}{B JB:Nat}{j j':Jn}(h:SetS w W B JB j)(hb:ButL [B] W.heap.size W W')(hj:JAt W' B [B] j'):SetS w W' B JB j':=
 ⟨hj,(hb.block JB h.lt (by simpa using h.ne)).trans h.box,h.bel.trans ⟨hb.os,hb.tape,hb.output,hb.size,fun q hq=>hb.block q (by have:=h.bel.size;omega) (by have:=h.ge;simp;omega)⟩,h.ne,h.ge⟩
theorem zhj(w W:World)(B JB:Nat)(j:Jn)(h:SetS w W B JB j)(hP:PJ j)(x:Ac)(hn:x.n≤9223372036854775807)(ht:x.text.size≤maxLen):
  Calls prog 15 #[.pointer (some ⟨B,0,none⟩),vAc x] W fun e w'=>e=.returned (vRp (doJ j x).2)∧SetS w w' B JB (doJ j x).1:=by
 refine(zir B [B] j W h.ja (by simpa using h.ja.lt) hP.ready x hn ht).mono ?_;rintro e w' ⟨rfl,C,A⟩;exact⟨rfl,h.but A C⟩
theorem zfk(w W:World)(B JB:Nat)(j:Jn)(h:SetS w W B JB j)(hm:∃D,Md j D)(h0:0≤j.acts)(ha:j.acts≤340):
  Calls prog 37 #[.pointer (some ⟨JB,0,none⟩)] W fun e w'=>e=.returned (.bool true)∧∃je,Stp j je∧SetS w w' B JB je:=by
 refine(zuk B JB [B] j W h.ja (by simpa using h.ja.lt) h.box h.ne hm h0 ha).mono ?_;rintro e w' ⟨rfl,je,E,C,A⟩;exact⟨rfl,je,E,h.but A C⟩
def nmd (t:Tx)(b:Nat):Prop:=zai b t.info=none∧za7 t.rev b=false
structure RB (j:Jn)(b:Nat):Prop where
 r1:j.role b≠1→zgn b (zgn b (newestF j.done b) j.sealed) j.now=none
 r2:zai b j.now.data≠none→j.role b=2
 r3:za7 j.now.rev b=true→j.now.seq≤j.freed b
 r3s:za7 j.sealed.rev b=true→j.last<j.freed b
 r4:zai b j.sealed.data≠none→j.role b=2∨j.last<j.freed b
 r5:j.role b=2→nmd j.sealed b∧nmd j.now b∧newestF j.done b=none
section
variable {j:Jn} {D:Dk} {j':Jn} {D':Dk} {b:Nat}
def unn (l:List Tx)(b:Nat):Prop:=∀t∈l,nmd t b
def At0 (l:List Tx)(D:Dk)(b:Nat)(s:ByteArray):Prop:=newestF l b=some s∨(unn l b∧zal D ((25+b:Nat):Int)=s)
def MT (j:Jn)(D:Dk)(b:Nat)(s:ByteArray):Prop:=j.role b=1∧(zai b j.now.info=some s∨(nmd j.now b∧zai b j.sealed.data=none∧(zai b j.sealed.info=some s∨(nmd j.sealed b∧At0 j.done D b s))))
end
structure Bk where
 now:Int→Option ByteArray
 states:Int→Option (Int→Option ByteArray)
 sealed:Int
 told:Int
 down:Bool
def S0 (j:Jn)(D:Dk)(b:Nat)(s:ByteArray):Prop:=zai b j.now.data=none∧zai b j.sealed.data=none∧(j.role b≠1→j.last<j.freed b)∧At0 j.done D b s
def S1 (j:Jn)(D:Dk)(b:Nat)(s:ByteArray):Prop:=zai b j.now.data=none∧zai b j.sealed.data=none∧(j.role b≠1→j.last+1<j.freed b)∧(zai b j.sealed.info=some s∨(nmd j.sealed b∧At0 j.done D b s))
section
variable {j:Jn} {D:Dk} {j':Jn} {D':Dk} {b:Nat} {s:ByteArray}
end
structure BkI (j:Jn)(D:Dk)(k:Bk):Prop where
 md:Md j D
 a0:0≤j.acts
 a1:j.acts≤400
 dn:k.down=j.down
 told:k.told=j.last
 up:j.down=false→(∃s0,k.states j.last=some s0∧∀b:Nat,b<12→∀s,s0 b=some s→S0 j D b s)∧(j.sealed=zc5 0→k.sealed=j.last)∧
  (j.sealed.seq=j.last+1→k.sealed=j.last+1∧∃s1,k.states (j.last+1)=some s1∧∀b:Nat,b<12→∀s,s1 b=some s→S1 j D b s)∧∀b:Nat,b<12→RB j b∧∀s,k.now b=some s→MT j D b s
 off:j.down=true→j.last≤fndN D - 1∧fndN D - 1≤k.sealed∧∃st,k.states (fndN D - 1)=some st∧∀b:Nat,b<12→∀s,st b=some s→zo2 D b=s∧zcr (fndL D).reverse b=1
