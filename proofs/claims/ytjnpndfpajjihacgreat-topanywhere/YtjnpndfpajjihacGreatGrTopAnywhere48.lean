/-
  
-/
import Derived.Test.YtjnpndfpajjihacGreatGrTopAnywhere43
import Derived.Test.YtjnpndfpajjihacGreatGrTopAnywhere47
import Derived.Test.YtjnpndfpajjihacGreatXTellsP
set_option maxRecDepth 100000
set_option maxHeartbeats 40000000
namespace Go.Proofs.YtjnpndfpajjihacGreat
open Go.Proofs.Tryz
open Go.RowKit
theorem DkFrom.lower{n m:Nat}{v:Value}(h:DkFrom n v)(hm:m≤n):DkFrom m v:=by
 obtain⟨a,l,c,E,D,A,rfl,B,C⟩:=h;exact⟨a,l,c,E,D,A,rfl,fun b o e=>Nat.le_trans hm (B b o e),fun b o e=>Nat.le_trans hm (C b o e)⟩
def okD (bs:Nat)(v0:Value)(d:Dk)(v:Value)(w:World):Prop:=IsDk w v d∧(v=v0∨DkFrom bs v)
theorem okD.below{bs:Nat}{v0:Value}{d:Dk}{v:Value}{w w':World}(h:okD bs v0 d v w)(hb:Below w.heap.size w w'):okD bs v0 d v w':=⟨h.1.below hb,h.2⟩
theorem okD.store{bs:Nat}{v0:Value}{d:Dk}{v:Value}{w:World}(h:okD bs v0 d v w){T:Nat}{a1:Option Addr}{n1 c1:Nat}{a2:Option Addr}{n2 c2:Nat}(hT:w.heap[T]?=some (.cells #[.slice a1 n1 c1,.slice a2 n2 c2] 46 (0,0)))(b1:Option Addr)(m1 k1:Nat)(b2:Option Addr)(m2 k2:Nat):okD bs v0 d v ((w.setCell ⟨T,0,none⟩ (.slice b1 m1 k1)).setCell ⟨T,1,none⟩ (.slice b2 m2 k2)):=
 ⟨(h.1.setBox hT 0 _).setBox (heap_setCell_same _ _ 0 _ _ (.slice b1 m1 k1) hT) 1 _,h.2⟩
def zib (B:Nat)(bs:Nat)(j:Jn)(s:St)(da:Option Addr)(dc:Nat)(db:Option Addr)(dd:Nat)(tb:Nat)(tq:Nat)(tc:Nat)(n:Nat):Nat→Value→World→Prop
 |0,v,_=>v=.pointer (some ⟨B,0,none⟩)
 |1,v,_=>v=.pointer (some ⟨B,0,none⟩)
 |2,v,_=>v=.pointer (some ⟨B,1,none⟩)
 |3,v,_=>v=.agg #[.slice da j.disk.safe.length dc,.slice db j.disk.wr.length dd]
 |4,v,_=>v=.pointer (some ⟨B,0,none⟩)
 |5,v,_=>v=.pointer (some ⟨B,0,none⟩)
 |6,v,_=>v=.pointer (some ⟨B,56,none⟩)
 |7,v,_=>v=.slice (some ⟨tb,tq,none⟩) n tc
 |8,v,_=>v=.pointer (some ⟨tb,tq,none⟩)
 |9,v,_=>v=.agg #[.int .i64 s.1,.int .i64 s.2.1,.string s.2.2]
 |10,v,w=>∃v2,v=.tuple #[v2,.int .i64 (doneE j.disk s)]∧okD bs (.agg #[.slice da j.disk.safe.length dc,.slice db j.disk.wr.length dd]) (zbf j.disk s) v2 w
 |11,v,w=>∃v2,v=.tuple #[v2,.int .i64 (doneE j.disk s)]∧okD bs (.agg #[.slice da j.disk.safe.length dc,.slice db j.disk.wr.length dd]) (zbf j.disk s) v2 w
 |12,v,w=>okD bs (.agg #[.slice da j.disk.safe.length dc,.slice db j.disk.wr.length dd]) (zbf j.disk s) v w
 |13,v,_=>v=.int .i64 (doneE j.disk s)
 |14,v,w=>∃(T:Nat) (a1:Option Addr) (n1 c1:Nat) (a2:Option Addr) (n2 c2:Nat),v=.pointer (some ⟨T,0,none⟩)∧bs≤T∧w.heap[T]?=some (.cells #[.slice a1 n1 c1,.slice a2 n2 c2] 46 (0,0))
 |15,v,w=>∃(T:Nat) (e1:Option Addr) (e2:Nat) (e3:Option Addr) (e4:Nat),v=.pointer (some ⟨T,0,none⟩)∧bs≤T∧w.heap[T]?=some (.cells #[.slice e1 (zbf j.disk s).safe.length e2,.slice e3 (zbf j.disk s).wr.length e4] 46 (0,0))∧okD bs (.agg #[.slice da j.disk.safe.length dc,.slice db j.disk.wr.length dd]) (zbf j.disk s) (.agg #[.slice e1 (zbf j.disk s).safe.length e2,.slice e3 (zbf j.disk s).wr.length e4]) w
 |_,_,_=>True
theorem zks{B:Nat}{bs:Nat}{j:Jn}{s:St}{da:Option Addr}{dc:Nat}{db:Option Addr}{dd:Nat}{tb:Nat}{tq:Nat}{tc:Nat}{n:Nat}{w w':World}(hb:Below w.heap.size w w'){i:Nat}:∀kk uu,kk≠i→zib B bs j s da dc db dd tb tq tc n kk uu w→zib B bs j s da dc db dd tb tq tc n kk uu w':=by
 intro kk uu _ h
 match kk,h with
 |0,h|1,h|2,h|3,h|4,h|5,h|6,h|7,h|8,h|9,h=>exact h
 |10,⟨v2,h1,h2⟩=>exact⟨v2,h1,h2.below hb⟩
 |11,⟨v2,h1,h2⟩=>exact⟨v2,h1,h2.below hb⟩
 |12,h=>exact h.below hb
 |13,h=>exact h
 |14,⟨T,a1,n1,c1,a2,n2,c2,h1,h2,h3⟩=>exact⟨T,a1,n1,c1,a2,n2,c2,h1,h2,zad hb (Array.getElem?_eq_some_iff.1 h3).1 h3⟩
 |15,⟨T,e1,e2,e3,e4,h1,h2,h3,h4⟩=>exact⟨T,e1,e2,e3,e4,h1,h2,zad hb (Array.getElem?_eq_some_iff.1 h3).1 h3,h4.below hb⟩
 |_+16,_=>exact trivial
theorem zr2{B:Nat}{bs:Nat}{j:Jn}{s:St}{da:Option Addr}{dc:Nat}{db:Option Addr}{dd:Nat}{tb:Nat}{tq:Nat}{tc:Nat}{n:Nat}{w:World}{T:Nat}{a1:Option Addr}{n1 c1:Nat}{a2:Option Addr}{n2 c2:Nat}(hT:w.heap[T]?=some (.cells #[.slice a1 n1 c1,.slice a2 n2 c2] 46 (0,0)))(b1:Option Addr)(m1 k1:Nat)(b2:Option Addr)(m2 k2:Nat):∀kk x,kk≠15→zib B bs j s da dc db dd tb tq tc n kk x w→zib B bs j s da dc db dd tb tq tc n kk x ((w.setCell ⟨T,0,none⟩ (.slice b1 m1 k1)).setCell ⟨T,1,none⟩ (.slice b2 m2 k2)):=by
 intro kk x A h
 match kk,h with
 |0,h|1,h|2,h|3,h|4,h|5,h|6,h|7,h|8,h|9,h=>exact h
 |10,⟨y,h1,h2⟩=>exact⟨y,h1,h2.store hT _ _ _ _ _ _⟩
 |11,⟨y,h1,h2⟩=>exact⟨y,h1,h2.store hT _ _ _ _ _ _⟩
 |12,h=>exact h.store hT _ _ _ _ _ _
 |13,h=>exact h
 |14,⟨T',u1,u2,u3,u4,u5,u6,h1,h2,h3⟩=>
  by_cases e:T'=T
  ·subst e;exact⟨T',_,_,_,_,_,_,h1,h2,zjq hT _ _⟩
  ·exact⟨T',u1,u2,u3,u4,u5,u6,h1,h2,(Below.heap_setCell _ _ _ _ e).trans ((Below.heap_setCell _ _ _ _ e).trans h3)⟩
 |15,_=>exact absurd rfl A
 |_+16,_=>exact trivial
def zml (B:Nat)(j:Jn)(X:List Nat)(d2:Dk)(e1:Option Addr)(e2:Nat)(e3:Option Addr)(e4:Nat)(tb:Nat)(tq:Nat)(tc:Nat)(n:Nat)(r:List St):Nat→Value→World→Prop
 |0,v,_=>v=.pointer (some ⟨B,0,none⟩)
 |1,v,_=>v=.pointer (some ⟨B,0,none⟩)
 |2,v,_=>v=.agg #[.slice e1 d2.safe.length e2,.slice e3 d2.wr.length e4]
 |3,v,_=>v=.pointer (some ⟨B,0,none⟩)
 |4,v,_=>v=.pointer (some ⟨B,0,none⟩)
 |5,v,_=>v=.pointer (some ⟨B,56,none⟩)
 |6,v,_=>v=.slice (some ⟨tb,tq,none⟩) n tc
 |7,v,w=>∃c a2,v=.slice a2 r.length c∧r.length≤c∧SegSt (zas w X) a2 r
 |8,v,_=>v=.pointer (some ⟨B,0,none⟩)
 |9,v,_=>v=.pointer (some ⟨B,1,none⟩)
 |10,_,w=>JAt w B X {j with disk:=d2}
 |_,_,_=>True
theorem zt5{B:Nat}{j:Jn}{X:List Nat}{d2:Dk}{e1:Option Addr}{e2:Nat}{e3:Option Addr}{e4:Nat}{tb:Nat}{tq:Nat}{tc:Nat}{n:Nat}{r:List St}{w w':World}(hs:∀a l,SegSt (zas w X) a l→SegSt (zas w' X) a l):∀kk x,kk≠10→zml B j X d2 e1 e2 e3 e4 tb tq tc n r kk x w→zml B j X d2 e1 e2 e3 e4 tb tq tc n r kk x w':=by
 intro kk x A h
 match kk,h with
 |0,h|1,h|2,h|3,h|4,h|5,h|6,h=>exact h
 |7,⟨c,a2,h1,h2,h3⟩=>exact⟨c,a2,h1,h2,hs _ _ h3⟩
 |8,h|9,h=>exact h
 |10,_=>exact absurd rfl A
 |_+11,_=>exact trivial
theorem z0u(B:Nat)(X:List Nat)(j:Jn)(w:World)(h:JAt w B X j)(hX:∀x∈X,x<w.heap.size)(hn:j.done.length≤900)(hf:j.fL.length≤maxLen)(hq:IntKind.i64.wrap (j.fN - 1)=j.fN - 1):
  Calls prog 44 #[.pointer (some ⟨B,0,none⟩)] w (zdg w B X (zfj j)):=by
 have HJ:=zaa h;have L6:=h.lt;have A2:=h.1;have HX:=zaa hX;have HN:=zaa hn;have HF:=zaa hf;have HQ:=zaa hq;clear h hX hn hf hq;have M0:¬w.heap.size=B:=by omega
 go_enter func44,ntmps44;go_wp2_with fail;obtain⟨I,B1⟩:∃I,I=w.alloc (.cells #[.int .i64 0,.int .i64 0,.string ⟨#[]⟩] 31):=⟨_,rfl⟩;have Q:Hid (JAt I B (w.heap.size::X) j):=by rw[B1];exact HJ.o.more (zab _ _) (Nat.le_refl _)
 have K:Hid (ButL [B] w.heap.size w I):=by rw[B1];exact ButL.of_below (zab _ _)
 have KR:Hid (I.heap[w.heap.size]?=some (.cells #[.int .i64 0,.int .i64 0,.string ⟨#[]⟩] 31 (0,0))):=by rw[B1];exact heap_alloc_new _ _
 have E4:I.heap.size=w.heap.size+1:=by rw[B1];simp
 have A6:w.heap.size<I.heap.size:=by omega
 have B0:w.heap.size≠B:=by omega
 have H2:Hid (∀x∈(w.heap.size::X),x<I.heap.size):=fun x hx=>by
  rcases List.mem_cons.1 hx with rfl|hx
  ·exact A6
  ·have:=HX.o x hx;omega
 rw[←B1];clear B1;refine(zfl B (w.heap.size::X) j I Q.o).mono ?_;rintro e w' ⟨rfl,rfl⟩
 cases hst:j.steps with
 |nil=>
  have HE:Hid (zfj j=(j,zat 4)):=by rw[Hid,zfj,hst]
  have B7:decide (0<([]:List St).length)=false:=rfl;rw[B7];clear hst B7;go_wp2_with fail;refine(zau 4 _).mono ?_;rintro e w2 ⟨rfl,D⟩;have N:=zaa (zad D A6 KR.o);have A1:=zaa (Q.o.below D);have A5:=zaa (K.o.trans (Y:=[]) (ButL.of_below D) K.o.size (by simp));clear D;obtain⟨⟨y0,y1,y2⟩,yf⟩:=zbl N.o;go_wp2;exact zbg HE.o N.o A1.o A5.o B0 A2 fun W u0 u1 u2=>by simp[results,results44,go_sem,u0,u1,u2]
 |cons s r=>
  have B7:decide (0<(s::r).length)=true:=by simp
  rw[B7];clear B7;have G4:=zaa hst;obtain⟨_,da,dc,db,dd,na,nc,nb,nd,ne,nf,sa,sc,sb,sd,se,sf,ca,cc,fa,fc,ta,tc,h1,hr⟩:=id Q.o;have C1:Hid (w'.cell? ⟨B,1,none⟩=some (.slice da j.disk.safe.length dc)):=zak h1 1;have C2:Hid (w'.cell? ⟨B,2,none⟩=some (.slice db j.disk.wr.length dd)):=zak h1 2;obtain⟨n,B5⟩:∃n,n=j.steps.length:=⟨_,rfl⟩;have B2:=hr.2.2.2.2.2.1;have C8:=hr.2.2.2.2.2.2.2.1;rw[hst]at B2;obtain⟨R,O,G8,B9,D2⟩:=B2.resolve_left (by simp);have D7:Hid (w'.cell? ⟨B,56,none⟩=some (.slice (some ⟨R,O,none⟩) n tc)):=by rw[Hid,B5,←G8];exact zak h1 56
  have B6:=D2 0 (by simp);simp only[Nat.zero_mul,Nat.add_zero,List.getD_cons_zero]at B6;obtain⟨J6,E6⟩:=zbv B6.1;have S0:=zaa E6;have S1:=zaa (zbv B6.2.1).2;have S2:=zaa (zbv B6.2.2).2
  have C6:Hid (SegSt (zas w' (w.heap.size::X)) (some ⟨R,O+3,none⟩) r):=.inr ⟨R,O+3,rfl,B9,fun i hi=>by
   have:=D2 (i+1) (by simp;omega);rw[show O+(i+1)*3=O+3+i*3 by omega]at this
   simpa using this⟩
  have D8:R<w'.heap.size:=by rw[zbi]at B9;exact B9
  have D6:Hid (n - 1=r.length):=by rw[Hid,B5,hst];simp
  have D1:Hid (1≤n):=by rw[Hid,B5,hst];simp
  have K3:Hid (n≤tc):=by rw[Hid,B5];exact C8
  have G7:=zaa (hr.1.ext (Ext.seenL w' _));have H0:=zaa hr.1;have C0:B<w'.heap.size:=by omega
  clear h1 hr B2 C8 G8 B9 D2 B6 E6 J6 hst B5;have J7:(1:Int)≤(n:Int):=by have:=D1.o;omega
  go_wp2;rename_i KK C9;obtain⟨I,F2⟩:∃I,I=w':=⟨_,rfl⟩;rw[←F2];subst F2
  have E3:∀(g:Nat→Value) (u:World) (T:Nat) (S:Option Addr) (Z:Nat) (U:Option Addr) (b:Nat),I.heap.size≤T→u.heap[T]?=some (.cells #[.slice S (zbf j.disk s).safe.length Z,.slice U (zbf j.disk s).wr.length b] 46 (0,0))→okD I.heap.size (.agg #[.slice da j.disk.safe.length dc,.slice db j.disk.wr.length dd]) (zbf j.disk s) (.agg #[.slice S (zbf j.disk s).safe.length Z,.slice U (zbf j.disk s).wr.length b]) u→Below I.heap.size I u→KK ⟨#[.pointer (some ⟨B,0,none⟩),g 1,.pointer (some ⟨w.heap.size,0,none⟩),.pointer (some ⟨T,0,none⟩),.int .i64 (doneE j.disk s),g 5,g 6,g 7,g 8,g 9,g 10,g 11,g 12,g 13,g 14,g 15,g 16,g 17,g 18,g 19,g 20,g 21,g 22,g 23,g 24,g 25,g 26,g 27,g 28,g 29,g 30,g 31,g 32,g 33,g 34,g 35,g 36,g 37,g 38,g 39,g 40,g 41,g 42,g 43],[]⟩ u:=by
   intro g u T S Z U b A9 m ok A4;apply C9;clear C9;have F8:=zaa (Q.o.below A4);have D5:Hid (ButL [B] w.heap.size w u):=K.o.trans (Y:=[]) (ButL.of_below A4) K.o.size (by simp);have G1:=zaa (zad A4 A6 KR.o);have L8:I.heap.size≤u.heap.size:=A4.size
   have G9:Hid (IsDk (zas u (w.heap.size::X)) (.agg #[.slice S (zbf j.disk s).safe.length Z,.slice U (zbf j.disk s).wr.length b]) (zbf j.disk s)):=by
    rcases ok.2 with e|F
    ·have hd:=H0.o.ext (Ext.freshL A4);have F1:=ok.1;rw[Hid,e];rw[e]at F1;exact hd.asDisk F1
    ·exact ok.1.hideF F H2.o
   have H6:=zaa (zac A4 C0 D7.o);have H4:=zaa (C6.o.ext (Ext.freshL A4));have E0:=zaa m;have F4:T<u.heap.size:=(Array.getElem?_eq_some_iff.1 m).1;have G0:¬T=B:=by omega
   have H5:w.heap.size<u.heap.size:=by omega
   clear A4 m ok C1 C2 D7 S0 S1 S2 C6 G7 H0 Q K KR;obtain⟨L,E1⟩:∃L,L=(zbf j.disk s):=⟨_,rfl⟩;rw[←E1]at G9 E0;have G3:=zaa E1;clear E1;by_cases he:doneE j.disk s=0
   ·have C4:Hid (zfj j=if r=[] then zbp ({j with disk:=L,steps:=r}:Jn) else(({j with disk:=L,steps:=r}:Jn),zat 0)):=by rw[Hid,zfj,G4.o];simp only[he,if_true,G3.o]
    rw[he];clear he G3;go_wp2;rename_i D9 B8
    have C3:∀(g:Nat→Value) (W6:World),JAt W6 B (w.heap.size::X) ({j with disk:=L,steps:=r}:Jn)→ButL [B] u.heap.size u W6→D9 ⟨#[.pointer (some ⟨B,0,none⟩),g 1,.pointer (some ⟨w.heap.size,0,none⟩),g 3,g 4,g 5,g 6,g 7,g 8,g 9,g 10,g 11,g 12,g 13,g 14,g 15,g 16,g 17,g 18,g 19,g 20,g 21,g 22,g 23,g 24,g 25,g 26,g 27,g 28,g 29,g 30,g 31,g 32,g 33,g 34,g 35,g 36,g 37,g 38,g 39,g 40,g 41,g 42,g 43],[]⟩ W6:=by
     intro g W6 E8 C7;apply B8;clear B8;have Q:=zaa E8;have K:Hid (ButL [B] w.heap.size w W6):=D5.o.trans C7 D5.o.size (by simp);have KR:Hid (W6.heap[w.heap.size]?=some (.cells #[.int .i64 0,.int .i64 0,.string ⟨#[]⟩] 31 (0,0))):=(C7.block _ (by omega) (by simpa using B0)).trans G1.o;have L5:u.heap.size≤W6.heap.size:=C7.size;have A6:w.heap.size<W6.heap.size:=by omega
     clear E8 C7;go_wp2_with fail;refine(zfl B (w.heap.size::X) ({j with disk:=L,steps:=r}:Jn) W6 Q.o).mono ?_;rintro e w7 ⟨rfl,rfl⟩;by_cases hre:r=[]
     ·have D4:Hid (zfj j=zbp ({j with disk:=L,steps:=r}:Jn)):=by rw[Hid,C4.o,if_pos hre]
      have B3:decide (0<(({j with disk:=L,steps:=r}:Jn)).steps.length)=false:=by show decide (0<r.length)=false;rw[hre];rfl
      rw[B3];clear B3 C4;go_wp2_with fail;refine(ztz B (w.heap.size::X) ({j with disk:=L,steps:=r}:Jn) w7 Q.o (fun x hx=>by have:=H2.o x hx;omega) HN.o HF.o HQ.o).mono ?_;rintro e w2 ⟨rfl,F6,C5⟩;have N:Hid (w2.heap[w.heap.size]?=some (.cells #[.int .i64 0,.int .i64 0,.string ⟨#[]⟩] 31 (0,0))):=(C5.block _ (by omega) (by simpa using B0)).trans KR.o;have A1:=zaa F6;have A5:Hid (ButL [B] w.heap.size w w2):=K.o.trans C5 K.o.size (by simp);have M1:w7.heap.size≤w2.heap.size:=C5.size;clear F6 C5;obtain⟨P,hP⟩:∃P,P=zbp ({j with disk:=L,steps:=r}:Jn):=⟨_,rfl⟩;rw[←hP]at D4 A1⊢;have J3:Hid (zfj j=(P.1,⟨P.2.code,P.2.n,P.2.text⟩)):=D4.o;rw[show vRp P.2=.agg #[.int .i64 P.2.code,.int .i64 P.2.n,.string P.2.text] from rfl];clear hP D4;obtain⟨⟨y0,y1,y2⟩,yf⟩:=zbl N.o;go_wp2;exact zbg J3.o N.o A1.o A5.o B0 A2 fun W u0 u1 u2=>by simp[results,results44,go_sem,u0,u1,u2]
     ·have HE:Hid (zfj j=(({j with disk:=L,steps:=r}:Jn),zat 0)):=by rw[Hid,C4.o,if_neg hre]
      have B3:decide (0<(({j with disk:=L,steps:=r}:Jn)).steps.length)=true:=by show decide (0<r.length)=true;simpa[List.length_pos_iff] using hre
      rw[B3];clear B3 C4 hre;go_wp2_with fail;refine(zau 0 _).mono ?_;rintro e w2 ⟨rfl,D⟩;have N:=zaa (zad D A6 KR.o);have A1:=zaa (Q.o.below D);have A5:=zaa (K.o.trans (Y:=[]) (ButL.of_below D) K.o.size (by simp));clear D;obtain⟨⟨y0,y1,y2⟩,yf⟩:=zbl N.o;go_wp2;exact zbg HE.o N.o A1.o A5.o B0 A2 fun W u0 u1 u2=>by simp[results,results44,go_sem,u0,u1,u2]
    have E5:=zaa C3;clear C3 B8;have C6:=H4;refine(show∀A0:Act,A0=_→Code.wp prog _ _ A0 _ from fun A0 hA0=>?_) _ rfl;have C:A0.tmps.size=44:=by rw[hA0];rfl
    have E2:A0.defers=[]:=by rw[hA0]
    have v0:A0.eval (.tmp 0)=.pointer (some ⟨B,0,none⟩):=by rw[hA0];rfl
    have M:A0.eval (.tmp 2)=.pointer (some ⟨w.heap.size,0,none⟩):=by rw[hA0];rfl
    have v3:A0.eval (.tmp 3)=.pointer (some ⟨T,0,none⟩):=by rw[hA0];rfl
    clear hA0;refine zbb 11 (fun w'=>(∃d,JAt w' B (w.heap.size::X) {j with disk:=d})∧ButL [B] u.heap.size u w'∧w'.cell? ⟨B,56,none⟩=some (.slice (some ⟨R,O,none⟩) n tc)) [27,28,29,30,31,32,33,34,35,36,36] (zml B j (w.heap.size::X) L S Z U b R O tc n r) (by kernel_rfl) (by kernel_rfl) (by kernel_rfl) (by kernel_rfl) (by decide) (⟨⟨_,F8.o.below (Below.refl _ _).drew⟩,ButL.of_below (Below.refl _ _).drew,H6.o⟩) ⟨?_,?_,?_,?_,?_,?_,?_,?_,?_,?_,?_,trivial⟩ ?_
    ·exact zbd v0 C (fun _=>rfl) fun ρ w' A z=>by simp only[execOp];go_simp
    ·exact zbd v0 C (fun _=>rfl) fun ρ w' A z=>by simp only[execOp];go_simp
    ·exact zbd v3 C (fun _=>rfl) fun ρ w' A z=>by have c0:w'.cell? ⟨T,0,none⟩=some (.slice S L.safe.length Z):=(zgo ((A.2.1.block _ F4 (by simpa using G0)).trans E0.o)).1.1;have c1:w'.cell? ⟨T,1,none⟩=some (.slice U L.wr.length b):=(zgo ((A.2.1.block _ F4 (by simpa using G0)).trans E0.o)).1.2;simp only[execOp];go_simp
    ·exact zbd v0 C (fun _=>rfl) fun ρ w' A z=>by simp only[execOp];go_simp
    ·exact zal 3 30 C (fun _ _ h=>h) (fun _=>rfl) fun ρ w' A p=>by simp only[execOp];go_simp
    ·exact zal 4 31 C (fun _ _ h=>h) (fun _=>rfl) fun ρ w' A p=>by simp only[execOp];go_simp
    ·exact zal 5 32 C (fun _ _ h=>h) (fun _=>rfl) fun ρ w' A p=>by have c0:w'.cell? ⟨B,56,none⟩=some (.slice (some ⟨R,O,none⟩) n tc):=A.2.2;simp only[execOp];go_simp
    ·intro a w' F A J;have p33:a.eval (.tmp 33)=.slice (some ⟨R,O,none⟩) n tc:=J ⟨6,.data⟩ (by simp) rfl;have B2:=C6.o.ext (Ext.butL (A.2.1.wider (Y:=(w.heap.size::X)) (by simp[A2])));have J7:=D1.o;have L4:=K3.o;by_cases C8:tc=1
     ·have L1:n=1:=by omega
      refine zay (.slice (some ⟨R,O,none⟩) 0 0) rfl rfl (by have A3:=Act.eval_const a (.int .i64 1);revert p33 A3;generalize a.eval=ρ;intro p33 A3;simp only[execOp];go_simp) ⟨_,rfl,A,?_,fun _ _ _ h=>h⟩;show zml _ _ _ _ _ _ _ _ _ _ _ _ _ _ ((a.put (some 34) _).eval (.tmp 34)) w';rw[zaq F C (by decide)];have F9:r.length=0:=by have:=D6.o;omega
      exact⟨0,_,by rw[F9],by omega,.inl (List.eq_nil_of_length_eq_zero F9)⟩
     ·refine zay (.slice (some ⟨R,O+3,none⟩) (n - 1) (tc - 1)) rfl rfl (by have A3:=Act.eval_const a (.int .i64 1);revert p33 A3;generalize a.eval=ρ;intro p33 A3;simp only[execOp];go_simp) ⟨_,rfl,A,?_,fun _ _ _ h=>h⟩;show zml _ _ _ _ _ _ _ _ _ _ _ _ _ _ ((a.put (some 34) _).eval (.tmp 34)) w';rw[zaq F C (by decide)];exact⟨tc - 1,_,by rw[D6.o],by have:=D6.o;omega,B2⟩
    ·exact zal 0 27 C (fun _ _ h=>h) (fun _=>rfl) fun ρ w' A p=>by simp only[execOp];go_simp
    ·exact zal 8 35 C (fun _ _ h=>h) (fun _=>rfl) fun ρ w' A p=>by simp only[execOp];go_simp
    ·intro a w' F A J;have p36:a.eval (.tmp 36)=.pointer (some ⟨B,1,none⟩):=J ⟨9,.data⟩ (by simp) rfl;have p29:a.eval (.tmp 29)=.agg #[.slice S L.safe.length Z,.slice U L.wr.length b]:=J ⟨2,.data⟩ (by simp) rfl;obtain⟨⟨d,D3⟩,G2,J5⟩:=A;obtain⟨_,H7,J0,J1,K4,I0,I1,I9,H9,I8,K8,K7,K6,J8,I6,I2,J4,I7,K1,H8,K5,J9,K9,k1,_⟩:=id D3;obtain⟨x1,c1⟩:∃v,w'.cell? ⟨B,1,none⟩=some v:=⟨_,(zak k1 1).trans rfl⟩;obtain⟨x2,c2⟩:∃v,w'.cell? ⟨B,2,none⟩=some v:=⟨_,(zak k1 2).trans rfl⟩;have M3:w'.frozen? ⟨B,1,none⟩=false:=frozen_of_row w' _ _ _ _ k1;have L9:w'.frozen? ⟨B,2,none⟩=false:=frozen_of_row w' _ _ _ _ k1;clear k1;have F0:=G9.o.ext (Ext.butL (G2.wider (Y:=(w.heap.size::X)) (by simp[A2])));refine zce rfl rfl (w':=((w'.setCell ⟨B,1,none⟩ (.slice S L.safe.length Z)).setCell ⟨B,2,none⟩ (.slice U L.wr.length b))) (by revert p36 p29;generalize a.eval=ρ;intro p36 p29;simp only[execOp];go_simp) ⟨_,rfl,⟨⟨_,D3.putDisk F0⟩,?_,?_⟩,?_,zt5 (fun a l h=>(h.ext (Ext.setL (by simp[A2]) 1 _)).ext (Ext.setL (by simp[A2]) 2 _))⟩
     ·exact(G2.set (.inl (by simp)) 1 _).set (.inl (by simp)) 2 _
     ·simp[go_sem,J5]
     ·exact D3.putDisk F0
    ·intro a W F A J;have E9:a.eval (.tmp 28)=.pointer (some ⟨B,0,none⟩):=J 1 (by decide);obtain⟨yc,ya,I4,J2,K2⟩:∃c y,a.eval (.tmp 34)=.slice y r.length c∧r.length≤c∧SegSt (zas W (w.heap.size::X)) y r:=J 7 (by decide);have H3:JAt W B (w.heap.size::X) {j with disk:=L}:=J 10 (by decide);obtain⟨_,H7,J0,J1,K4,I0,I1,I9,H9,I8,K8,K7,K6,J8,I6,I2,J4,I7,K1,H8,K5,J9,K9,k1,_⟩:=id H3;obtain⟨L2,M4⟩:∃v,W.cell? ⟨B,56,none⟩=some v:=⟨_,(zak k1 56).trans rfl⟩;have L0:W.frozen? ⟨B,56,none⟩=false:=frozen_of_row W _ _ _ _ k1;clear k1;have B4:a.tmps.size=44:=F.size.trans C;show wpOps prog _ _ [11,12,13] a W;rw[wpOps_cons];refine zay (.pointer (some ⟨B,0,none⟩)) rfl rfl (by revert E9;generalize a.eval=ρ;intro E9;simp only[execOp];go_simp) ?_;obtain⟨b1,A7⟩:∃b1,b1=a.put (some 37) (.pointer (some ⟨B,0,none⟩)):=⟨_,rfl⟩;have G6:b1.eval (.tmp 37)=.pointer (some ⟨B,0,none⟩):=by rw[A7];exact Act.eval_put_same _ _ _ (by rw[B4];decide)
     have I3:b1.eval (.tmp 34)=.slice ya r.length yc:=by rw[A7,Act.eval_put_ne _ _ _ _ (by decide)];exact I4
     show wpOps prog _ _ [12,13] (a.put (some 37) (.pointer (some ⟨B,0,none⟩))) W;rw[←A7,wpOps_cons];refine zay (.pointer (some ⟨B,56,none⟩)) rfl rfl (by revert G6;generalize b1.eval=ρ;intro G6;simp only[execOp];go_simp) ?_;obtain⟨b2,D⟩:∃b2,b2=b1.put (some 38) (.pointer (some ⟨B,56,none⟩)):=⟨_,rfl⟩;have E4:b1.tmps.size=44:=by rw[A7,Act.size_put];exact B4
     have F5:b2.eval (.tmp 38)=.pointer (some ⟨B,56,none⟩):=by rw[D];exact Act.eval_put_same _ _ _ (by rw[E4];decide)
     have F7:b2.eval (.tmp 34)=.slice ya r.length yc:=by rw[D,Act.eval_put_ne _ _ _ _ (by decide)];exact I3
     show wpOps prog _ _ [13] (b1.put (some 38) (.pointer (some ⟨B,56,none⟩))) W;rw[←D,wpOps_cons];refine zce rfl rfl (w':=W.setCell ⟨B,56,none⟩ (.slice ya r.length yc)) (by revert F5 F7;generalize b2.eval=ρ;intro F5 F7;simp only[execOp];go_simp) ?_;have f0:b2.eval (.tmp 0)=.pointer (some ⟨B,0,none⟩):=by rw[D,Act.eval_put_ne _ _ _ _ (by decide),A7,Act.eval_put_ne _ _ _ _ (by decide)];exact(F.other 0 rfl).trans v0
     have f2:b2.eval (.tmp 2)=.pointer (some ⟨w.heap.size,0,none⟩):=by rw[D,Act.eval_put_ne _ _ _ _ (by decide),A7,Act.eval_put_ne _ _ _ _ (by decide)];exact(F.other 2 rfl).trans M
     have q:b2=⟨#[_,_,_,_,_,_,_,_,_,_,_,_,_,_,_,_,_,_,_,_,_,_,_,_,_,_,_,_,_,_,_,_,_,_,_,_,_,_,_,_,_,_,_,_],[]⟩:=zb9 b2 44 (by rw[D,Act.size_put];exact E4) (by rw[D,Act.defers_put',A7,Act.defers_put'];exact F.defers.trans E2);dsimp only at q;rw[f0,f2]at q;show D9 b2 _;exact(congrArg (fun x=>D9 x _) q).mpr (E5.o (fun k=>b2.eval (.tmp k)) _ (H3.putSteps K2 J2) (A.2.1.set (.inl (by simp)) 56 _))
   ·have HE:Hid (zfj j=(j,zat (doneE j.disk s))):=by rw[Hid,zfj,G4.o];simp only[he,if_false]
    have L3:(doneE j.disk s !=0)=true:=by simpa using he
    clear he;generalize doneE j.disk s=E at *;have Q:=F8;have K:=D5;have KR:=G1;have A6:=H5;go_wp2_with fail;refine(zau E _).mono ?_;rintro e w2 ⟨rfl,D⟩;have N:=zaa (zad D A6 KR.o);have A1:=zaa (Q.o.below D);have A5:=zaa (K.o.trans (Y:=[]) (ButL.of_below D) K.o.size (by simp));clear D;obtain⟨⟨y0,y1,y2⟩,yf⟩:=zbl N.o;go_wp2;exact zbg HE.o N.o A1.o A5.o B0 A2 fun W u0 u1 u2=>by simp[results,results44,go_sem,u0,u1,u2]
  have E7:=zaa E3;clear E3 C9;refine(show∀A0:Act,A0=_→Code.wp prog _ _ A0 _ from fun A0 hA0=>?_) _ rfl;have C:A0.tmps.size=44:=by rw[hA0];rfl
  have E2:A0.defers=[]:=by rw[hA0]
  have v0:A0.eval (.tmp 0)=.pointer (some ⟨B,0,none⟩):=by rw[hA0];rfl
  have M:A0.eval (.tmp 2)=.pointer (some ⟨w.heap.size,0,none⟩):=by rw[hA0];rfl
  clear hA0;refine zbb 16 (fun w'=>Below I.heap.size I w') [10,11,12,13,14,15,16,17,18,19,20,9,21,22,3,3] (zib B I.heap.size j s da dc db dd R O tc n) (by kernel_rfl) (by kernel_rfl) (by kernel_rfl) (by kernel_rfl) (by decide) ((Below.refl _ _).drew) ⟨?_,?_,?_,?_,?_,?_,?_,?_,?_,?_,?_,?_,?_,?_,?_,?_,trivial⟩ ?_
  ·exact zbd v0 C (fun _=>rfl) fun ρ w' A z=>by simp only[execOp];go_simp
  ·exact zal 0 10 C (fun _ _ h=>h) (fun _=>rfl) fun ρ w' A p=>by simp only[execOp];go_simp
  ·exact zal 1 11 C (fun _ _ h=>h) (fun _=>rfl) fun ρ w' A p=>by simp only[execOp];go_simp
  ·exact zal 2 12 C (fun _ _ h=>h) (fun _=>rfl) fun ρ w' A p=>by have c0:w'.cell? ⟨B,1,none⟩=some (.slice da j.disk.safe.length dc):=zac A C0 C1.o;have c1:w'.cell? ⟨B,2,none⟩=some (.slice db j.disk.wr.length dd):=zac A C0 C2.o;simp only[execOp];go_simp
  ·exact zbd v0 C (fun _=>rfl) fun ρ w' A z=>by simp only[execOp];go_simp
  ·exact zal 4 14 C (fun _ _ h=>h) (fun _=>rfl) fun ρ w' A p=>by simp only[execOp];go_simp
  ·exact zal 5 15 C (fun _ _ h=>h) (fun _=>rfl) fun ρ w' A p=>by simp only[execOp];go_simp
  ·exact zal 6 16 C (fun _ _ h=>h) (fun _=>rfl) fun ρ w' A p=>by have c0:w'.cell? ⟨B,56,none⟩=some (.slice (some ⟨R,O,none⟩) n tc):=zac A C0 D7.o;simp only[execOp];go_simp
  ·intro a w' F A J;have F3:a.eval (.tmp 17)=.slice (some ⟨R,O,none⟩) n tc:=J ⟨7,.data⟩ (by simp) rfl;have M2:¬n=0:=by have:=D1.o;omega
   exact zgm _ rfl rfl (by have A3:=Act.eval_const a (.int .i64 0);revert F3 A3;generalize a.eval=ρ;intro F3 A3;simp only[execOp];go_simp) F C A rfl
  ·exact zal 8 18 C (fun _ _ h=>h) (fun _=>rfl) fun ρ w' A p=>by have c0:w'.cell? ⟨R,O,none⟩=some (.int .i64 s.1):=zac A D8 S0.o;have c1:w'.cell? ⟨R,O+1,none⟩=some (.int .i64 s.2.1):=zac A D8 S1.o;have c2:w'.cell? ⟨R,O+2,none⟩=some (.string s.2.2):=zac A D8 S2.o;simp only[execOp];go_simp
  ·intro a w' F A J;have H1:a.eval (.tmp 13)=.agg #[.slice da j.disk.safe.length dc,.slice db j.disk.wr.length dd]:=J ⟨3,.data⟩ (by simp) rfl;have G5:a.eval (.tmp 19)=.agg #[.int .i64 s.1,.int .i64 s.2.1,.string s.2.2]:=J ⟨9,.data⟩ (by simp) rfl;refine zbo 73 #[.agg #[.slice da j.disk.safe.length dc,.slice db j.disk.wr.length dd],.agg #[.int .i64 s.1,.int .i64 s.2.1,.string s.2.2]] rfl rfl (by have pf:=Act.eval_func a 73;revert H1 G5 pf;generalize a.eval=ρ;intro H1 G5 pf;simp only[execOp];go_simp) _ (z2k (.agg #[.slice da j.disk.safe.length dc,.slice db j.disk.wr.length dd]) j.disk s _ (G7.o.below A)) ?_;rintro e w2 ⟨M,rfl,K0,D,I5⟩;refine⟨_,rfl,_,rfl,zae A D,?_,zks D⟩;show zib _ _ _ _ _ _ _ _ _ _ _ _ _ ((a.put (some 20) _).eval (.tmp 20)) w2;rw[zaq F C (by decide)];exact⟨M,rfl,K0,I5.imp id (fun h=>h.lower A.size)⟩
  ·intro a w' F A J;obtain⟨M,pc,ok⟩:∃M,a.eval (.tmp 20)=.tuple #[M,.int .i64 (doneE j.disk s)]∧okD I.heap.size (.agg #[.slice da j.disk.safe.length dc,.slice db j.disk.wr.length dd]) (zbf j.disk s) M w':=J ⟨10,.data⟩ (by simp) rfl;refine zay (.tuple #[M,.int .i64 (doneE j.disk s)]) rfl rfl (by revert pc;generalize a.eval=ρ;intro pc;simp only[execOp];go_simp) ⟨_,rfl,A,?_,fun _ _ _ h=>h⟩;show zib _ _ _ _ _ _ _ _ _ _ _ _ _ ((a.put (some 9) _).eval (.tmp 9)) w';rw[zaq F C (by decide)];exact⟨M,rfl,ok⟩
  ·intro a w' F A J;obtain⟨M,pm,ok⟩:∃M,a.eval (.tmp 9)=.tuple #[M,.int .i64 (doneE j.disk s)]∧okD I.heap.size (.agg #[.slice da j.disk.safe.length dc,.slice db j.disk.wr.length dd]) (zbf j.disk s) M w':=J ⟨11,.data⟩ (by simp) rfl;refine zay (M) rfl rfl (by revert pm;generalize a.eval=ρ;intro pm;simp only[execOp];go_simp) ⟨_,rfl,A,?_,fun _ _ _ h=>h⟩;show zib _ _ _ _ _ _ _ _ _ _ _ _ _ ((a.put (some 21) _).eval (.tmp 21)) w';rw[zaq F C (by decide)];exact ok
  ·intro a w' F A J;obtain⟨M,pm,ok⟩:∃M,a.eval (.tmp 9)=.tuple #[M,.int .i64 (doneE j.disk s)]∧okD I.heap.size (.agg #[.slice da j.disk.safe.length dc,.slice db j.disk.wr.length dd]) (zbf j.disk s) M w':=J ⟨11,.data⟩ (by simp) rfl;exact zgm _ rfl rfl (by revert pm;generalize a.eval=ρ;intro pm;simp only[execOp];go_simp) F C A rfl
  ·intro a w' F A J;refine zfk (.pointer (some ⟨w'.heap.size,0,none⟩)) rfl rfl (w':=w'.alloc (.cells #[.slice none 0 0,.slice none 0 0] 46)) (by simp only[execOp];go_simp) ⟨_,rfl,A.alloc A.size _,?_,zks (zab _ _)⟩;show zib _ _ _ _ _ _ _ _ _ _ _ _ _ ((a.put (some 3) _).eval (.tmp 3)) _;rw[zaq F C (by decide)];exact⟨_,_,_,_,_,_,_,rfl,A.size,heap_alloc_new _ _⟩
  ·intro a w' F A J;obtain⟨T,a1,n1,c1,y,n2,c2,pT,A9,m⟩:∃(T:Nat) (a1:Option Addr) (n1 c1:Nat) (y:Option Addr) (n2 c2:Nat),a.eval (.tmp 3)=.pointer (some ⟨T,0,none⟩)∧I.heap.size≤T∧w'.heap[T]?=some (.cells #[.slice a1 n1 c1,.slice y n2 c2] 46 (0,0)):=J ⟨14,.data⟩ (by simp) rfl;have ok:okD I.heap.size (.agg #[.slice da j.disk.safe.length dc,.slice db j.disk.wr.length dd]) (zbf j.disk s) (a.eval (.tmp 21)) w':=J ⟨12,.data⟩ (by simp) rfl;obtain⟨S,Z,U,b,hv,_⟩:=id ok.1;rw[hv]at ok;obtain⟨⟨t0,t1⟩,tf⟩:=zgo m;refine zce rfl rfl (w':=((w'.setCell ⟨T,0,none⟩ (.slice S (zbf j.disk s).safe.length Z)).setCell ⟨T,1,none⟩ (.slice U (zbf j.disk s).wr.length b))) (by revert pT hv;generalize a.eval=ρ;intro pT hv;simp only[execOp];go_simp) ⟨_,rfl,?_,?_,zr2 m _ _ _ _ _ _⟩
   ·exact(A.setCell (p:=⟨T,0,none⟩) A9 _).setCell (p:=⟨T,1,none⟩) A9 _
   ·show zib _ _ _ _ _ _ _ _ _ _ _ _ _ (a.eval (.tmp 3)) _;exact⟨T,S,Z,U,b,pT,A9,zjq m _ _,ok.store m _ _ _ _ _ _⟩
  ·intro a W F A J;obtain⟨T,S,Z,U,b,pT,A9,m,ok⟩:∃(T:Nat) (S:Option Addr) (Z:Nat) (U:Option Addr) (b:Nat),a.eval (.tmp 3)=.pointer (some ⟨T,0,none⟩)∧I.heap.size≤T∧W.heap[T]?=some (.cells #[.slice S (zbf j.disk s).safe.length Z,.slice U (zbf j.disk s).wr.length b] 46 (0,0))∧okD I.heap.size (.agg #[.slice da j.disk.safe.length dc,.slice db j.disk.wr.length dd]) (zbf j.disk s) (.agg #[.slice S (zbf j.disk s).safe.length Z,.slice U (zbf j.disk s).wr.length b]) W:=J 15 (by decide);have pE:a.eval (.tmp 22)=.int .i64 (doneE j.disk s):=J 13 (by decide);show wpOps prog _ _ [16] a W;rw[wpOps_cons];refine zay (.int .i64 (doneE j.disk s)) rfl rfl (by revert pE;generalize a.eval=ρ;intro pE;simp only[execOp];go_simp) ?_;have B4:a.tmps.size=44:=F.size.trans C;obtain⟨y,A8⟩:∃y,y=a.put (some 4) (.int .i64 (doneE j.disk s)):=⟨_,rfl⟩;have f4:y.eval (.tmp 4)=.int .i64 (doneE j.disk s):=by rw[A8];exact Act.eval_put_same _ _ _ (by rw[B4];decide)
   have f0:y.eval (.tmp 0)=.pointer (some ⟨B,0,none⟩):=by rw[A8,Act.eval_put_ne _ _ _ _ (by decide)];exact(F.other 0 rfl).trans v0
   have f2:y.eval (.tmp 2)=.pointer (some ⟨w.heap.size,0,none⟩):=by rw[A8,Act.eval_put_ne _ _ _ _ (by decide)];exact(F.other 2 rfl).trans M
   have f3:y.eval (.tmp 3)=.pointer (some ⟨T,0,none⟩):=by rw[A8,Act.eval_put_ne _ _ _ _ (by decide)];exact pT
   have q:y=⟨#[_,_,_,_,_,_,_,_,_,_,_,_,_,_,_,_,_,_,_,_,_,_,_,_,_,_,_,_,_,_,_,_,_,_,_,_,_,_,_,_,_,_,_,_],[]⟩:=zb9 y 44 (by rw[A8,Act.size_put];exact B4) (by rw[A8,Act.defers_put'];exact F.defers.trans E2);dsimp only at q;rw[f0,f2,f3,f4]at q;show KK (a.put (some 4) (.int .i64 (doneE j.disk s))) _;rw[←A8];exact(congrArg (fun x=>KK x _) q).mpr (E7.o (fun k=>y.eval (.tmp k)) _ T S Z U b A9 m ok A)
structure Ready (j:Jn):Prop where
 done:j.done.length≤900
 found:j.fL.length≤maxLen
 next:IntKind.i64.wrap (j.fN - 1)=j.fN - 1
 seq:IntKind.i64.wrap (j.now.seq+1)=j.now.seq+1
 last:IntKind.i64.wrap (j.last+1)=j.last+1
 info:j.now.info.length*24≤140737488355328
 data:j.now.data.length*24≤140737488355328
 few:j.down=true→j.steps=[]→∀t∈fndL j.disk,Few t
 used0:0≤j.ru
 used1:j.ru≤24
 acts0:0≤j.acts
 acts1:j.acts≤400
def zoc (B:Nat)(D:Nat)(j:Jn)(X:List Nat)(na:Option Addr)(nc:Nat)(nb:Option Addr)(nd:Nat)(ne:Option Addr)(nf:Nat)(ah:Int)(an:Int):Nat→Value→World→Prop
 |0,v,_=>v=.pointer (some ⟨B,0,none⟩)
 |1,v,_=>v=.pointer (some ⟨B,0,none⟩)
 |2,v,_=>v=.pointer (some ⟨B,0,none⟩)
 |3,v,_=>v=.pointer (some ⟨B,31,none⟩)
 |4,v,_=>v=.agg #[.int .i64 j.now.seq,.slice na j.now.info.length nc,.slice nb j.now.data.length nd,.slice ne j.now.rev.length nf,.bool j.now.h0.on,.int .i64 j.now.h0.left,.bool j.now.h1.on,.int .i64 j.now.h1.left,.bool j.now.h2.on,.int .i64 j.now.h2.left]
 |5,v,_=>v=.pointer (some ⟨D,1,none⟩)
 |6,v,_=>v=.int .i64 ah
 |7,v,_=>v=.pointer (some ⟨D,3,none⟩)
 |8,v,_=>v=.int .i64 an
 |9,v,_=>v=.pointer (some ⟨B,0,none⟩)
 |10,v,_=>v=.pointer (some ⟨B,0,none⟩)
 |11,v,_=>v=.pointer (some ⟨B,3,none⟩)
 |12,v,_=>v=.agg #[.int .i64 j.rh,.int .i64 j.ru]
 |13,v,_=>v=.int .i64 (24 - j.ru)
 |14,v,w=>∃v2,v=.tuple #[v2,.int .i64 (zbe j.now ah an (24 - j.ru))]∧okTx X (zav j.now ah an (24 - j.ru)) v2 undef w
 |15,v,w=>okTx X (zav j.now ah an (24 - j.ru)) v undef w
 |16,v,_=>v=.int .i64 (zbe j.now ah an (24 - j.ru))
 |_,_,_=>True
theorem zkt{B:Nat}{D:Nat}{j:Jn}{X:List Nat}{na:Option Addr}{nc:Nat}{nb:Option Addr}{nd:Nat}{ne:Option Addr}{nf:Nat}{ah:Int}{an:Int}{w w':World}(hb:Below w.heap.size w w'){i:Nat}:∀kk uu,kk≠i→zoc B D j X na nc nb nd ne nf ah an kk uu w→zoc B D j X na nc nb nd ne nf ah an kk uu w':=by
 intro kk uu _ h
 match kk,h with
 |0,h|1,h|2,h|3,h|4,h|5,h|6,h|7,h|8,h|9,h|10,h|11,h|12,h|13,h=>exact h
 |14,⟨v2,h1,h2⟩=>exact⟨v2,h1,h2.below hb⟩
 |15,h=>exact h.below hb
 |16,h=>exact h
 |_+17,_=>exact trivial
def zmo (B:Nat)(D:Nat)(j:Jn)(X:List Nat)(na:Option Addr)(nc:Nat)(nb:Option Addr)(nd:Nat)(ne:Option Addr)(nf:Nat)(ah:Int):Nat→Value→World→Prop
 |0,v,_=>v=.pointer (some ⟨B,0,none⟩)
 |1,v,_=>v=.pointer (some ⟨B,0,none⟩)
 |2,v,_=>v=.pointer (some ⟨B,0,none⟩)
 |3,v,_=>v=.pointer (some ⟨B,31,none⟩)
 |4,v,_=>v=.agg #[.int .i64 j.now.seq,.slice na j.now.info.length nc,.slice nb j.now.data.length nd,.slice ne j.now.rev.length nf,.bool j.now.h0.on,.int .i64 j.now.h0.left,.bool j.now.h1.on,.int .i64 j.now.h1.left,.bool j.now.h2.on,.int .i64 j.now.h2.left]
 |5,v,_=>v=.pointer (some ⟨D,1,none⟩)
 |6,v,_=>v=.int .i64 ah
 |7,v,w=>∃v2,v=.tuple #[v2,.int .i64 (zc7 j.now ah)]∧okTx X (zb5 j.now ah) v2 undef w
 |8,v,w=>okTx X (zb5 j.now ah) v undef w
 |9,v,_=>v=.int .i64 (zc7 j.now ah)
 |_,_,_=>True
theorem zpp{B:Nat}{D:Nat}{j:Jn}{X:List Nat}{na:Option Addr}{nc:Nat}{nb:Option Addr}{nd:Nat}{ne:Option Addr}{nf:Nat}{ah:Int}{w w':World}(hb:Below w.heap.size w w'){i:Nat}:∀kk uu,kk≠i→zmo B D j X na nc nb nd ne nf ah kk uu w→zmo B D j X na nc nb nd ne nf ah kk uu w':=by
 intro kk uu _ h
 match kk,h with
 |0,h|1,h|2,h|3,h|4,h|5,h|6,h=>exact h
 |7,⟨v2,h1,h2⟩=>exact⟨v2,h1,h2.below hb⟩
 |8,h=>exact h.below hb
 |9,h=>exact h
 |_+10,_=>exact trivial
theorem z00(B:Nat)(X:List Nat)(j:Jn)(w:World)(h:JAt w B X j)(hX:∀x∈X,x<w.heap.size)(hK:Ready j)(ah ab an:Int)(at0:ByteArray)(ht:at0.size≤maxLen):
  Calls prog 47 #[.pointer (some ⟨B,0,none⟩),.agg #[.int .i64 1,.int .i64 ah,.int .i64 ab,.int .i64 an,.string at0]] w (zdg w B X (za4 j ⟨1,ah,ab,an,at0⟩)):=by
 have HJ:=zaa h;have E7:=h.lt;have B8:=h.1;have HX:=zaa hX;have C5:=zaa hK.used0;have E0:=zaa hK.used1;have D8:=zaa hK.info;have C7:=zaa hK.data;have E5:=zaa hK.seq;have E6:=zaa hK.last;have F0:=zaa ht;have E9:Hid (j.done.length≤maxLen):=Nat.le_trans hK.done (by unfold maxLen;omega);clear h hX hK ht;have E8:¬w.heap.size=B:=by omega
 have E4:¬w.heap.size+1=B:=by omega
 have C9:Hid (za4 j ⟨1,ah,ab,an,at0⟩=zm1 j (zav j.now ah an (24 - j.ru)) (zbe j.now ah an (24 - j.ru))):=by rw[Hid,za4];simp[]
 obtain⟨P,s⟩:∃P,P=zm1 j (zav j.now ah an (24 - j.ru)) (zbe j.now ah an (24 - j.ru)):=⟨_,rfl⟩;have HE:Hid (za4 j ⟨1,ah,ab,an,at0⟩=(P.1,P.2)):=by rw[Hid,C9.o,←s]
 have D6:=zaa s;clear s;go_enter func47,ntmps47;go_wp2;obtain⟨C,O⟩:∃C,C=(w.alloc (.cells #[.int .i64 1,.int .i64 ah,.int .i64 ab,.int .i64 an,.string at0] 23)).alloc (.cells #[.int .i64 0,.int .i64 0,.string ⟨#[]⟩] 31):=⟨_,rfl⟩;have A4:(w.alloc (.cells #[.int .i64 1,.int .i64 ah,.int .i64 ab,.int .i64 an,.string at0] 23)).heap.size=w.heap.size+1:=by simp
 have B6:Below w.heap.size w C:=by rw[O];exact zae (zab _ _) (zab _ _)
 have B5:Hid (JAt C B ((w.heap.size+1)::X) j):=HJ.o.more B6 (by omega);have A5:Hid (ButL [B] w.heap.size w C):=ButL.of_below B6;have KR:Hid (C.heap[w.heap.size+1]?=some (.cells #[.int .i64 0,.int .i64 0,.string ⟨#[]⟩] 31 (0,0))):=by rw[O,←A4];exact heap_alloc_new _ _
 have KA:Hid (C.heap[w.heap.size]?=some (.cells #[.int .i64 1,.int .i64 ah,.int .i64 ab,.int .i64 an,.string at0] 23 (0,0))):=by rw[O];exact zad (zab _ _) (by omega) (heap_alloc_new _ _)
 have F1:C.heap.size=w.heap.size+2:=by rw[O];simp
 have B1:w.heap.size+1<C.heap.size:=by omega
 have B0:w.heap.size+1≠B:=by omega
 have E2:Hid (∀x∈((w.heap.size+1)::X),x<C.heap.size):=fun x hx=>by
  rcases List.mem_cons.1 hx with rfl|hx
  ·exact B1
  ·have:=HX.o x hx;omega
 rw[←O];clear O A4;rename_i KK q;obtain⟨_,da,dc,db,dd,c,m,i,l,ne,d,sa,sc,sb,sd,se,sf,ca,cc,fa,fc,ta,tc,J,hr⟩:=id B5.o;have C3:Hid (C.cell? ⟨B,3,none⟩=some (.int .i64 j.rh)):=zak J 3;have C4:Hid (C.cell? ⟨B,4,none⟩=some (.int .i64 j.ru)):=zak J 4;have D1:Hid (C.cell? ⟨B,31,none⟩=some (.int .i64 j.now.seq)):=zak J 31;have D4:Hid (C.cell? ⟨B,32,none⟩=some (.slice c j.now.info.length m)):=zak J 32;have B9:Hid (C.cell? ⟨B,33,none⟩=some (.slice i j.now.data.length l)):=zak J 33;have D9:Hid (C.cell? ⟨B,34,none⟩=some (.slice ne j.now.rev.length d)):=zak J 34;have D2:Hid (C.cell? ⟨B,35,none⟩=some (.bool j.now.h0.on)):=zak J 35;have D5:Hid (C.cell? ⟨B,36,none⟩=some (.int .i64 j.now.h0.left)):=zak J 36;have C8:Hid (C.cell? ⟨B,37,none⟩=some (.bool j.now.h1.on)):=zak J 37;have C0:Hid (C.cell? ⟨B,38,none⟩=some (.int .i64 j.now.h1.left)):=zak J 38;have B7:Hid (C.cell? ⟨B,39,none⟩=some (.bool j.now.h2.on)):=zak J 39;have D3:Hid (C.cell? ⟨B,40,none⟩=some (.int .i64 j.now.h2.left)):=zak J 40;have B4:Hid (IsTx (zas C ((w.heap.size+1)::X)) (.agg #[.int .i64 j.now.seq,.slice c j.now.info.length m,.slice i j.now.data.length l,.slice ne j.now.rev.length d,.bool j.now.h0.on,.int .i64 j.now.h0.left,.bool j.now.h1.on,.int .i64 j.now.h1.left,.bool j.now.h2.on,.int .i64 j.now.h2.left]) j.now):=hr.2.1;have C1:=zaa hr.2.2.2.2.2.2.1;clear J hr;obtain⟨⟨z0,z1,z2,z3,z4⟩,_⟩:=zhn KA.o;have A1:=zaa z1;have A3:=zaa z3;clear z0 z1 z2 z3 z4;have E:B<C.heap.size:=by omega
 have B3:w.heap.size<C.heap.size:=by omega
 have y:∀(g:Nat→Value) (W3 M:World),zm1 j (zav j.now ah an (24 - j.ru)) (zbe j.now ah an (24 - j.ru))=P→W3=(((M.setCell ⟨(w.heap.size+1),0,none⟩ (.int .i64 P.2.code)).setCell ⟨(w.heap.size+1),1,none⟩ (.int .i64 P.2.n)).setCell ⟨(w.heap.size+1),2,none⟩ (.string P.2.text))→M.heap[w.heap.size+1]?=some (.cells #[.int .i64 0,.int .i64 0,.string ⟨#[]⟩] 31 (0,0))→JAt M B ((w.heap.size+1)::X) P.1→ButL [B] w.heap.size w M→KK ⟨#[.pointer (some ⟨B,0,none⟩),g 1,g 2,.pointer (some ⟨w.heap.size,0,none⟩),.pointer (some ⟨w.heap.size+1,0,none⟩),g 5,g 6,g 7,g 8,g 9,g 10,g 11,g 12,g 13,g 14,g 15,g 16,g 17,g 18,g 19,g 20,g 21,g 22,g 23,g 24,g 25,g 26,g 27,g 28,g 29,g 30,g 31,g 32,g 33,g 34,g 35,g 36,g 37,g 38,g 39,g 40,g 41,g 42,g 43,g 44,g 45,g 46,g 47,g 48,g 49,g 50,g 51,g 52,g 53,g 54,g 55,g 56,g 57,g 58,g 59,g 60,g 61,g 62,g 63,g 64,g 65,g 66],[]⟩ W3:=by
  intro g W3 M _ hW b U Z;apply q;clear q;have hX:=zgc b (.int .i64 P.2.code) (.int .i64 P.2.n) (.string P.2.text);rw[←hW]at hX;obtain⟨⟨u0,u1,u2⟩,_⟩:=zbl hX;have HW:=zaa hW;clear hW hX;go_wp2;refine bodyPost_ret (v:=.agg #[.int .i64 P.2.code,.int .i64 P.2.n,.string P.2.text]) (by simp[results,results47,go_sem,u0,u1,u2]) rfl ⟨by rw[HE.o];rfl,?_,?_⟩
  ·rw[HE.o,HW.o];exact zw5 U B0 B8 _ _ _
  ·rw[HW.o];exact((Z.set (.inr (by omega)) 0 _).set (.inr (by omega)) 1 _).set (.inr (by omega)) 2 _
 have A2:=zaa y;clear y q;refine(show∀A0:Act,A0=_→Code.wp prog _ _ A0 _ from fun A0 hA0=>?_) _ rfl;have D:A0.tmps.size=67:=by rw[hA0];rfl
 have E1:A0.defers=[]:=by rw[hA0]
 have v0:A0.eval (.tmp 0)=.pointer (some ⟨B,0,none⟩):=by rw[hA0];rfl
 have v3:A0.eval (.tmp 3)=.pointer (some ⟨w.heap.size,0,none⟩):=by rw[hA0];rfl
 have v4:A0.eval (.tmp 4)=.pointer (some ⟨w.heap.size+1,0,none⟩):=by rw[hA0];rfl
 clear hA0;refine zbb 17 (fun w'=>Below C.heap.size C w') [13,14,15,16,17,18,19,20,21,22,23,24,25,26,27,28,29] (zoc B w.heap.size j ((w.heap.size+1)::X) c m i l ne d ah an) (by kernel_rfl) (by kernel_rfl) (by kernel_rfl) (by kernel_rfl) (by decide) ((Below.refl _ _).drew) ⟨?_,?_,?_,?_,?_,?_,?_,?_,?_,?_,?_,?_,?_,?_,?_,?_,?_,trivial⟩ ?_
 ·exact zbd v0 D (fun _=>rfl) fun ρ w' A z=>by simp only[execOp];go_simp
 ·exact zbd v0 D (fun _=>rfl) fun ρ w' A z=>by simp only[execOp];go_simp
 ·exact zal 1 14 D (fun _ _ h=>h) (fun _=>rfl) fun ρ w' A p=>by simp only[execOp];go_simp
 ·exact zal 2 15 D (fun _ _ h=>h) (fun _=>rfl) fun ρ w' A p=>by simp only[execOp];go_simp
 ·exact zal 3 16 D (fun _ _ h=>h) (fun _=>rfl) fun ρ w' A p=>by have c0:w'.cell? ⟨B,31,none⟩=some (.int .i64 j.now.seq):=zac A E D1.o;have c1:w'.cell? ⟨B,32,none⟩=some (.slice c j.now.info.length m):=zac A E D4.o;have c2:w'.cell? ⟨B,33,none⟩=some (.slice i j.now.data.length l):=zac A E B9.o;have c3:w'.cell? ⟨B,34,none⟩=some (.slice ne j.now.rev.length d):=zac A E D9.o;have c4:w'.cell? ⟨B,35,none⟩=some (.bool j.now.h0.on):=zac A E D2.o;have c5:w'.cell? ⟨B,36,none⟩=some (.int .i64 j.now.h0.left):=zac A E D5.o;have c6:w'.cell? ⟨B,37,none⟩=some (.bool j.now.h1.on):=zac A E C8.o;have c7:w'.cell? ⟨B,38,none⟩=some (.int .i64 j.now.h1.left):=zac A E C0.o;have c8:w'.cell? ⟨B,39,none⟩=some (.bool j.now.h2.on):=zac A E B7.o;have c9:w'.cell? ⟨B,40,none⟩=some (.int .i64 j.now.h2.left):=zac A E D3.o;simp only[execOp];go_simp
 ·exact zbd v3 D (fun _=>rfl) fun ρ w' A z=>by simp only[execOp];go_simp
 ·exact zal 5 18 D (fun _ _ h=>h) (fun _=>rfl) fun ρ w' A p=>by have c0:w'.cell? ⟨w.heap.size,1,none⟩=some (.int .i64 ah):=zac A B3 A1.o;simp only[execOp];go_simp
 ·exact zbd v3 D (fun _=>rfl) fun ρ w' A z=>by simp only[execOp];go_simp
 ·exact zal 7 20 D (fun _ _ h=>h) (fun _=>rfl) fun ρ w' A p=>by have c0:w'.cell? ⟨w.heap.size,3,none⟩=some (.int .i64 an):=zac A B3 A3.o;simp only[execOp];go_simp
 ·exact zbd v0 D (fun _=>rfl) fun ρ w' A z=>by simp only[execOp];go_simp
 ·exact zal 9 22 D (fun _ _ h=>h) (fun _=>rfl) fun ρ w' A p=>by simp only[execOp];go_simp
 ·exact zal 10 23 D (fun _ _ h=>h) (fun _=>rfl) fun ρ w' A p=>by simp only[execOp];go_simp
 ·exact zal 11 24 D (fun _ _ h=>h) (fun _=>rfl) fun ρ w' A p=>by have c0:w'.cell? ⟨B,3,none⟩=some (.int .i64 j.rh):=zac A E C3.o;have c1:w'.cell? ⟨B,4,none⟩=some (.int .i64 j.ru):=zac A E C4.o;simp only[execOp];go_simp
 ·intro a w' I A F;have p25:a.eval (.tmp 25)=.agg #[.int .i64 j.rh,.int .i64 j.ru]:=F ⟨12,.data⟩ (by simp) rfl;refine zbo 34 #[.agg #[.int .i64 j.rh,.int .i64 j.ru]] rfl rfl (by have R:=Act.eval_func a 34;revert p25 R;generalize a.eval=ρ;intro p25 R;simp only[execOp];go_simp) _ (zki j.rh j.ru _ C5.o E0.o) ?_;rintro e w2 ⟨rfl,Q⟩;refine⟨_,rfl,_,rfl,zae A Q,?_,zkt Q⟩;show zoc _ _ _ _ _ _ _ _ _ _ _ _ _ ((a.put (some 26) _).eval (.tmp 26)) w2;rw[zaq I D (by decide)];exact rfl
 ·intro a w' I A F;have A8:a.eval (.tmp 17)=.agg #[.int .i64 j.now.seq,.slice c j.now.info.length m,.slice i j.now.data.length l,.slice ne j.now.rev.length d,.bool j.now.h0.on,.int .i64 j.now.h0.left,.bool j.now.h1.on,.int .i64 j.now.h1.left,.bool j.now.h2.on,.int .i64 j.now.h2.left]:=F ⟨4,.data⟩ (by simp) rfl;have B2:a.eval (.tmp 19)=.int .i64 ah:=F ⟨6,.data⟩ (by simp) rfl;have A9:a.eval (.tmp 21)=.int .i64 an:=F ⟨8,.data⟩ (by simp) rfl;have p26:a.eval (.tmp 26)=.int .i64 (24 - j.ru):=F ⟨13,.data⟩ (by simp) rfl;refine zbo 80 #[.agg #[.int .i64 j.now.seq,.slice c j.now.info.length m,.slice i j.now.data.length l,.slice ne j.now.rev.length d,.bool j.now.h0.on,.int .i64 j.now.h0.left,.bool j.now.h1.on,.int .i64 j.now.h1.left,.bool j.now.h2.on,.int .i64 j.now.h2.left],.int .i64 ah,.int .i64 an,.int .i64 (24 - j.ru)] rfl rfl (by have R:=Act.eval_func a 80;revert A8 B2 A9 p26 R;generalize a.eval=ρ;intro A8 B2 A9 p26 R;simp only[execOp];go_simp) _ (ztq _ j.now ah an (24 - j.ru) _ ((B4.o.ext (Ext.seenL C _)).below A) D8.o C7.o) ?_;rintro e w2 ⟨N,rfl,D7,Q,C6⟩;refine⟨_,rfl,_,rfl,zae A Q,?_,zkt Q⟩;show zoc _ _ _ _ _ _ _ _ _ _ _ _ _ ((a.put (some 27) _).eval (.tmp 27)) w2;rw[zaq I D (by decide)];exact⟨N,rfl,okTx.made E2.o B4.o C1.o ⟨A,.inl rfl⟩ D7 Q C6⟩
 ·intro a w' I A F;obtain⟨N,r,ok⟩:∃N,a.eval (.tmp 27)=.tuple #[N,.int .i64 (zbe j.now ah an (24 - j.ru))]∧okTx ((w.heap.size+1)::X) (zav j.now ah an (24 - j.ru)) N undef w':=F ⟨14,.data⟩ (by simp) rfl;refine zay (N) rfl rfl (by revert r;generalize a.eval=ρ;intro r;simp only[execOp];go_simp) ⟨_,rfl,A,?_,fun _ _ _ h=>h⟩;show zoc _ _ _ _ _ _ _ _ _ _ _ _ _ ((a.put (some 28) _).eval (.tmp 28)) w';rw[zaq I D (by decide)];exact ok
 ·intro a w' I A F;obtain⟨N,r,ok⟩:∃N,a.eval (.tmp 27)=.tuple #[N,.int .i64 (zbe j.now ah an (24 - j.ru))]∧okTx ((w.heap.size+1)::X) (zav j.now ah an (24 - j.ru)) N undef w':=F ⟨14,.data⟩ (by simp) rfl;exact zgm _ rfl rfl (by revert r;generalize a.eval=ρ;intro r;simp only[execOp];go_simp) I D A rfl
 ·intro a W I A F;have ok:okTx ((w.heap.size+1)::X) (zav j.now ah an (24 - j.ru)) (a.eval (.tmp 28)) undef W:=F 15 (by decide);have pE:a.eval (.tmp 29)=.int .i64 (zbe j.now ah an (24 - j.ru)):=F 16 (by decide);have pB:a.eval (.tmp 13)=.pointer (some ⟨B,0,none⟩):=F 0 (by decide);have A7:a.tmps.size=67:=I.size.trans D;have E3:=B5.o.below A;obtain⟨u,A6,_⟩:=ok;obtain⟨ua,uc,ub,ud,ue,uf,hv,_⟩:=id u;rw[hv]at u A6;show wpOps prog _ _ [17,18] a W;rw[wpOps_cons];refine zbo 79 #[.pointer (some ⟨B,0,none⟩),.agg #[.int .i64 (zav j.now ah an (24 - j.ru)).seq,.slice ua (zav j.now ah an (24 - j.ru)).info.length uc,.slice ub (zav j.now ah an (24 - j.ru)).data.length ud,.slice ue (zav j.now ah an (24 - j.ru)).rev.length uf,.bool (zav j.now ah an (24 - j.ru)).h0.on,.int .i64 (zav j.now ah an (24 - j.ru)).h0.left,.bool (zav j.now ah an (24 - j.ru)).h1.on,.int .i64 (zav j.now ah an (24 - j.ru)).h1.left,.bool (zav j.now ah an (24 - j.ru)).h2.on,.int .i64 (zav j.now ah an (24 - j.ru)).h2.left],.int .i64 (zbe j.now ah an (24 - j.ru))] rfl rfl (by have R:=Act.eval_func a 79;revert hv pE pB R;generalize a.eval=ρ;intro hv pE pB R;simp only[execOp];go_simp) _ (zjj B ((w.heap.size+1)::X) j W E3 (zav j.now ah an (24 - j.ru)) ua uc ub ud ue uf u A6 (zbe j.now ah an (24 - j.ru))) ?_;rintro e M ⟨rfl,U,Z⟩;refine⟨_,rfl,?_⟩;obtain⟨P0,hP⟩:∃P0,P0=zm1 j (zav j.now ah an (24 - j.ru)) (zbe j.now ah an (24 - j.ru)):=⟨_,rfl⟩;rw[←hP]at U⊢;have C2:P=P0:=D6.o.trans hP.symm;subst C2;obtain⟨K,L⟩:∃K,K=a.put (some 30) (vRp P.2):=⟨_,rfl⟩;have rr:K.eval (.tmp 30)=.agg #[.int .i64 P.2.code,.int .i64 P.2.n,.string P.2.text]:=by rw[L];exact Act.eval_put_same _ _ _ (by rw[A7];decide)
  have r4:K.eval (.tmp 4)=.pointer (some ⟨w.heap.size+1,0,none⟩):=by rw[L,Act.eval_put_ne _ _ _ _ (by decide)];exact(I.other 4 rfl).trans v4
  have r0:K.eval (.tmp 0)=.pointer (some ⟨B,0,none⟩):=by rw[L,Act.eval_put_ne _ _ _ _ (by decide)];exact(I.other 0 rfl).trans v0
  have r3:K.eval (.tmp 3)=.pointer (some ⟨w.heap.size,0,none⟩):=by rw[L,Act.eval_put_ne _ _ _ _ (by decide)];exact(I.other 3 rfl).trans v3
  have b:M.heap[w.heap.size+1]?=some (.cells #[.int .i64 0,.int .i64 0,.string ⟨#[]⟩] 31 (0,0)):=(Z.block _ (by have:=A.size;omega) (by simpa using B0)).trans (zad A B1 KR.o);obtain⟨⟨y0,y1,y2⟩,yf⟩:=zbl b;show wpOps prog _ _ [18] (a.put (some 30) (vRp P.2)) M;rw[←L,wpOps_cons];refine zce rfl rfl (w':=(((M.setCell ⟨(w.heap.size+1),0,none⟩ (.int .i64 P.2.code)).setCell ⟨(w.heap.size+1),1,none⟩ (.int .i64 P.2.n)).setCell ⟨(w.heap.size+1),2,none⟩ (.string P.2.text))) (by revert rr r4;generalize K.eval=ρ;intro rr r4;simp only[execOp];go_simp) ?_;have S:K=⟨#[_,_,_,_,_,_,_,_,_,_,_,_,_,_,_,_,_,_,_,_,_,_,_,_,_,_,_,_,_,_,_,_,_,_,_,_,_,_,_,_,_,_,_,_,_,_,_,_,_,_,_,_,_,_,_,_,_,_,_,_,_,_,_,_,_,_,_],[]⟩:=zb9 K 67 (by rw[L,Act.size_put];exact A7) (by rw[L,Act.defers_put'];exact I.defers.trans E1);dsimp only at S;rw[r0,r3,r4]at S;show KK K _;exact(congrArg (fun x=>KK x _) S).mpr (A2.o (fun k=>K.eval (.tmp k)) _ M hP.symm rfl b U (A5.o.trans (Y:=[B]) ((ButL.of_below A).trans Z A.size (by simp)) A5.o.size (by simp)))
theorem z01(B:Nat)(X:List Nat)(j:Jn)(w:World)(h:JAt w B X j)(hX:∀x∈X,x<w.heap.size)(hK:Ready j)(ah ab an:Int)(at0:ByteArray)(ht:at0.size≤maxLen):
  Calls prog 47 #[.pointer (some ⟨B,0,none⟩),.agg #[.int .i64 5,.int .i64 ah,.int .i64 ab,.int .i64 an,.string at0]] w (zdg w B X (za4 j ⟨5,ah,ab,an,at0⟩)):=by
 have HJ:=zaa h;have E0:=h.lt;have B3:=h.1;have HX:=zaa hX;have D8:=zaa hK.used0;have E4:=zaa hK.used1;have D1:=zaa hK.info;have B9:=zaa hK.data;have D7:=zaa hK.seq;have D9:=zaa hK.last;have E3:=zaa ht;have E2:Hid (j.done.length≤maxLen):=Nat.le_trans hK.done (by unfold maxLen;omega);clear h hX hK ht;have E1:¬w.heap.size=B:=by omega
 have D6:¬w.heap.size+1=B:=by omega
 have C1:Hid (za4 j ⟨5,ah,ab,an,at0⟩=zm1 j (zb5 j.now ah) (zc7 j.now ah)):=by rw[Hid,za4];simp[]
 obtain⟨P,q⟩:∃P,P=zm1 j (zb5 j.now ah) (zc7 j.now ah):=⟨_,rfl⟩;have HE:Hid (za4 j ⟨5,ah,ab,an,at0⟩=(P.1,P.2)):=by rw[Hid,C1.o,←q]
 have C8:=zaa q;clear q;go_enter func47,ntmps47;go_wp2;obtain⟨C,O⟩:∃C,C=(w.alloc (.cells #[.int .i64 5,.int .i64 ah,.int .i64 ab,.int .i64 an,.string at0] 23)).alloc (.cells #[.int .i64 0,.int .i64 0,.string ⟨#[]⟩] 31):=⟨_,rfl⟩;have A3:(w.alloc (.cells #[.int .i64 5,.int .i64 ah,.int .i64 ab,.int .i64 an,.string at0] 23)).heap.size=w.heap.size+1:=by simp
 have B1:Below w.heap.size w C:=by rw[O];exact zae (zab _ _) (zab _ _)
 have B0:Hid (JAt C B ((w.heap.size+1)::X) j):=HJ.o.more B1 (by omega);have A4:Hid (ButL [B] w.heap.size w C):=ButL.of_below B1;have KR:Hid (C.heap[w.heap.size+1]?=some (.cells #[.int .i64 0,.int .i64 0,.string ⟨#[]⟩] 31 (0,0))):=by rw[O,←A3];exact heap_alloc_new _ _
 have KA:Hid (C.heap[w.heap.size]?=some (.cells #[.int .i64 5,.int .i64 ah,.int .i64 ab,.int .i64 an,.string at0] 23 (0,0))):=by rw[O];exact zad (zab _ _) (by omega) (heap_alloc_new _ _)
 have E5:C.heap.size=w.heap.size+2:=by rw[O];simp
 have A8:w.heap.size+1<C.heap.size:=by omega
 have A7:w.heap.size+1≠B:=by omega
 have D4:Hid (∀x∈((w.heap.size+1)::X),x<C.heap.size):=fun x hx=>by
  rcases List.mem_cons.1 hx with rfl|hx
  ·exact A8
  ·have:=HX.o x hx;omega
 rw[←O];clear O A3;rename_i KK l;obtain⟨_,da,dc,db,dd,Z,i,c,d,ne,b,sa,sc,sb,sd,se,sf,ca,cc,fa,fc,ta,tc,J,hr⟩:=id B0.o;have C2:Hid (C.cell? ⟨B,31,none⟩=some (.int .i64 j.now.seq)):=zak J 31;have C5:Hid (C.cell? ⟨B,32,none⟩=some (.slice Z j.now.info.length i)):=zak J 32;have B4:Hid (C.cell? ⟨B,33,none⟩=some (.slice c j.now.data.length d)):=zak J 33;have D2:Hid (C.cell? ⟨B,34,none⟩=some (.slice ne j.now.rev.length b)):=zak J 34;have C3:Hid (C.cell? ⟨B,35,none⟩=some (.bool j.now.h0.on)):=zak J 35;have C6:Hid (C.cell? ⟨B,36,none⟩=some (.int .i64 j.now.h0.left)):=zak J 36;have C0:Hid (C.cell? ⟨B,37,none⟩=some (.bool j.now.h1.on)):=zak J 37;have B5:Hid (C.cell? ⟨B,38,none⟩=some (.int .i64 j.now.h1.left)):=zak J 38;have B2:Hid (C.cell? ⟨B,39,none⟩=some (.bool j.now.h2.on)):=zak J 39;have C4:Hid (C.cell? ⟨B,40,none⟩=some (.int .i64 j.now.h2.left)):=zak J 40;have A9:Hid (IsTx (zas C ((w.heap.size+1)::X)) (.agg #[.int .i64 j.now.seq,.slice Z j.now.info.length i,.slice c j.now.data.length d,.slice ne j.now.rev.length b,.bool j.now.h0.on,.int .i64 j.now.h0.left,.bool j.now.h1.on,.int .i64 j.now.h1.left,.bool j.now.h2.on,.int .i64 j.now.h2.left]) j.now):=hr.2.1;have B6:=zaa hr.2.2.2.2.2.2.1;clear J hr;obtain⟨⟨z0,z1,z2,z3,z4⟩,_⟩:=zhn KA.o;have A1:=zaa z1;clear z0 z1 z2 z3 z4;have E:B<C.heap.size:=by omega
 have C7:w.heap.size<C.heap.size:=by omega
 have y:∀(g:Nat→Value) (W3 M:World),zm1 j (zb5 j.now ah) (zc7 j.now ah)=P→W3=(((M.setCell ⟨(w.heap.size+1),0,none⟩ (.int .i64 P.2.code)).setCell ⟨(w.heap.size+1),1,none⟩ (.int .i64 P.2.n)).setCell ⟨(w.heap.size+1),2,none⟩ (.string P.2.text))→M.heap[w.heap.size+1]?=some (.cells #[.int .i64 0,.int .i64 0,.string ⟨#[]⟩] 31 (0,0))→JAt M B ((w.heap.size+1)::X) P.1→ButL [B] w.heap.size w M→KK ⟨#[.pointer (some ⟨B,0,none⟩),g 1,g 2,.pointer (some ⟨w.heap.size,0,none⟩),.pointer (some ⟨w.heap.size+1,0,none⟩),g 5,g 6,g 7,g 8,g 9,g 10,g 11,g 12,g 13,g 14,g 15,g 16,g 17,g 18,g 19,g 20,g 21,g 22,g 23,g 24,g 25,g 26,g 27,g 28,g 29,g 30,g 31,g 32,g 33,g 34,g 35,g 36,g 37,g 38,g 39,g 40,g 41,g 42,g 43,g 44,g 45,g 46,g 47,g 48,g 49,g 50,g 51,g 52,g 53,g 54,g 55,g 56,g 57,g 58,g 59,g 60,g 61,g 62,g 63,g 64,g 65,g 66],[]⟩ W3:=by
  intro g W3 M _ hW U R S;apply l;clear l;have hX:=zgc U (.int .i64 P.2.code) (.int .i64 P.2.n) (.string P.2.text);rw[←hW]at hX;obtain⟨⟨u0,u1,u2⟩,_⟩:=zbl hX;have HW:=zaa hW;clear hW hX;go_wp2;refine bodyPost_ret (v:=.agg #[.int .i64 P.2.code,.int .i64 P.2.n,.string P.2.text]) (by simp[results,results47,go_sem,u0,u1,u2]) rfl ⟨by rw[HE.o];rfl,?_,?_⟩
  ·rw[HE.o,HW.o];exact zw5 R A7 B3 _ _ _
  ·rw[HW.o];exact((S.set (.inr (by omega)) 0 _).set (.inr (by omega)) 1 _).set (.inr (by omega)) 2 _
 have A2:=zaa y;clear y l;refine(show∀A0:Act,A0=_→Code.wp prog _ _ A0 _ from fun A0 hA0=>?_) _ rfl;have D:A0.tmps.size=67:=by rw[hA0];rfl
 have D3:A0.defers=[]:=by rw[hA0]
 have v0:A0.eval (.tmp 0)=.pointer (some ⟨B,0,none⟩):=by rw[hA0];rfl
 have v3:A0.eval (.tmp 3)=.pointer (some ⟨w.heap.size,0,none⟩):=by rw[hA0];rfl
 have v4:A0.eval (.tmp 4)=.pointer (some ⟨w.heap.size+1,0,none⟩):=by rw[hA0];rfl
 clear hA0;refine zbb 10 (fun w'=>Below C.heap.size C w') [33,34,35,36,37,38,39,40,41,42] (zmo B w.heap.size j ((w.heap.size+1)::X) Z i c d ne b ah) (by kernel_rfl) (by kernel_rfl) (by kernel_rfl) (by kernel_rfl) (by decide) ((Below.refl _ _).drew) ⟨?_,?_,?_,?_,?_,?_,?_,?_,?_,?_,trivial⟩ ?_
 ·exact zbd v0 D (fun _=>rfl) fun ρ w' A z=>by simp only[execOp];go_simp
 ·exact zbd v0 D (fun _=>rfl) fun ρ w' A z=>by simp only[execOp];go_simp
 ·exact zal 1 34 D (fun _ _ h=>h) (fun _=>rfl) fun ρ w' A p=>by simp only[execOp];go_simp
 ·exact zal 2 35 D (fun _ _ h=>h) (fun _=>rfl) fun ρ w' A p=>by simp only[execOp];go_simp
 ·exact zal 3 36 D (fun _ _ h=>h) (fun _=>rfl) fun ρ w' A p=>by have c0:w'.cell? ⟨B,31,none⟩=some (.int .i64 j.now.seq):=zac A E C2.o;have c1:w'.cell? ⟨B,32,none⟩=some (.slice Z j.now.info.length i):=zac A E C5.o;have c2:w'.cell? ⟨B,33,none⟩=some (.slice c j.now.data.length d):=zac A E B4.o;have c3:w'.cell? ⟨B,34,none⟩=some (.slice ne j.now.rev.length b):=zac A E D2.o;have c4:w'.cell? ⟨B,35,none⟩=some (.bool j.now.h0.on):=zac A E C3.o;have c5:w'.cell? ⟨B,36,none⟩=some (.int .i64 j.now.h0.left):=zac A E C6.o;have c6:w'.cell? ⟨B,37,none⟩=some (.bool j.now.h1.on):=zac A E C0.o;have c7:w'.cell? ⟨B,38,none⟩=some (.int .i64 j.now.h1.left):=zac A E B5.o;have c8:w'.cell? ⟨B,39,none⟩=some (.bool j.now.h2.on):=zac A E B2.o;have c9:w'.cell? ⟨B,40,none⟩=some (.int .i64 j.now.h2.left):=zac A E C4.o;simp only[execOp];go_simp
 ·exact zbd v3 D (fun _=>rfl) fun ρ w' A z=>by simp only[execOp];go_simp
 ·exact zal 5 38 D (fun _ _ h=>h) (fun _=>rfl) fun ρ w' A p=>by have c0:w'.cell? ⟨w.heap.size,1,none⟩=some (.int .i64 ah):=zac A C7 A1.o;simp only[execOp];go_simp
 ·intro a w' F A L;have p37:a.eval (.tmp 37)=.agg #[.int .i64 j.now.seq,.slice Z j.now.info.length i,.slice c j.now.data.length d,.slice ne j.now.rev.length b,.bool j.now.h0.on,.int .i64 j.now.h0.left,.bool j.now.h1.on,.int .i64 j.now.h1.left,.bool j.now.h2.on,.int .i64 j.now.h2.left]:=L ⟨4,.data⟩ (by simp) rfl;have p39:a.eval (.tmp 39)=.int .i64 ah:=L ⟨6,.data⟩ (by simp) rfl;refine zbo 81 #[.agg #[.int .i64 j.now.seq,.slice Z j.now.info.length i,.slice c j.now.data.length d,.slice ne j.now.rev.length b,.bool j.now.h0.on,.int .i64 j.now.h0.left,.bool j.now.h1.on,.int .i64 j.now.h1.left,.bool j.now.h2.on,.int .i64 j.now.h2.left],.int .i64 ah] rfl rfl (by have u:=Act.eval_func a 81;revert p37 p39 u;generalize a.eval=ρ;intro p37 p39 u;simp only[execOp];go_simp) _ (zx2 _ j.now ah _ ((A9.o.ext (Ext.seenL C _)).below A) D1.o B9.o) ?_;rintro e w2 ⟨N,rfl,C9,r,B8⟩;refine⟨_,rfl,_,rfl,zae A r,?_,zpp r⟩;show zmo _ _ _ _ _ _ _ _ _ _ _ _ ((a.put (some 40) _).eval (.tmp 40)) w2;rw[zaq F D (by decide)];exact⟨N,rfl,okTx.made D4.o A9.o B6.o ⟨A,.inl rfl⟩ C9 r B8⟩
 ·intro a w' F A L;obtain⟨N,m,ok⟩:∃N,a.eval (.tmp 40)=.tuple #[N,.int .i64 (zc7 j.now ah)]∧okTx ((w.heap.size+1)::X) (zb5 j.now ah) N undef w':=L ⟨7,.data⟩ (by simp) rfl;refine zay (N) rfl rfl (by revert m;generalize a.eval=ρ;intro m;simp only[execOp];go_simp) ⟨_,rfl,A,?_,fun _ _ _ h=>h⟩;show zmo _ _ _ _ _ _ _ _ _ _ _ _ ((a.put (some 41) _).eval (.tmp 41)) w';rw[zaq F D (by decide)];exact ok
 ·intro a w' F A L;obtain⟨N,m,ok⟩:∃N,a.eval (.tmp 40)=.tuple #[N,.int .i64 (zc7 j.now ah)]∧okTx ((w.heap.size+1)::X) (zb5 j.now ah) N undef w':=L ⟨7,.data⟩ (by simp) rfl;exact zgm _ rfl rfl (by revert m;generalize a.eval=ρ;intro m;simp only[execOp];go_simp) F D A rfl
 ·intro a W F A L;have ok:okTx ((w.heap.size+1)::X) (zb5 j.now ah) (a.eval (.tmp 41)) undef W:=L 8 (by decide);have pE:a.eval (.tmp 42)=.int .i64 (zc7 j.now ah):=L 9 (by decide);have pB:a.eval (.tmp 33)=.pointer (some ⟨B,0,none⟩):=L 0 (by decide);have A6:a.tmps.size=67:=F.size.trans D;have D5:=B0.o.below A;obtain⟨s,A5,_⟩:=ok;obtain⟨ua,uc,ub,ud,ue,uf,hv,_⟩:=id s;rw[hv]at s A5;show wpOps prog _ _ [10,11] a W;rw[wpOps_cons];refine zbo 79 #[.pointer (some ⟨B,0,none⟩),.agg #[.int .i64 (zb5 j.now ah).seq,.slice ua (zb5 j.now ah).info.length uc,.slice ub (zb5 j.now ah).data.length ud,.slice ue (zb5 j.now ah).rev.length uf,.bool (zb5 j.now ah).h0.on,.int .i64 (zb5 j.now ah).h0.left,.bool (zb5 j.now ah).h1.on,.int .i64 (zb5 j.now ah).h1.left,.bool (zb5 j.now ah).h2.on,.int .i64 (zb5 j.now ah).h2.left],.int .i64 (zc7 j.now ah)] rfl rfl (by have u:=Act.eval_func a 79;revert hv pE pB u;generalize a.eval=ρ;intro hv pE pB u;simp only[execOp];go_simp) _ (zjj B ((w.heap.size+1)::X) j W D5 (zb5 j.now ah) ua uc ub ud ue uf s A5 (zc7 j.now ah)) ?_;rintro e M ⟨rfl,R,S⟩;refine⟨_,rfl,?_⟩;obtain⟨P0,hP⟩:∃P0,P0=zm1 j (zb5 j.now ah) (zc7 j.now ah):=⟨_,rfl⟩;rw[←hP]at R⊢;have B7:P=P0:=C8.o.trans hP.symm;subst B7;obtain⟨I,K⟩:∃I,I=a.put (some 43) (vRp P.2):=⟨_,rfl⟩;have rr:I.eval (.tmp 43)=.agg #[.int .i64 P.2.code,.int .i64 P.2.n,.string P.2.text]:=by rw[K];exact Act.eval_put_same _ _ _ (by rw[A6];decide)
  have r4:I.eval (.tmp 4)=.pointer (some ⟨w.heap.size+1,0,none⟩):=by rw[K,Act.eval_put_ne _ _ _ _ (by decide)];exact(F.other 4 rfl).trans v4
  have r0:I.eval (.tmp 0)=.pointer (some ⟨B,0,none⟩):=by rw[K,Act.eval_put_ne _ _ _ _ (by decide)];exact(F.other 0 rfl).trans v0
  have r3:I.eval (.tmp 3)=.pointer (some ⟨w.heap.size,0,none⟩):=by rw[K,Act.eval_put_ne _ _ _ _ (by decide)];exact(F.other 3 rfl).trans v3
  have U:M.heap[w.heap.size+1]?=some (.cells #[.int .i64 0,.int .i64 0,.string ⟨#[]⟩] 31 (0,0)):=(S.block _ (by have:=A.size;omega) (by simpa using A7)).trans (zad A A8 KR.o);obtain⟨⟨y0,y1,y2⟩,yf⟩:=zbl U;show wpOps prog _ _ [11] (a.put (some 43) (vRp P.2)) M;rw[←K,wpOps_cons];refine zce rfl rfl (w':=(((M.setCell ⟨(w.heap.size+1),0,none⟩ (.int .i64 P.2.code)).setCell ⟨(w.heap.size+1),1,none⟩ (.int .i64 P.2.n)).setCell ⟨(w.heap.size+1),2,none⟩ (.string P.2.text))) (by revert rr r4;generalize I.eval=ρ;intro rr r4;simp only[execOp];go_simp) ?_;have Q:I=⟨#[_,_,_,_,_,_,_,_,_,_,_,_,_,_,_,_,_,_,_,_,_,_,_,_,_,_,_,_,_,_,_,_,_,_,_,_,_,_,_,_,_,_,_,_,_,_,_,_,_,_,_,_,_,_,_,_,_,_,_,_,_,_,_,_,_,_,_],[]⟩:=zb9 I 67 (by rw[K,Act.size_put];exact A6) (by rw[K,Act.defers_put'];exact F.defers.trans D3);dsimp only at Q;rw[r0,r3,r4]at Q;show KK I _;exact(congrArg (fun x=>KK x _) Q).mpr (A2.o (fun k=>I.eval (.tmp k)) _ M hP.symm rfl U R (A4.o.trans (Y:=[B]) ((ButL.of_below A).trans S A.size (by simp)) A4.o.size (by simp)))
theorem z02(B:Nat)(X:List Nat)(j:Jn)(w:World)(h:JAt w B X j)(hX:∀x∈X,x<w.heap.size)(hK:Ready j)(ah ab an:Int)(at0:ByteArray)(ht:at0.size≤maxLen):
  Calls prog 47 #[.pointer (some ⟨B,0,none⟩),.agg #[.int .i64 2,.int .i64 ah,.int .i64 ab,.int .i64 an,.string at0]] w (zdg w B X (za4 j ⟨2,ah,ab,an,at0⟩)):=by
 have k:=zaa h;have A7:=h.lt;have U:=h.1;have l:=zaa hX;have A1:=zaa hK.used0;have A3:=zaa hK.used1;have Q:=zaa hK.info;have S:=zaa hK.data;have A9:=zaa hK.seq;have A4:=zaa hK.last;have Z:=zaa ht;have A5:Hid (j.done.length≤maxLen):=Nat.le_trans hK.done (by unfold maxLen;omega);clear h hX hK ht;have A2:¬w.heap.size=B:=by omega
 have A0:¬w.heap.size+1=B:=by omega
 have N:Hid (za4 j ⟨2,ah,ab,an,at0⟩=zg5 j ⟨2,ah,ab,an,at0⟩):=by rw[Hid,za4];simp[]
 go_enter func47,ntmps47;go_wp2_with fail;obtain⟨A,C⟩:∃A,A=(w.alloc (.cells #[.int .i64 2,.int .i64 ah,.int .i64 ab,.int .i64 an,.string at0] 23)).alloc (.cells #[.int .i64 0,.int .i64 0,.string ⟨#[]⟩] 31):=⟨_,rfl⟩;have J:(w.alloc (.cells #[.int .i64 2,.int .i64 ah,.int .i64 ab,.int .i64 an,.string at0] 23)).heap.size=w.heap.size+1:=by simp
 have M:Below w.heap.size w A:=by rw[C];exact zae (zab _ _) (zab _ _)
 have Y:Hid (JAt A B ((w.heap.size+1)::X) j):=k.o.more M (by omega);have K:Hid (ButL [B] w.heap.size w A):=ButL.of_below M;have i:Hid (A.heap[w.heap.size+1]?=some (.cells #[.int .i64 0,.int .i64 0,.string ⟨#[]⟩] 31 (0,0))):=by rw[C,←J];exact heap_alloc_new _ _
 have KA:Hid (A.heap[w.heap.size]?=some (.cells #[.int .i64 2,.int .i64 ah,.int .i64 ab,.int .i64 an,.string at0] 23 (0,0))):=by rw[C];exact zad (zab _ _) (by omega) (heap_alloc_new _ _)
 have A6:A.heap.size=w.heap.size+2:=by rw[C];simp
 have d:w.heap.size+1<A.heap.size:=by omega
 have L:w.heap.size+1≠B:=by omega
 have a:Hid (∀x∈((w.heap.size+1)::X),x<A.heap.size):=fun x hx=>by
  rcases List.mem_cons.1 hx with rfl|hx
  ·exact d
  ·have:=l.o x hx;omega
 rw[←C];clear C J;refine(zx0 B ((w.heap.size+1)::X) j A Y.o a.o ⟨2,ah,ab,an,at0⟩ Z.o Q.o S.o).mono ?_;rintro e O ⟨rfl,F,D⟩;have E:Hid (O.heap[w.heap.size+1]?=some (.cells #[.int .i64 0,.int .i64 0,.string ⟨#[]⟩] 31 (0,0))):=(D.block _ (by omega) (by simpa using L)).trans i.o;have I:=zaa F;have b:Hid (ButL [B] w.heap.size w O):=K.o.trans D K.o.size (by simp);have A8:A.heap.size≤O.heap.size:=D.size;clear F D;obtain⟨P,c⟩:∃P,P=zg5 j ⟨2,ah,ab,an,at0⟩:=⟨_,rfl⟩;rw[←c]at N I⊢;have R:Hid (za4 j ⟨2,ah,ab,an,at0⟩=(P.1,⟨P.2.code,P.2.n,P.2.text⟩)):=N.o;rw[show vRp P.2=.agg #[.int .i64 P.2.code,.int .i64 P.2.n,.string P.2.text] from rfl];clear c N;obtain⟨⟨y0,y1,y2⟩,yf⟩:=zbl E.o;go_wp2;exact zbg R.o E.o I.o b.o L U fun W u0 u1 u2=>by simp[results,results47,go_sem,u0,u1,u2]
theorem z03(B:Nat)(X:List Nat)(j:Jn)(w:World)(h:JAt w B X j)(hX:∀x∈X,x<w.heap.size)(hK:Ready j)(ah ab an:Int)(at0:ByteArray)(ht:at0.size≤maxLen):
  Calls prog 47 #[.pointer (some ⟨B,0,none⟩),.agg #[.int .i64 3,.int .i64 ah,.int .i64 ab,.int .i64 an,.string at0]] w (zdg w B X (za4 j ⟨3,ah,ab,an,at0⟩)):=by
 have k:=zaa h;have A7:=h.lt;have U:=h.1;have l:=zaa hX;have A1:=zaa hK.used0;have A3:=zaa hK.used1;have Q:=zaa hK.info;have S:=zaa hK.data;have A9:=zaa hK.seq;have A4:=zaa hK.last;have Z:=zaa ht;have A5:Hid (j.done.length≤maxLen):=Nat.le_trans hK.done (by unfold maxLen;omega);clear h hX hK ht;have A2:¬w.heap.size=B:=by omega
 have A0:¬w.heap.size+1=B:=by omega
 have N:Hid (za4 j ⟨3,ah,ab,an,at0⟩=zjx j ⟨3,ah,ab,an,at0⟩):=by rw[Hid,za4];simp[]
 go_enter func47,ntmps47;go_wp2_with fail;obtain⟨A,C⟩:∃A,A=(w.alloc (.cells #[.int .i64 3,.int .i64 ah,.int .i64 ab,.int .i64 an,.string at0] 23)).alloc (.cells #[.int .i64 0,.int .i64 0,.string ⟨#[]⟩] 31):=⟨_,rfl⟩;have J:(w.alloc (.cells #[.int .i64 3,.int .i64 ah,.int .i64 ab,.int .i64 an,.string at0] 23)).heap.size=w.heap.size+1:=by simp
 have M:Below w.heap.size w A:=by rw[C];exact zae (zab _ _) (zab _ _)
 have Y:Hid (JAt A B ((w.heap.size+1)::X) j):=k.o.more M (by omega);have K:Hid (ButL [B] w.heap.size w A):=ButL.of_below M;have i:Hid (A.heap[w.heap.size+1]?=some (.cells #[.int .i64 0,.int .i64 0,.string ⟨#[]⟩] 31 (0,0))):=by rw[C,←J];exact heap_alloc_new _ _
 have KA:Hid (A.heap[w.heap.size]?=some (.cells #[.int .i64 3,.int .i64 ah,.int .i64 ab,.int .i64 an,.string at0] 23 (0,0))):=by rw[C];exact zad (zab _ _) (by omega) (heap_alloc_new _ _)
 have A6:A.heap.size=w.heap.size+2:=by rw[C];simp
 have d:w.heap.size+1<A.heap.size:=by omega
 have L:w.heap.size+1≠B:=by omega
 have a:Hid (∀x∈((w.heap.size+1)::X),x<A.heap.size):=fun x hx=>by
  rcases List.mem_cons.1 hx with rfl|hx
  ·exact d
  ·have:=l.o x hx;omega
 rw[←C];clear C J;refine(z0v B ((w.heap.size+1)::X) j A Y.o a.o ⟨3,ah,ab,an,at0⟩ Z.o Q.o S.o).mono ?_;rintro e O ⟨rfl,F,D⟩;have E:Hid (O.heap[w.heap.size+1]?=some (.cells #[.int .i64 0,.int .i64 0,.string ⟨#[]⟩] 31 (0,0))):=(D.block _ (by omega) (by simpa using L)).trans i.o;have I:=zaa F;have b:Hid (ButL [B] w.heap.size w O):=K.o.trans D K.o.size (by simp);have A8:A.heap.size≤O.heap.size:=D.size;clear F D;obtain⟨P,c⟩:∃P,P=zjx j ⟨3,ah,ab,an,at0⟩:=⟨_,rfl⟩;rw[←c]at N I⊢;have R:Hid (za4 j ⟨3,ah,ab,an,at0⟩=(P.1,⟨P.2.code,P.2.n,P.2.text⟩)):=N.o;rw[show vRp P.2=.agg #[.int .i64 P.2.code,.int .i64 P.2.n,.string P.2.text] from rfl];clear c N;obtain⟨⟨y0,y1,y2⟩,yf⟩:=zbl E.o;go_wp2;exact zbg R.o E.o I.o b.o L U fun W u0 u1 u2=>by simp[results,results47,go_sem,u0,u1,u2]
theorem z04(B:Nat)(X:List Nat)(j:Jn)(w:World)(h:JAt w B X j)(hX:∀x∈X,x<w.heap.size)(hK:Ready j)(ah ab an:Int)(at0:ByteArray)(ht:at0.size≤maxLen):
  Calls prog 47 #[.pointer (some ⟨B,0,none⟩),.agg #[.int .i64 4,.int .i64 ah,.int .i64 ab,.int .i64 an,.string at0]] w (zdg w B X (za4 j ⟨4,ah,ab,an,at0⟩)):=by
 have i:=zaa h;have A8:=h.lt;have U:=h.1;have k:=zaa hX;have A1:=zaa hK.used0;have A3:=zaa hK.used1;have Q:=zaa hK.info;have S:=zaa hK.data;have B0:=zaa hK.seq;have A4:=zaa hK.last;have A7:=zaa ht;have A5:Hid (j.done.length≤maxLen):=Nat.le_trans hK.done (by unfold maxLen;omega);clear h hX hK ht;have A2:¬w.heap.size=B:=by omega
 have A0:¬w.heap.size+1=B:=by omega
 have N:Hid (za4 j ⟨4,ah,ab,an,at0⟩=ze0 j ⟨4,ah,ab,an,at0⟩):=by rw[Hid,za4];simp[]
 go_enter func47,ntmps47;go_wp2_with fail;obtain⟨A,C⟩:∃A,A=(w.alloc (.cells #[.int .i64 4,.int .i64 ah,.int .i64 ab,.int .i64 an,.string at0] 23)).alloc (.cells #[.int .i64 0,.int .i64 0,.string ⟨#[]⟩] 31):=⟨_,rfl⟩;have J:(w.alloc (.cells #[.int .i64 4,.int .i64 ah,.int .i64 ab,.int .i64 an,.string at0] 23)).heap.size=w.heap.size+1:=by simp
 have M:Below w.heap.size w A:=by rw[C];exact zae (zab _ _) (zab _ _)
 have Y:Hid (JAt A B ((w.heap.size+1)::X) j):=i.o.more M (by omega);have K:Hid (ButL [B] w.heap.size w A):=ButL.of_below M;have d:Hid (A.heap[w.heap.size+1]?=some (.cells #[.int .i64 0,.int .i64 0,.string ⟨#[]⟩] 31 (0,0))):=by rw[C,←J];exact heap_alloc_new _ _
 have KA:Hid (A.heap[w.heap.size]?=some (.cells #[.int .i64 4,.int .i64 ah,.int .i64 ab,.int .i64 an,.string at0] 23 (0,0))):=by rw[C];exact zad (zab _ _) (by omega) (heap_alloc_new _ _)
 have A6:A.heap.size=w.heap.size+2:=by rw[C];simp
 have c:w.heap.size+1<A.heap.size:=by omega
 have L:w.heap.size+1≠B:=by omega
 have Z:Hid (∀x∈((w.heap.size+1)::X),x<A.heap.size):=fun x hx=>by
  rcases List.mem_cons.1 hx with rfl|hx
  ·exact c
  ·have:=k.o x hx;omega
 rw[←C];clear C J;refine(zug B ((w.heap.size+1)::X) j A Y.o Z.o ⟨4,ah,ab,an,at0⟩ Q.o S.o).mono ?_;rintro e O ⟨rfl,F,D⟩;have E:Hid (O.heap[w.heap.size+1]?=some (.cells #[.int .i64 0,.int .i64 0,.string ⟨#[]⟩] 31 (0,0))):=(D.block _ (by omega) (by simpa using L)).trans d.o;have I:=zaa F;have a:Hid (ButL [B] w.heap.size w O):=K.o.trans D K.o.size (by simp);have A9:A.heap.size≤O.heap.size:=D.size;clear F D;obtain⟨P,b⟩:∃P,P=ze0 j ⟨4,ah,ab,an,at0⟩:=⟨_,rfl⟩;rw[←b]at N I⊢;have R:Hid (za4 j ⟨4,ah,ab,an,at0⟩=(P.1,⟨P.2.code,P.2.n,P.2.text⟩)):=N.o;rw[show vRp P.2=.agg #[.int .i64 P.2.code,.int .i64 P.2.n,.string P.2.text] from rfl];clear b N;obtain⟨⟨y0,y1,y2⟩,yf⟩:=zbl E.o;go_wp2;exact zbg R.o E.o I.o a.o L U fun W u0 u1 u2=>by simp[results,results47,go_sem,u0,u1,u2]
theorem z05(B:Nat)(X:List Nat)(j:Jn)(w:World)(h:JAt w B X j)(hX:∀x∈X,x<w.heap.size)(hK:Ready j)(ah ab an:Int)(at0:ByteArray)(ht:at0.size≤maxLen):
  Calls prog 47 #[.pointer (some ⟨B,0,none⟩),.agg #[.int .i64 6,.int .i64 ah,.int .i64 ab,.int .i64 an,.string at0]] w (zdg w B X (za4 j ⟨6,ah,ab,an,at0⟩)):=by
 have k:=zaa h;have A8:=h.lt;have U:=h.1;have l:=zaa hX;have A1:=zaa hK.used0;have A3:=zaa hK.used1;have Q:=zaa hK.info;have S:=zaa hK.data;have d:=zaa hK.seq;have A4:=zaa hK.last;have A7:=zaa ht;have A5:Hid (j.done.length≤maxLen):=Nat.le_trans hK.done (by unfold maxLen;omega);clear h hX hK ht;have A2:¬w.heap.size=B:=by omega
 have A0:¬w.heap.size+1=B:=by omega
 have N:Hid (za4 j ⟨6,ah,ab,an,at0⟩=zcv j):=by rw[Hid,za4];simp[]
 go_enter func47,ntmps47;go_wp2_with fail;obtain⟨A,C⟩:∃A,A=(w.alloc (.cells #[.int .i64 6,.int .i64 ah,.int .i64 ab,.int .i64 an,.string at0] 23)).alloc (.cells #[.int .i64 0,.int .i64 0,.string ⟨#[]⟩] 31):=⟨_,rfl⟩;have J:(w.alloc (.cells #[.int .i64 6,.int .i64 ah,.int .i64 ab,.int .i64 an,.string at0] 23)).heap.size=w.heap.size+1:=by simp
 have M:Below w.heap.size w A:=by rw[C];exact zae (zab _ _) (zab _ _)
 have Y:Hid (JAt A B ((w.heap.size+1)::X) j):=k.o.more M (by omega);have K:Hid (ButL [B] w.heap.size w A):=ButL.of_below M;have i:Hid (A.heap[w.heap.size+1]?=some (.cells #[.int .i64 0,.int .i64 0,.string ⟨#[]⟩] 31 (0,0))):=by rw[C,←J];exact heap_alloc_new _ _
 have KA:Hid (A.heap[w.heap.size]?=some (.cells #[.int .i64 6,.int .i64 ah,.int .i64 ab,.int .i64 an,.string at0] 23 (0,0))):=by rw[C];exact zad (zab _ _) (by omega) (heap_alloc_new _ _)
 have A6:A.heap.size=w.heap.size+2:=by rw[C];simp
 have c:w.heap.size+1<A.heap.size:=by omega
 have L:w.heap.size+1≠B:=by omega
 have Z:Hid (∀x∈((w.heap.size+1)::X),x<A.heap.size):=fun x hx=>by
  rcases List.mem_cons.1 hx with rfl|hx
  ·exact c
  ·have:=l.o x hx;omega
 rw[←C];clear C J;refine(zt8 B ((w.heap.size+1)::X) j A Y.o Z.o Q.o S.o d.o).mono ?_;rintro e O ⟨rfl,F,D⟩;have E:Hid (O.heap[w.heap.size+1]?=some (.cells #[.int .i64 0,.int .i64 0,.string ⟨#[]⟩] 31 (0,0))):=(D.block _ (by omega) (by simpa using L)).trans i.o;have I:=zaa F;have a:Hid (ButL [B] w.heap.size w O):=K.o.trans D K.o.size (by simp);have A9:A.heap.size≤O.heap.size:=D.size;clear F D;obtain⟨P,b⟩:∃P,P=zcv j:=⟨_,rfl⟩;rw[←b]at N I⊢;have R:Hid (za4 j ⟨6,ah,ab,an,at0⟩=(P.1,⟨P.2.code,P.2.n,P.2.text⟩)):=N.o;rw[show vRp P.2=.agg #[.int .i64 P.2.code,.int .i64 P.2.n,.string P.2.text] from rfl];clear b N;obtain⟨⟨y0,y1,y2⟩,yf⟩:=zbl E.o;go_wp2;exact zbg R.o E.o I.o a.o L U fun W u0 u1 u2=>by simp[results,results47,go_sem,u0,u1,u2]
theorem z06(B:Nat)(X:List Nat)(j:Jn)(w:World)(h:JAt w B X j)(hX:∀x∈X,x<w.heap.size)(hK:Ready j)(ah ab an:Int)(at0:ByteArray)(ht:at0.size≤maxLen):
  Calls prog 47 #[.pointer (some ⟨B,0,none⟩),.agg #[.int .i64 7,.int .i64 ah,.int .i64 ab,.int .i64 an,.string at0]] w (zdg w B X (za4 j ⟨7,ah,ab,an,at0⟩)):=by
 have i:=zaa h;have A8:=h.lt;have U:=h.1;have k:=zaa hX;have A2:=zaa hK.used0;have A4:=zaa hK.used1;have A1:=zaa hK.info;have A5:=zaa hK.data;have B0:=zaa hK.seq;have R:=zaa hK.last;have A7:=zaa ht;have S:Hid (j.done.length≤maxLen):=Nat.le_trans hK.done (by unfold maxLen;omega);clear h hX hK ht;have A3:¬w.heap.size=B:=by omega
 have A0:¬w.heap.size+1=B:=by omega
 have N:Hid (za4 j ⟨7,ah,ab,an,at0⟩=zg6 j):=by rw[Hid,za4];simp[]
 go_enter func47,ntmps47;go_wp2_with fail;obtain⟨A,C⟩:∃A,A=(w.alloc (.cells #[.int .i64 7,.int .i64 ah,.int .i64 ab,.int .i64 an,.string at0] 23)).alloc (.cells #[.int .i64 0,.int .i64 0,.string ⟨#[]⟩] 31):=⟨_,rfl⟩;have J:(w.alloc (.cells #[.int .i64 7,.int .i64 ah,.int .i64 ab,.int .i64 an,.string at0] 23)).heap.size=w.heap.size+1:=by simp
 have M:Below w.heap.size w A:=by rw[C];exact zae (zab _ _) (zab _ _)
 have Y:Hid (JAt A B ((w.heap.size+1)::X) j):=i.o.more M (by omega);have K:Hid (ButL [B] w.heap.size w A):=ButL.of_below M;have d:Hid (A.heap[w.heap.size+1]?=some (.cells #[.int .i64 0,.int .i64 0,.string ⟨#[]⟩] 31 (0,0))):=by rw[C,←J];exact heap_alloc_new _ _
 have KA:Hid (A.heap[w.heap.size]?=some (.cells #[.int .i64 7,.int .i64 ah,.int .i64 ab,.int .i64 an,.string at0] 23 (0,0))):=by rw[C];exact zad (zab _ _) (by omega) (heap_alloc_new _ _)
 have A6:A.heap.size=w.heap.size+2:=by rw[C];simp
 have c:w.heap.size+1<A.heap.size:=by omega
 have L:w.heap.size+1≠B:=by omega
 have Z:Hid (∀x∈((w.heap.size+1)::X),x<A.heap.size):=fun x hx=>by
  rcases List.mem_cons.1 hx with rfl|hx
  ·exact c
  ·have:=k.o x hx;omega
 rw[←C];clear C J;refine(zxz B ((w.heap.size+1)::X) j A Y.o Z.o S.o R.o).mono ?_;rintro e O ⟨rfl,F,D⟩;have E:Hid (O.heap[w.heap.size+1]?=some (.cells #[.int .i64 0,.int .i64 0,.string ⟨#[]⟩] 31 (0,0))):=(D.block _ (by omega) (by simpa using L)).trans d.o;have I:=zaa F;have a:Hid (ButL [B] w.heap.size w O):=K.o.trans D K.o.size (by simp);have A9:A.heap.size≤O.heap.size:=D.size;clear F D;obtain⟨P,b⟩:∃P,P=zg6 j:=⟨_,rfl⟩;rw[←b]at N I⊢;have Q:Hid (za4 j ⟨7,ah,ab,an,at0⟩=(P.1,⟨P.2.code,P.2.n,P.2.text⟩)):=N.o;rw[show vRp P.2=.agg #[.int .i64 P.2.code,.int .i64 P.2.n,.string P.2.text] from rfl];clear b N;obtain⟨⟨y0,y1,y2⟩,yf⟩:=zbl E.o;go_wp2;exact zbg Q.o E.o I.o a.o L U fun W u0 u1 u2=>by simp[results,results47,go_sem,u0,u1,u2]
theorem z07(B:Nat)(X:List Nat)(j:Jn)(w:World)(h:JAt w B X j)(hX:∀x∈X,x<w.heap.size)(hK:Ready j)(ak ah ab an:Int)(at0:ByteArray)(ht:at0.size≤maxLen)(k1:¬ak=1)(k5:¬ak=5)(k2:¬ak=2)(k3:¬ak=3)(k4:¬ak=4)(k6:¬ak=6)(k7:¬ak=7):
  Calls prog 47 #[.pointer (some ⟨B,0,none⟩),.agg #[.int .i64 ak,.int .i64 ah,.int .i64 ab,.int .i64 an,.string at0]] w (zdg w B X (za4 j ⟨ak,ah,ab,an,at0⟩)):=by
 have c:=zaa h;have B0:=h.lt;have S:=h.1;have d:=zaa hX;have A2:=zaa hK.used0;have A4:=zaa hK.used1;have A1:=zaa hK.info;have A5:=zaa hK.data;have B2:=zaa hK.seq;have A6:=zaa hK.last;have A8:=zaa ht;have R:Hid (j.done.length≤maxLen):=Nat.le_trans hK.done (by unfold maxLen;omega);clear h hX hK ht;have A3:¬w.heap.size=B:=by omega
 have A0:¬w.heap.size+1=B:=by omega
 have b1:(ak==1)=false:=by simpa using k1
 have b5:(ak==5)=false:=by simpa using k5
 have b2:(ak==2)=false:=by simpa using k2
 have b3:(ak==3)=false:=by simpa using k3
 have b4:(ak==4)=false:=by simpa using k4
 have b6:(ak==6)=false:=by simpa using k6
 have b7:(ak==7)=false:=by simpa using k7
 have N:Hid (za4 j ⟨ak,ah,ab,an,at0⟩=(j,zjy j ab)):=by rw[Hid,za4];simp[k1,k5,k2,k3,k4,k6,k7]
 clear k1 k5 k2 k3 k4 k6 k7;go_enter func47,ntmps47;go_wp2_with fail;obtain⟨A,C⟩:∃A,A=(w.alloc (.cells #[.int .i64 ak,.int .i64 ah,.int .i64 ab,.int .i64 an,.string at0] 23)).alloc (.cells #[.int .i64 0,.int .i64 0,.string ⟨#[]⟩] 31):=⟨_,rfl⟩;have J:(w.alloc (.cells #[.int .i64 ak,.int .i64 ah,.int .i64 ab,.int .i64 an,.string at0] 23)).heap.size=w.heap.size+1:=by simp
 have M:Below w.heap.size w A:=by rw[C];exact zae (zab _ _) (zab _ _)
 have U:Hid (JAt A B ((w.heap.size+1)::X) j):=c.o.more M (by omega);have K:Hid (ButL [B] w.heap.size w A):=ButL.of_below M;have b:Hid (A.heap[w.heap.size+1]?=some (.cells #[.int .i64 0,.int .i64 0,.string ⟨#[]⟩] 31 (0,0))):=by rw[C,←J];exact heap_alloc_new _ _
 have KA:Hid (A.heap[w.heap.size]?=some (.cells #[.int .i64 ak,.int .i64 ah,.int .i64 ab,.int .i64 an,.string at0] 23 (0,0))):=by rw[C];exact zad (zab _ _) (by omega) (heap_alloc_new _ _)
 have A7:A.heap.size=w.heap.size+2:=by rw[C];simp
 have a:w.heap.size+1<A.heap.size:=by omega
 have L:w.heap.size+1≠B:=by omega
 have A9:Hid (∀x∈((w.heap.size+1)::X),x<A.heap.size):=fun x hx=>by
  rcases List.mem_cons.1 hx with rfl|hx
  ·exact a
  ·have:=d.o x hx;omega
 rw[←C];clear C J;refine(z0i B ((w.heap.size+1)::X) j A ab U.o R.o).mono ?_;rintro e O ⟨rfl,F,D⟩;have E:Hid (O.heap[w.heap.size+1]?=some (.cells #[.int .i64 0,.int .i64 0,.string ⟨#[]⟩] 31 (0,0))):=(D.block _ (by omega) (by simpa using L)).trans b.o;have I:=zaa F;have Y:Hid (ButL [B] w.heap.size w O):=K.o.trans D K.o.size (by simp);have B1:A.heap.size≤O.heap.size:=D.size;clear F D;obtain⟨P,Z⟩:∃P,P=(j,zjy j ab):=⟨_,rfl⟩;rw[←Z]at N I⊢;have Q:Hid (za4 j ⟨ak,ah,ab,an,at0⟩=(P.1,⟨P.2.code,P.2.n,P.2.text⟩)):=N.o;rw[show vRp P.2=.agg #[.int .i64 P.2.code,.int .i64 P.2.n,.string P.2.text] from rfl];clear Z N;obtain⟨⟨y0,y1,y2⟩,yf⟩:=zbl E.o;go_wp2;exact zbg Q.o E.o I.o Y.o L S fun W u0 u1 u2=>by simp[results,results47,go_sem,u0,u1,u2]
theorem zr7(B:Nat)(X:List Nat)(j:Jn)(w:World)(h:JAt w B X j)(hX:∀x∈X,x<w.heap.size)(hK:Ready j)(ac:Ac)(ht:ac.text.size≤maxLen):
  Calls prog 47 #[.pointer (some ⟨B,0,none⟩),.agg #[.int .i64 ac.kind,.int .i64 ac.h,.int .i64 ac.b,.int .i64 ac.n,.string ac.text]] w (zdg w B X (za4 j ac)):=by
 obtain⟨C,D,E,an,A⟩:=ac;by_cases k1:C=1
 ·subst k1;exact z00 B X j w h hX hK D E an A ht
 by_cases k5:C=5
 ·subst k5;exact z01 B X j w h hX hK D E an A ht
 by_cases k2:C=2
 ·subst k2;exact z02 B X j w h hX hK D E an A ht
 by_cases k3:C=3
 ·subst k3;exact z03 B X j w h hX hK D E an A ht
 by_cases k4:C=4
 ·subst k4;exact z04 B X j w h hX hK D E an A ht
 by_cases k6:C=6
 ·subst k6;exact z05 B X j w h hX hK D E an A ht
 by_cases k7:C=7
 ·subst k7;exact z06 B X j w h hX hK D E an A ht
 exact z07 B X j w h hX hK C D E an A ht k1 k5 k2 k3 k4 k6 k7
theorem Ready.bump{j:Jn}(h:Ready j)(x:Int)(h0:0≤x)(h1:x≤400):Ready {j with acts:=x}:=⟨h.done,h.found,h.next,h.seq,h.last,h.info,h.data,h.few,h.used0,h.used1,h0,h1⟩
theorem zuh(B:Nat)(X:List Nat)(j:Jn)(w:World)(h:JAt w B X j)(hX:∀x∈X,x<w.heap.size)(hK:Ready j)(ak ah ab an:Int)(at0:ByteArray)(hn:an≤9223372036854775807)(ht:at0.size≤maxLen)(hf:400≤j.acts):
  Calls prog 15 #[.pointer (some ⟨B,0,none⟩),.agg #[.int .i64 ak,.int .i64 ah,.int .i64 ab,.int .i64 an,.string at0]] w (zdg w B X (doJ j ⟨ak,ah,ab,an,at0⟩)):=by
 have c:=zaa h;have B0:=h.lt;have Q:=h.1;have d:=zaa hX;have HK:=zaa hK;have A7:=zaa ht;have B1:=zaa hn;have A3:=hK.acts0;have A1:=hK.acts1;have A4:IntKind.i64.wrap (j.acts+1)=j.acts+1:=by rw[IntKind.wrap_i64];omega
 obtain⟨_,da,dc,db,dd,na,nc,nb,nd,ne,nf,sa,sc,sb,sd,se,sf,ca,cc,fa,fc,ta,tc,E,_⟩:=id h;have c0:w.cell? ⟨B,0,none⟩=some (.int .i64 j.acts):=zak E 0;have A8:w.frozen? ⟨B,0,none⟩=false:=frozen_of_row w _ _ _ _ E;have c6:w.cell? ⟨B,6,none⟩=some (.bool j.down):=zak E 6;have A6:w.frozen? ⟨B,6,none⟩=false:=frozen_of_row w _ _ _ _ E;clear h hX hK hn ht E;have A2:¬w.heap.size=B:=by omega
 have A0:¬w.heap.size+1=B:=by omega
 have b:Hid (doJ j ⟨ak,ah,ab,an,at0⟩=(j,zat 11)):=by rw[Hid,doJ,if_pos hf]
 have O:(400:Int)≤j.acts:=hf;go_enter func15,ntmps15;go_wp2_with fail;have B2:w.heap.size=w.heap.size:=rfl;have M:=c;have Z:Hid (ButL [B] w.heap.size w w):=ButL.refl _ _ _;obtain⟨A,C⟩:∃A,A=(w.alloc (.cells #[.int .i64 ak,.int .i64 ah,.int .i64 ab,.int .i64 an,.string at0] 23)).alloc (.cells #[.int .i64 0,.int .i64 0,.string ⟨#[]⟩] 31):=⟨_,rfl⟩;have I:(w.alloc (.cells #[.int .i64 ak,.int .i64 ah,.int .i64 ab,.int .i64 an,.string at0] 23)).heap.size=w.heap.size+1:=by simp
 have K:Below w.heap.size w A:=by rw[C];exact zae (zab _ _) (zab _ _)
 have R:Hid (JAt A B ((w.heap.size+1)::X) j):=M.o.more K (by omega);have J:Hid (ButL [B] w.heap.size w A):=Z.o.trans (Y:=[]) (ButL.of_below K) (by omega) (by simp);have a:Hid (A.heap[w.heap.size+1]?=some (.cells #[.int .i64 0,.int .i64 0,.string ⟨#[]⟩] 31 (0,0))):=by rw[C,←I];exact heap_alloc_new _ _
 have A5:A.heap.size=w.heap.size+2:=by rw[C];simp
 have L:w.heap.size+1<A.heap.size:=by omega
 have S:w.heap.size+1≠B:=by omega
 have A9:Hid (∀x∈((w.heap.size+1)::X),x<A.heap.size):=fun x hx=>by
  rcases List.mem_cons.1 hx with rfl|hx
  ·exact L
  ·have:=d.o x hx;omega
 rw[←C];clear C I;clear hf O;refine(zau 11 _).mono ?_;rintro e w2 ⟨rfl,D⟩;have F:=zaa (zad D L a.o);have N:=zaa (R.o.below D);have U:=zaa (J.o.trans (Y:=[]) (ButL.of_below D) J.o.size (by simp));clear D;obtain⟨⟨y0,y1,y2⟩,yf⟩:=zbl F.o;go_wp2;exact zbg b.o F.o N.o U.o S Q fun W u0 u1 u2=>by simp[results,results15,go_sem,u0,u1,u2]
theorem zx4(B:Nat)(X:List Nat)(j:Jn)(w:World)(h:JAt w B X j)(hX:∀x∈X,x<w.heap.size)(hK:Ready j)(ak ah ab an:Int)(at0:ByteArray)(hn:an≤9223372036854775807)(ht:at0.size≤maxLen)(hf:¬400≤j.acts)(hk:ak<1):
  Calls prog 15 #[.pointer (some ⟨B,0,none⟩),.agg #[.int .i64 ak,.int .i64 ah,.int .i64 ab,.int .i64 an,.string at0]] w (zdg w B X (doJ j ⟨ak,ah,ab,an,at0⟩)):=by
 have k:=zaa h;have B0:=h.lt;have U:=h.1;have l:=zaa hX;have HK:=zaa hK;have A7:=zaa ht;have B1:=zaa hn;have A3:=hK.acts0;have A1:=hK.acts1;have A4:IntKind.i64.wrap (j.acts+1)=j.acts+1:=by rw[IntKind.wrap_i64];omega
 obtain⟨_,da,dc,db,dd,na,nc,nb,nd,ne,nf,sa,sc,sb,sd,se,sf,ca,cc,fa,fc,ta,tc,I,_⟩:=id h;have c0:w.cell? ⟨B,0,none⟩=some (.int .i64 j.acts):=zak I 0;have A8:w.frozen? ⟨B,0,none⟩=false:=frozen_of_row w _ _ _ _ I;have c6:w.cell? ⟨B,6,none⟩=some (.bool j.down):=zak I 6;have A6:w.frozen? ⟨B,6,none⟩=false:=frozen_of_row w _ _ _ _ I;clear h hX hK hn ht I;have A2:¬w.heap.size=B:=by omega
 have A0:¬w.heap.size+1=B:=by omega
 have i:Hid (doJ j ⟨ak,ah,ab,an,at0⟩=(({j with acts:=j.acts+1}:Jn),zat 3)):=by rw[Hid,doJ,if_neg hf,zim,if_pos (.inl hk)]
 have S:¬(j.acts≥400):=hf;go_enter func15,ntmps15;go_wp2_with fail;obtain⟨C,D⟩:∃C,C=w.setCell ⟨B,0,none⟩ (.int .i64 (j.acts+1)):=⟨_,rfl⟩;rw[←D];have O:C.heap.size=w.heap.size:=by rw[D];simp[World.setCell]
 have Q:Hid (JAt C B X ({j with acts:=j.acts+1}:Jn)):=by rw[D];exact k.o.putActs _
 have c:Hid (ButL [B] w.heap.size w C):=by rw[D];exact(ButL.refl _ _ _).set (.inl (by simp)) 0 _
 clear D;obtain⟨A,E⟩:∃A,A=(C.alloc (.cells #[.int .i64 ak,.int .i64 ah,.int .i64 ab,.int .i64 an,.string at0] 23)).alloc (.cells #[.int .i64 0,.int .i64 0,.string ⟨#[]⟩] 31):=⟨_,rfl⟩;have K:(C.alloc (.cells #[.int .i64 ak,.int .i64 ah,.int .i64 ab,.int .i64 an,.string at0] 23)).heap.size=w.heap.size+1:=by simp[O]
 have M:Below C.heap.size C A:=by rw[E];exact zae (zab _ _) (zab _ _)
 have Z:Hid (JAt A B ((w.heap.size+1)::X) ({j with acts:=j.acts+1}:Jn)):=Q.o.more M (by omega);have L:Hid (ButL [B] w.heap.size w A):=c.o.trans (Y:=[]) (ButL.of_below M) (by omega) (by simp);have d:Hid (A.heap[w.heap.size+1]?=some (.cells #[.int .i64 0,.int .i64 0,.string ⟨#[]⟩] 31 (0,0))):=by rw[E,←K];exact heap_alloc_new _ _
 have A5:A.heap.size=w.heap.size+2:=by rw[E];simp[O]
 have N:w.heap.size+1<A.heap.size:=by omega
 have a:w.heap.size+1≠B:=by omega
 have A9:Hid (∀x∈((w.heap.size+1)::X),x<A.heap.size):=fun x hx=>by
  rcases List.mem_cons.1 hx with rfl|hx
  ·exact N
  ·have:=l.o x hx;omega
 rw[←E];clear E K;clear hf S hk;refine(zau 3 _).mono ?_;rintro e w2 ⟨rfl,F⟩;have J:=zaa (zad F N d.o);have R:=zaa (Z.o.below F);have b:=zaa (L.o.trans (Y:=[]) (ButL.of_below F) L.o.size (by simp));clear F;obtain⟨⟨y0,y1,y2⟩,yf⟩:=zbl J.o;go_wp2;exact zbg i.o J.o R.o b.o a U fun W u0 u1 u2=>by simp[results,results15,go_sem,u0,u1,u2]
theorem zui(B:Nat)(X:List Nat)(j:Jn)(w:World)(h:JAt w B X j)(hX:∀x∈X,x<w.heap.size)(hK:Ready j)(ak ah ab an:Int)(at0:ByteArray)(hn:an≤9223372036854775807)(ht:at0.size≤maxLen)(hf:¬400≤j.acts)(hk:11<ak):
  Calls prog 15 #[.pointer (some ⟨B,0,none⟩),.agg #[.int .i64 ak,.int .i64 ah,.int .i64 ab,.int .i64 an,.string at0]] w (zdg w B X (doJ j ⟨ak,ah,ab,an,at0⟩)):=by
 have l:=zaa h;have B0:=h.lt;have U:=h.1;have m:=zaa hX;have HK:=zaa hK;have A7:=zaa ht;have B1:=zaa hn;have A3:=hK.acts0;have A1:=hK.acts1;have A4:IntKind.i64.wrap (j.acts+1)=j.acts+1:=by rw[IntKind.wrap_i64];omega
 obtain⟨_,da,dc,db,dd,na,nc,nb,nd,ne,nf,sa,sc,sb,sd,se,sf,ca,cc,fa,fc,ta,tc,I,_⟩:=id h;have c0:w.cell? ⟨B,0,none⟩=some (.int .i64 j.acts):=zak I 0;have A8:w.frozen? ⟨B,0,none⟩=false:=frozen_of_row w _ _ _ _ I;have c6:w.cell? ⟨B,6,none⟩=some (.bool j.down):=zak I 6;have A6:w.frozen? ⟨B,6,none⟩=false:=frozen_of_row w _ _ _ _ I;clear h hX hK hn ht I;have A2:¬w.heap.size=B:=by omega
 have A0:¬w.heap.size+1=B:=by omega
 have k:Hid (doJ j ⟨ak,ah,ab,an,at0⟩=(({j with acts:=j.acts+1}:Jn),zat 3)):=by rw[Hid,doJ,if_neg hf,zim,if_pos (.inr hk)]
 have S:¬(j.acts≥400):=hf;have d:¬ak<1:=by omega
 go_enter func15,ntmps15;go_wp2_with fail;obtain⟨C,D⟩:∃C,C=w.setCell ⟨B,0,none⟩ (.int .i64 (j.acts+1)):=⟨_,rfl⟩;rw[←D];have O:C.heap.size=w.heap.size:=by rw[D];simp[World.setCell]
 have Q:Hid (JAt C B X ({j with acts:=j.acts+1}:Jn)):=by rw[D];exact l.o.putActs _
 have c:Hid (ButL [B] w.heap.size w C):=by rw[D];exact(ButL.refl _ _ _).set (.inl (by simp)) 0 _
 clear D;obtain⟨A,E⟩:∃A,A=(C.alloc (.cells #[.int .i64 ak,.int .i64 ah,.int .i64 ab,.int .i64 an,.string at0] 23)).alloc (.cells #[.int .i64 0,.int .i64 0,.string ⟨#[]⟩] 31):=⟨_,rfl⟩;have K:(C.alloc (.cells #[.int .i64 ak,.int .i64 ah,.int .i64 ab,.int .i64 an,.string at0] 23)).heap.size=w.heap.size+1:=by simp[O]
 have M:Below C.heap.size C A:=by rw[E];exact zae (zab _ _) (zab _ _)
 have Z:Hid (JAt A B ((w.heap.size+1)::X) ({j with acts:=j.acts+1}:Jn)):=Q.o.more M (by omega);have L:Hid (ButL [B] w.heap.size w A):=c.o.trans (Y:=[]) (ButL.of_below M) (by omega) (by simp);have i:Hid (A.heap[w.heap.size+1]?=some (.cells #[.int .i64 0,.int .i64 0,.string ⟨#[]⟩] 31 (0,0))):=by rw[E,←K];exact heap_alloc_new _ _
 have A5:A.heap.size=w.heap.size+2:=by rw[E];simp[O]
 have N:w.heap.size+1<A.heap.size:=by omega
 have a:w.heap.size+1≠B:=by omega
 have A9:Hid (∀x∈((w.heap.size+1)::X),x<A.heap.size):=fun x hx=>by
  rcases List.mem_cons.1 hx with rfl|hx
  ·exact N
  ·have:=m.o x hx;omega
 rw[←E];clear E K;clear hf S hk d;refine(zau 3 _).mono ?_;rintro e w2 ⟨rfl,F⟩;have J:=zaa (zad F N i.o);have R:=zaa (Z.o.below F);have b:=zaa (L.o.trans (Y:=[]) (ButL.of_below F) L.o.size (by simp));clear F;obtain⟨⟨y0,y1,y2⟩,yf⟩:=zbl J.o;go_wp2;exact zbg k.o J.o R.o b.o a U fun W u0 u1 u2=>by simp[results,results15,go_sem,u0,u1,u2]
theorem z3r(B:Nat)(X:List Nat)(j:Jn)(w:World)(h:JAt w B X j)(hX:∀x∈X,x<w.heap.size)(hK:Ready j)(ah ab an:Int)(at0:ByteArray)(hn:an≤9223372036854775807)(ht:at0.size≤maxLen)(hf:¬400≤j.acts):
  Calls prog 15 #[.pointer (some ⟨B,0,none⟩),.agg #[.int .i64 8,.int .i64 ah,.int .i64 ab,.int .i64 an,.string at0]] w (zdg w B X (doJ j ⟨8,ah,ab,an,at0⟩)):=by
 have s:=zaa h;have A9:=h.lt;have d:=h.1;have u:=zaa hX;have S:=zaa hK;have A7:=zaa ht;have B1:=zaa hn;have A3:=hK.acts0;have A1:=hK.acts1;have A4:IntKind.i64.wrap (j.acts+1)=j.acts+1:=by rw[IntKind.wrap_i64];omega
 obtain⟨_,da,dc,db,dd,na,nc,nb,nd,ne,nf,sa,sc,sb,sd,se,sf,ca,cc,fa,fc,ta,tc,I,_⟩:=id h;have c0:w.cell? ⟨B,0,none⟩=some (.int .i64 j.acts):=zak I 0;have A8:w.frozen? ⟨B,0,none⟩=false:=frozen_of_row w _ _ _ _ I;have c6:w.cell? ⟨B,6,none⟩=some (.bool j.down):=zak I 6;have A6:w.frozen? ⟨B,6,none⟩=false:=frozen_of_row w _ _ _ _ I;clear h hX hK hn ht I;have A2:¬w.heap.size=B:=by omega
 have A0:¬w.heap.size+1=B:=by omega
 have U:Hid (doJ j ⟨8,ah,ab,an,at0⟩=zfj ({j with acts:=j.acts+1}:Jn)):=by rw[Hid,doJ,if_neg hf,zim];simp
 have c:¬(j.acts≥400):=hf;go_enter func15,ntmps15;go_wp2_with fail;obtain⟨C,D⟩:∃C,C=w.setCell ⟨B,0,none⟩ (.int .i64 (j.acts+1)):=⟨_,rfl⟩;rw[←D];have R:C.heap.size=w.heap.size:=by rw[D];simp[World.setCell]
 have a:Hid (JAt C B X ({j with acts:=j.acts+1}:Jn)):=by rw[D];exact s.o.putActs _
 have q:Hid (ButL [B] w.heap.size w C):=by rw[D];exact(ButL.refl _ _ _).set (.inl (by simp)) 0 _
 clear D;obtain⟨A,E⟩:∃A,A=(C.alloc (.cells #[.int .i64 8,.int .i64 ah,.int .i64 ab,.int .i64 an,.string at0] 23)).alloc (.cells #[.int .i64 0,.int .i64 0,.string ⟨#[]⟩] 31):=⟨_,rfl⟩;have M:(C.alloc (.cells #[.int .i64 8,.int .i64 ah,.int .i64 ab,.int .i64 an,.string at0] 23)).heap.size=w.heap.size+1:=by simp[R]
 have Q:Below C.heap.size C A:=by rw[E];exact zae (zab _ _) (zab _ _)
 have i:Hid (JAt A B ((w.heap.size+1)::X) ({j with acts:=j.acts+1}:Jn)):=a.o.more Q (by omega);have N:Hid (ButL [B] w.heap.size w A):=q.o.trans (Y:=[]) (ButL.of_below Q) (by omega) (by simp);have r:Hid (A.heap[w.heap.size+1]?=some (.cells #[.int .i64 0,.int .i64 0,.string ⟨#[]⟩] 31 (0,0))):=by rw[E,←M];exact heap_alloc_new _ _
 have A5:A.heap.size=w.heap.size+2:=by rw[E];simp[R]
 have p:w.heap.size+1<A.heap.size:=by omega
 have O:w.heap.size+1≠B:=by omega
 have k:Hid (∀x∈((w.heap.size+1)::X),x<A.heap.size):=fun x hx=>by
  rcases List.mem_cons.1 hx with rfl|hx
  ·exact p
  ·have:=u.o x hx;omega
 rw[←E];clear E M;clear hf c;refine(z0u B ((w.heap.size+1)::X) ({j with acts:=j.acts+1}:Jn) A i.o k.o S.o.done S.o.found S.o.next).mono ?_;rintro e Z ⟨rfl,K,F⟩;have J:Hid (Z.heap[w.heap.size+1]?=some (.cells #[.int .i64 0,.int .i64 0,.string ⟨#[]⟩] 31 (0,0))):=(F.block _ (by omega) (by simpa using O)).trans r.o;have L:=zaa K;have l:Hid (ButL [B] w.heap.size w Z):=N.o.trans F N.o.size (by simp);have B0:A.heap.size≤Z.heap.size:=F.size;clear K F;obtain⟨P,m⟩:∃P,P=zfj ({j with acts:=j.acts+1}:Jn):=⟨_,rfl⟩;rw[←m]at U L⊢;have b:Hid (doJ j ⟨8,ah,ab,an,at0⟩=(P.1,⟨P.2.code,P.2.n,P.2.text⟩)):=U.o;rw[show vRp P.2=.agg #[.int .i64 P.2.code,.int .i64 P.2.n,.string P.2.text] from rfl];clear m U;obtain⟨⟨y0,y1,y2⟩,yf⟩:=zbl J.o;go_wp2;exact zbg b.o J.o L.o l.o O d fun W u0 u1 u2=>by simp[results,results15,go_sem,u0,u1,u2]
theorem z08(B:Nat)(X:List Nat)(j:Jn)(w:World)(h:JAt w B X j)(hX:∀x∈X,x<w.heap.size)(hK:Ready j)(ah ab an:Int)(at0:ByteArray)(hn:an≤9223372036854775807)(ht:at0.size≤maxLen)(hf:¬400≤j.acts):
  Calls prog 15 #[.pointer (some ⟨B,0,none⟩),.agg #[.int .i64 10,.int .i64 ah,.int .i64 ab,.int .i64 an,.string at0]] w (zdg w B X (doJ j ⟨10,ah,ab,an,at0⟩)):=by
 have s:=zaa h;have A9:=h.lt;have c:=h.1;have u:=zaa hX;have HK:=zaa hK;have A7:=zaa ht;have m:=zaa hn;have A3:=hK.acts0;have A1:=hK.acts1;have A4:IntKind.i64.wrap (j.acts+1)=j.acts+1:=by rw[IntKind.wrap_i64];omega
 obtain⟨_,da,dc,db,dd,na,nc,nb,nd,ne,nf,sa,sc,sb,sd,se,sf,ca,cc,fa,fc,ta,tc,I,_⟩:=id h;have c0:w.cell? ⟨B,0,none⟩=some (.int .i64 j.acts):=zak I 0;have A8:w.frozen? ⟨B,0,none⟩=false:=frozen_of_row w _ _ _ _ I;have c6:w.cell? ⟨B,6,none⟩=some (.bool j.down):=zak I 6;have A6:w.frozen? ⟨B,6,none⟩=false:=frozen_of_row w _ _ _ _ I;clear h hX hK hn ht I;have A2:¬w.heap.size=B:=by omega
 have A0:¬w.heap.size+1=B:=by omega
 have S:Hid (doJ j ⟨10,ah,ab,an,at0⟩=zg7 ({j with acts:=j.acts+1}:Jn) an):=by rw[Hid,doJ,if_neg hf,zim];simp
 have b:¬(j.acts≥400):=hf;go_enter func15,ntmps15;go_wp2_with fail;obtain⟨C,D⟩:∃C,C=w.setCell ⟨B,0,none⟩ (.int .i64 (j.acts+1)):=⟨_,rfl⟩;rw[←D];have R:C.heap.size=w.heap.size:=by rw[D];simp[World.setCell]
 have Z:Hid (JAt C B X ({j with acts:=j.acts+1}:Jn)):=by rw[D];exact s.o.putActs _
 have q:Hid (ButL [B] w.heap.size w C):=by rw[D];exact(ButL.refl _ _ _).set (.inl (by simp)) 0 _
 clear D;obtain⟨A,E⟩:∃A,A=(C.alloc (.cells #[.int .i64 10,.int .i64 ah,.int .i64 ab,.int .i64 an,.string at0] 23)).alloc (.cells #[.int .i64 0,.int .i64 0,.string ⟨#[]⟩] 31):=⟨_,rfl⟩;have M:(C.alloc (.cells #[.int .i64 10,.int .i64 ah,.int .i64 ab,.int .i64 an,.string at0] 23)).heap.size=w.heap.size+1:=by simp[R]
 have Q:Below C.heap.size C A:=by rw[E];exact zae (zab _ _) (zab _ _)
 have d:Hid (JAt A B ((w.heap.size+1)::X) ({j with acts:=j.acts+1}:Jn)):=Z.o.more Q (by omega);have N:Hid (ButL [B] w.heap.size w A):=q.o.trans (Y:=[]) (ButL.of_below Q) (by omega) (by simp);have r:Hid (A.heap[w.heap.size+1]?=some (.cells #[.int .i64 0,.int .i64 0,.string ⟨#[]⟩] 31 (0,0))):=by rw[E,←M];exact heap_alloc_new _ _
 have A5:A.heap.size=w.heap.size+2:=by rw[E];simp[R]
 have p:w.heap.size+1<A.heap.size:=by omega
 have O:w.heap.size+1≠B:=by omega
 have i:Hid (∀x∈((w.heap.size+1)::X),x<A.heap.size):=fun x hx=>by
  rcases List.mem_cons.1 hx with rfl|hx
  ·exact p
  ·have:=u.o x hx;omega
 rw[←E];clear E M;clear hf b;refine(zx3 B ((w.heap.size+1)::X) ({j with acts:=j.acts+1}:Jn) A d.o i.o an m.o).mono ?_;rintro e U ⟨rfl,K,F⟩;have J:Hid (U.heap[w.heap.size+1]?=some (.cells #[.int .i64 0,.int .i64 0,.string ⟨#[]⟩] 31 (0,0))):=(F.block _ (by omega) (by simpa using O)).trans r.o;have L:=zaa K;have k:Hid (ButL [B] w.heap.size w U):=N.o.trans F N.o.size (by simp);have B0:A.heap.size≤U.heap.size:=F.size;clear K F;obtain⟨P,l⟩:∃P,P=zg7 ({j with acts:=j.acts+1}:Jn) an:=⟨_,rfl⟩;rw[←l]at S L⊢;have a:Hid (doJ j ⟨10,ah,ab,an,at0⟩=(P.1,⟨P.2.code,P.2.n,P.2.text⟩)):=S.o;rw[show vRp P.2=.agg #[.int .i64 P.2.code,.int .i64 P.2.n,.string P.2.text] from rfl];clear l S;obtain⟨⟨y0,y1,y2⟩,yf⟩:=zbl J.o;go_wp2;exact zbg a.o J.o L.o k.o O c fun W u0 u1 u2=>by simp[results,results15,go_sem,u0,u1,u2]
theorem z09(B:Nat)(X:List Nat)(j:Jn)(w:World)(h:JAt w B X j)(hX:∀x∈X,x<w.heap.size)(hK:Ready j)(ah ab an:Int)(at0:ByteArray)(hn:an≤9223372036854775807)(ht:at0.size≤maxLen)(hf:¬400≤j.acts):
  Calls prog 15 #[.pointer (some ⟨B,0,none⟩),.agg #[.int .i64 11,.int .i64 ah,.int .i64 ab,.int .i64 an,.string at0]] w (zdg w B X (doJ j ⟨11,ah,ab,an,at0⟩)):=by
 have s:=zaa h;have A9:=h.lt;have c:=h.1;have u:=zaa hX;have r:=zaa hK;have A7:=zaa ht;have B1:=zaa hn;have A3:=hK.acts0;have A1:=hK.acts1;have A4:IntKind.i64.wrap (j.acts+1)=j.acts+1:=by rw[IntKind.wrap_i64];omega
 obtain⟨_,da,dc,db,dd,na,nc,nb,nd,ne,nf,sa,sc,sb,sd,se,sf,ca,cc,fa,fc,ta,tc,I,_⟩:=id h;have c0:w.cell? ⟨B,0,none⟩=some (.int .i64 j.acts):=zak I 0;have A8:w.frozen? ⟨B,0,none⟩=false:=frozen_of_row w _ _ _ _ I;have c6:w.cell? ⟨B,6,none⟩=some (.bool j.down):=zak I 6;have A6:w.frozen? ⟨B,6,none⟩=false:=frozen_of_row w _ _ _ _ I;clear h hX hK hn ht I;have A2:¬w.heap.size=B:=by omega
 have A0:¬w.heap.size+1=B:=by omega
 have S:Hid (doJ j ⟨11,ah,ab,an,at0⟩=zb3 ({j with acts:=j.acts+1}:Jn)):=by rw[Hid,doJ,if_neg hf,zim];simp
 have b:¬(j.acts≥400):=hf;go_enter func15,ntmps15;go_wp2_with fail;obtain⟨C,D⟩:∃C,C=w.setCell ⟨B,0,none⟩ (.int .i64 (j.acts+1)):=⟨_,rfl⟩;rw[←D];have R:C.heap.size=w.heap.size:=by rw[D];simp[World.setCell]
 have Z:Hid (JAt C B X ({j with acts:=j.acts+1}:Jn)):=by rw[D];exact s.o.putActs _
 have p:Hid (ButL [B] w.heap.size w C):=by rw[D];exact(ButL.refl _ _ _).set (.inl (by simp)) 0 _
 clear D;obtain⟨A,E⟩:∃A,A=(C.alloc (.cells #[.int .i64 11,.int .i64 ah,.int .i64 ab,.int .i64 an,.string at0] 23)).alloc (.cells #[.int .i64 0,.int .i64 0,.string ⟨#[]⟩] 31):=⟨_,rfl⟩;have M:(C.alloc (.cells #[.int .i64 11,.int .i64 ah,.int .i64 ab,.int .i64 an,.string at0] 23)).heap.size=w.heap.size+1:=by simp[R]
 have Q:Below C.heap.size C A:=by rw[E];exact zae (zab _ _) (zab _ _)
 have d:Hid (JAt A B ((w.heap.size+1)::X) ({j with acts:=j.acts+1}:Jn)):=Z.o.more Q (by omega);have N:Hid (ButL [B] w.heap.size w A):=p.o.trans (Y:=[]) (ButL.of_below Q) (by omega) (by simp);have q:Hid (A.heap[w.heap.size+1]?=some (.cells #[.int .i64 0,.int .i64 0,.string ⟨#[]⟩] 31 (0,0))):=by rw[E,←M];exact heap_alloc_new _ _
 have A5:A.heap.size=w.heap.size+2:=by rw[E];simp[R]
 have m:w.heap.size+1<A.heap.size:=by omega
 have O:w.heap.size+1≠B:=by omega
 have i:Hid (∀x∈((w.heap.size+1)::X),x<A.heap.size):=fun x hx=>by
  rcases List.mem_cons.1 hx with rfl|hx
  ·exact m
  ·have:=u.o x hx;omega
 rw[←E];clear E M;clear hf b;refine(z0l B ((w.heap.size+1)::X) ({j with acts:=j.acts+1}:Jn) A d.o i.o r.o.few).mono ?_;rintro e U ⟨rfl,K,F⟩;have J:Hid (U.heap[w.heap.size+1]?=some (.cells #[.int .i64 0,.int .i64 0,.string ⟨#[]⟩] 31 (0,0))):=(F.block _ (by omega) (by simpa using O)).trans q.o;have L:=zaa K;have k:Hid (ButL [B] w.heap.size w U):=N.o.trans F N.o.size (by simp);have B0:A.heap.size≤U.heap.size:=F.size;clear K F;obtain⟨P,l⟩:∃P,P=zb3 ({j with acts:=j.acts+1}:Jn):=⟨_,rfl⟩;rw[←l]at S L⊢;have a:Hid (doJ j ⟨11,ah,ab,an,at0⟩=(P.1,⟨P.2.code,P.2.n,P.2.text⟩)):=S.o;rw[show vRp P.2=.agg #[.int .i64 P.2.code,.int .i64 P.2.n,.string P.2.text] from rfl];clear l S;obtain⟨⟨y0,y1,y2⟩,yf⟩:=zbl J.o;go_wp2;exact zbg a.o J.o L.o k.o O c fun W u0 u1 u2=>by simp[results,results15,go_sem,u0,u1,u2]
theorem zuj(B:Nat)(X:List Nat)(j:Jn)(w:World)(h:JAt w B X j)(hX:∀x∈X,x<w.heap.size)(hK:Ready j)(ak ah ab an:Int)(at0:ByteArray)(hn:an≤9223372036854775807)(ht:at0.size≤maxLen)(hf:¬400≤j.acts)(h0:1≤ak)(h11:ak≤11)(k8:¬ak=8)(k10:¬ak=10)(k11:¬ak=11)(hd:j.down=true):
  Calls prog 15 #[.pointer (some ⟨B,0,none⟩),.agg #[.int .i64 ak,.int .i64 ah,.int .i64 ab,.int .i64 an,.string at0]] w (zdg w B X (doJ j ⟨ak,ah,ab,an,at0⟩)):=by
 have q:=zaa h;have B0:=h.lt;have U:=h.1;have s:=zaa hX;have HK:=zaa hK;have A7:=zaa ht;have B1:=zaa hn;have A3:=hK.acts0;have A1:=hK.acts1;have A4:IntKind.i64.wrap (j.acts+1)=j.acts+1:=by rw[IntKind.wrap_i64];omega
 obtain⟨_,da,dc,db,dd,na,nc,nb,nd,ne,nf,sa,sc,sb,sd,se,sf,ca,cc,fa,fc,ta,tc,I,_⟩:=id h;have c0:w.cell? ⟨B,0,none⟩=some (.int .i64 j.acts):=zak I 0;have A8:w.frozen? ⟨B,0,none⟩=false:=frozen_of_row w _ _ _ _ I;have n:w.cell? ⟨B,6,none⟩=some (.bool j.down):=zak I 6;have A6:w.frozen? ⟨B,6,none⟩=false:=frozen_of_row w _ _ _ _ I;clear h hX hK hn ht I;have A2:¬w.heap.size=B:=by omega
 have A0:¬w.heap.size+1=B:=by omega
 have m:Hid (doJ j ⟨ak,ah,ab,an,at0⟩=(({j with acts:=j.acts+1}:Jn),zat 10)):=by rw[Hid,doJ,if_neg hf,zim,if_neg (by simp only;omega),if_neg k8,if_neg k10,if_neg k11,if_pos hd]
 have S:¬(j.acts≥400):=hf;have l:(ak==8)=false:=by simpa using k8
 have c:(ak==10)=false:=by simpa using k10
 have a:(ak==11)=false:=by simpa using k11
 have p:¬ak<1:=by omega
 have r:¬ak>11:=by omega
 rw[hd]at n;go_enter func15,ntmps15;go_wp2_with fail;obtain⟨C,D⟩:∃C,C=w.setCell ⟨B,0,none⟩ (.int .i64 (j.acts+1)):=⟨_,rfl⟩;rw[←D];have O:C.heap.size=w.heap.size:=by rw[D];simp[World.setCell]
 have Q:Hid (JAt C B X ({j with acts:=j.acts+1}:Jn)):=by rw[D];exact q.o.putActs _
 have i:Hid (ButL [B] w.heap.size w C):=by rw[D];exact(ButL.refl _ _ _).set (.inl (by simp)) 0 _
 clear D;obtain⟨A,E⟩:∃A,A=(C.alloc (.cells #[.int .i64 ak,.int .i64 ah,.int .i64 ab,.int .i64 an,.string at0] 23)).alloc (.cells #[.int .i64 0,.int .i64 0,.string ⟨#[]⟩] 31):=⟨_,rfl⟩;have K:(C.alloc (.cells #[.int .i64 ak,.int .i64 ah,.int .i64 ab,.int .i64 an,.string at0] 23)).heap.size=w.heap.size+1:=by simp[O]
 have M:Below C.heap.size C A:=by rw[E];exact zae (zab _ _) (zab _ _)
 have Z:Hid (JAt A B ((w.heap.size+1)::X) ({j with acts:=j.acts+1}:Jn)):=Q.o.more M (by omega);have L:Hid (ButL [B] w.heap.size w A):=i.o.trans (Y:=[]) (ButL.of_below M) (by omega) (by simp);have k:Hid (A.heap[w.heap.size+1]?=some (.cells #[.int .i64 0,.int .i64 0,.string ⟨#[]⟩] 31 (0,0))):=by rw[E,←K];exact heap_alloc_new _ _
 have A5:A.heap.size=w.heap.size+2:=by rw[E];simp[O]
 have N:w.heap.size+1<A.heap.size:=by omega
 have b:w.heap.size+1≠B:=by omega
 have A9:Hid (∀x∈((w.heap.size+1)::X),x<A.heap.size):=fun x hx=>by
  rcases List.mem_cons.1 hx with rfl|hx
  ·exact N
  ·have:=s.o x hx;omega
 rw[←E];clear E K;clear hf S k8 l k10 c k11 a p r h0 h11;refine(zau 10 _).mono ?_;rintro e w2 ⟨rfl,F⟩;have J:=zaa (zad F N k.o);have R:=zaa (Z.o.below F);have d:=zaa (L.o.trans (Y:=[]) (ButL.of_below F) L.o.size (by simp));clear F;obtain⟨⟨y0,y1,y2⟩,yf⟩:=zbl J.o;go_wp2;exact zbg m.o J.o R.o d.o b U fun W u0 u1 u2=>by simp[results,results15,go_sem,u0,u1,u2]
theorem z1a(B:Nat)(X:List Nat)(j:Jn)(w:World)(h:JAt w B X j)(hX:∀x∈X,x<w.heap.size)(hK:Ready j)(ak ah ab an:Int)(at0:ByteArray)(hn:an≤9223372036854775807)(ht:at0.size≤maxLen)(hf:¬400≤j.acts)(h0:1≤ak)(h11:ak≤11)(k8:¬ak=8)(k10:¬ak=10)(k11:¬ak=11)(hd:j.down=false):
  Calls prog 15 #[.pointer (some ⟨B,0,none⟩),.agg #[.int .i64 ak,.int .i64 ah,.int .i64 ab,.int .i64 an,.string at0]] w (zdg w B X (doJ j ⟨ak,ah,ab,an,at0⟩)):=by
 have HJ:=zaa h;have A9:=h.lt;have b:=h.1;have HX:=zaa hX;have HK:=zaa hK;have d:=zaa ht;have B0:=zaa hn;have A7:=hK.acts0;have A6:=hK.acts1;have A2:IntKind.i64.wrap (j.acts+1)=j.acts+1:=by rw[IntKind.wrap_i64];omega
 obtain⟨_,da,dc,db,dd,na,nc,nb,nd,ne,nf,sa,sc,sb,sd,se,sf,ca,cc,fa,fc,ta,tc,I,_⟩:=id h;have c0:w.cell? ⟨B,0,none⟩=some (.int .i64 j.acts):=zak I 0;have A4:w.frozen? ⟨B,0,none⟩=false:=frozen_of_row w _ _ _ _ I;have z:w.cell? ⟨B,6,none⟩=some (.bool j.down):=zak I 6;have A3:w.frozen? ⟨B,6,none⟩=false:=frozen_of_row w _ _ _ _ I;clear h hX hK hn ht I;have A1:¬w.heap.size=B:=by omega
 have A0:¬w.heap.size+1=B:=by omega
 have S:Hid (doJ j ⟨ak,ah,ab,an,at0⟩=za4 ({j with acts:=j.acts+1}:Jn) ⟨ak,ah,ab,an,at0⟩):=by rw[Hid,doJ,if_neg hf,zim,if_neg (by simp only;omega),if_neg k8,if_neg k10,if_neg k11,if_neg (by simp[hd])]
 have l:Hid (Ready ({j with acts:=j.acts+1}:Jn)):=HK.o.bump _ (by omega) (by omega);have m:¬(j.acts≥400):=hf;have y:(ak==8)=false:=by simpa using k8
 have c:(ak==10)=false:=by simpa using k10
 have q:(ak==11)=false:=by simpa using k11
 have r1:¬ak<1:=by omega
 have r2:¬ak>11:=by omega
 rw[hd]at z;go_enter func15,ntmps15;go_wp2_with fail;obtain⟨C,E⟩:∃C,C=w.setCell ⟨B,0,none⟩ (.int .i64 (j.acts+1)):=⟨_,rfl⟩;rw[←E];have R:C.heap.size=w.heap.size:=by rw[E];simp[World.setCell]
 have Z:Hid (JAt C B X ({j with acts:=j.acts+1}:Jn)):=by rw[E];exact HJ.o.putActs _
 have u:Hid (ButL [B] w.heap.size w C):=by rw[E];exact(ButL.refl _ _ _).set (.inl (by simp)) 0 _
 clear E;obtain⟨A,D⟩:∃A,A=(C.alloc (.cells #[.int .i64 ak,.int .i64 ah,.int .i64 ab,.int .i64 an,.string at0] 23)).alloc (.cells #[.int .i64 0,.int .i64 0,.string ⟨#[]⟩] 31):=⟨_,rfl⟩;have K:(C.alloc (.cells #[.int .i64 ak,.int .i64 ah,.int .i64 ab,.int .i64 an,.string at0] 23)).heap.size=w.heap.size+1:=by simp[R]
 have Q:Below C.heap.size C A:=by rw[D];exact zae (zab _ _) (zab _ _)
 have p:Hid (JAt A B ((w.heap.size+1)::X) ({j with acts:=j.acts+1}:Jn)):=Z.o.more Q (by omega);have L:Hid (ButL [B] w.heap.size w A):=u.o.trans (Y:=[]) (ButL.of_below Q) (by omega) (by simp);have KR:Hid (A.heap[w.heap.size+1]?=some (.cells #[.int .i64 0,.int .i64 0,.string ⟨#[]⟩] 31 (0,0))):=by rw[D,←K];exact heap_alloc_new _ _
 have A8:A.heap.size=w.heap.size+2:=by rw[D];simp[R]
 have s:w.heap.size+1<A.heap.size:=by omega
 have O:w.heap.size+1≠B:=by omega
 have r:Hid (∀x∈((w.heap.size+1)::X),x<A.heap.size):=fun x hx=>by
  rcases List.mem_cons.1 hx with rfl|hx
  ·exact s
  ·have:=HX.o x hx;omega
 rw[←D];clear D K;clear hf m k8 y k10 c k11 q r1 r2 h0 h11;refine(zr7 B ((w.heap.size+1)::X) ({j with acts:=j.acts+1}:Jn) A p.o r.o l.o ⟨ak,ah,ab,an,at0⟩ d.o).mono ?_;rintro e U ⟨rfl,N,F⟩;have M:Hid (U.heap[w.heap.size+1]?=some (.cells #[.int .i64 0,.int .i64 0,.string ⟨#[]⟩] 31 (0,0))):=(F.block _ (by omega) (by simpa using O)).trans KR.o;have J:=zaa N;have i:Hid (ButL [B] w.heap.size w U):=L.o.trans F L.o.size (by simp);have A5:A.heap.size≤U.heap.size:=F.size;clear N F;obtain⟨P,k⟩:∃P,P=za4 ({j with acts:=j.acts+1}:Jn) ⟨ak,ah,ab,an,at0⟩:=⟨_,rfl⟩;rw[←k]at S J⊢;have a:Hid (doJ j ⟨ak,ah,ab,an,at0⟩=(P.1,⟨P.2.code,P.2.n,P.2.text⟩)):=S.o;rw[show vRp P.2=.agg #[.int .i64 P.2.code,.int .i64 P.2.n,.string P.2.text] from rfl];clear k S;obtain⟨⟨y0,y1,y2⟩,yf⟩:=zbl M.o;go_wp2;exact zbg a.o M.o J.o i.o O b fun W u0 u1 u2=>by simp[results,results15,go_sem,u0,u1,u2]
theorem zj8(B:Nat)(X:List Nat)(j:Jn)(w:World)(h:JAt w B X j)(hX:∀x∈X,x<w.heap.size)(hK:Ready j)(ac:Ac)(hn:ac.n≤9223372036854775807)(ht:ac.text.size≤maxLen):
  Calls prog 15 #[.pointer (some ⟨B,0,none⟩),vAc ac] w (zdg w B X (doJ j ac)):=by
 obtain⟨C,D,E,an,A⟩:=ac;by_cases hf:400≤j.acts
 ·exact zuh B X j w h hX hK C D E an A hn ht hf
 by_cases hl:C<1
 ·exact zx4 B X j w h hX hK C D E an A hn ht hf hl
 by_cases hh:11<C
 ·exact zui B X j w h hX hK C D E an A hn ht hf hh
 by_cases k8:C=8
 ·subst k8;exact z3r B X j w h hX hK D E an A hn ht hf
 by_cases k10:C=10
 ·subst k10;exact z08 B X j w h hX hK D E an A hn ht hf
 by_cases k11:C=11
 ·subst k11;exact z09 B X j w h hX hK D E an A hn ht hf
 cases hd:j.down with
 |true=>exact zuj B X j w h hX hK C D E an A hn ht hf (by omega) (by omega) k8 k10 k11 hd
 |false=>exact z1a B X j w h hX hK C D E an A hn ht hf (by omega) (by omega) k8 k10 k11 hd
theorem z35:goodM (zbr 0 1)=0:=by kernel_rfl
def z1c:Dk:=⟨encT (zbr 0 1)::List.replicate 36 (fitT ⟨#[]⟩),[]⟩
theorem z4x:zya=zfe z1c 0 1:=rfl
def zmp (bs:Nat)(D:Nat)(g:Nat)(c:Nat)(s:ByteArray):Nat→Value→World→Prop
 |0,v,_=>v=.pointer (some ⟨D,0,none⟩)
 |1,v,_=>v=.slice (some ⟨g,0,none⟩) 37 c
 |2,v,_=>v=.agg #[.int .i64 1,.int .i64 1,.int .i64 0,.slice none 0 0,.slice none 0 0]
 |3,v,_=>v=.tuple #[.string s,.int .i64 0]
 |4,v,_=>v=.tuple #[.string s,.int .i64 0]
 |5,v,_=>v=.string s
 |6,v,_=>v=.int .i64 0
 |7,v,_=>v=.pointer (some ⟨g,0,none⟩)
 |8,_,w=>w.ownsRow bs 9 1 (.slice (some ⟨g,0,none⟩) 37 c) 37 (cellsS (s::List.replicate 36 (fitT ⟨#[]⟩)))
 |_,_,_=>True
theorem zr8{bs:Nat}{D:Nat}{g:Nat}{c:Nat}{s:ByteArray}{w w':World}(hb:Below w.heap.size w w'){i:Nat}:∀kk uu,kk≠i→zmp bs D g c s kk uu w→zmp bs D g c s kk uu w':=by
 intro kk uu _ h
 match kk,h with
 |0,h|1,h|2,h|3,h|4,h|5,h|6,h|7,h=>exact h
 |8,h=>exact zah h hb
 |_+9,_=>exact trivial
theorem zx5{bs:Nat}{D:Nat}{g:Nat}{c:Nat}{s:ByteArray}{w w':World}:∀kk x,kk≠8→zmp bs D g c s kk x w→zmp bs D g c s kk x w':=by
 intro kk x A h
 match kk,h with
 |0,h|1,h|2,h|3,h|4,h|5,h|6,h|7,h=>exact h
 |8,_=>exact absurd rfl A
 |_+9,_=>exact trivial
def newR (w:World)(D g c:Nat)(w':World):Prop:=Below w.heap.size w w'∧w'.heap[D]?=some (.cells #[.slice (some ⟨g,0,none⟩) 37 c,.slice none 0 0] 46 (0,0))∧∃t,w'.ownsRow w.heap.size 9 1 (.slice (some ⟨g,0,none⟩) 37 c) 37 (cellsS (t::List.replicate 36 (fitT ⟨#[]⟩)))
theorem newR.below{w:World}{D g c:Nat}{w' w2:World}(h:newR w D g c w')(hb:Below w'.heap.size w' w2):newR w D g c w2:=⟨zae h.1 hb,zad hb (Array.getElem?_eq_some_iff.1 h.2.1).1 h.2.1,h.2.2.imp fun _ ho=>zah ho hb⟩
theorem zvh(w:World):
  Calls prog 41 #[] w fun e w'=>∃B,e=.returned (.pointer (some ⟨B,0,none⟩))∧w.heap.size≤B∧(∀X:List Nat,(∀x∈X,x<w.heap.size)→JAt w' B (B::X) zya)∧Below w.heap.size w w':=by
 obtain⟨s,hs⟩:∃s,s=encT (zbr 0 1):=⟨_,rfl⟩;have HS:=zaa hs;clear hs;go_enter func41,ntmps41;go_wp2_with fail;refine(z4w _).mono ?_;rintro e C ⟨g,c,rfl,N,m⟩;have l:=N.lt g rfl;have B5:w.heap.size≤g:=l.1;have C6:g<C.heap.size:=l.2;go_wp2;rename_i KK d;obtain⟨Y,J⟩:∃Y,Y=C.alloc (.cells #[.slice (some ⟨g,0,none⟩) 37 c,.slice none 0 0] 46):=⟨_,rfl⟩;have L:Below C.heap.size C Y:=by rw[J];exact zab _ _
 have B4:=zaa (zah N L);have B0:=zaa (zae m L);have KD:Hid (Y.heap[C.heap.size]?=some (.cells #[.slice (some ⟨g,0,none⟩) 37 c,.slice none 0 0] 46 (0,0))):=by rw[J];exact heap_alloc_new _ _
 have C7:Y.heap.size=C.heap.size+1:=by rw[J];simp
 have C1:w.heap.size≤C.heap.size:=m.size;rw[←J];clear J L N m l;have B3:Hid (newR w C.heap.size g c Y):=⟨B0.o,KD.o,fitT ⟨#[]⟩,B4.o⟩
 have j:∀(g0 g2 g3 g4 g5 g6 g7 g8 g9 y A6 A4 A3:Value) (W:World),W.ownsRow w.heap.size 9 1 (.slice (some ⟨g,0,none⟩) 37 c) 37 (cellsS (s::List.replicate 36 (fitT ⟨#[]⟩)))→Below w.heap.size w W→W.heap[C.heap.size]?=some (.cells #[.slice (some ⟨g,0,none⟩) 37 c,.slice none 0 0] 46 (0,0))→KK ⟨#[g0,.pointer (some ⟨C.heap.size,0,none⟩),g2,g3,g4,g5,g6,g7,g8,g9,y,A6,A4,A3],[]⟩ W:=by
  intro g0 g2 g3 g4 g5 g6 g7 g8 g9 y A6 A4 A3 W3 F A5 A1;apply d;clear d;have A7:=zaa F;have B8:=zaa A5;have B7:=zaa A1;obtain⟨⟨y0,y1⟩,_⟩:=zgo B7.o;clear F A5 A1;go_wp2_with fail;refine(zrw z1c (some ⟨g,0,none⟩) c none 0 0 1 W3 (by decide+kernel)).mono ?_;rintro e U ⟨rfl,R⟩;have q:=zaa (zah A7.o R);have Q:=zaa (zae B8.o R);have C2:W3.heap.size≤U.heap.size:=R.size;clear y0 y1 R;obtain⟨O,Z⟩:∃O,O=zbs (zfe z1c 0 1) (some ⟨g,0,none⟩) c none 0 none 0 none 0 none 0 none 0 none 0 none 0 none 0 none 0 none 0:=⟨_,rfl⟩;rw[←Z];have S:=zaa Z;have B2:Hid ((prog.info? 93).map (·.size)=some O.size):=by rw[Hid,S.o];exact z3k _ _ _ _ _ _ _ _ _ _ _ _ _ _ _ _ _ _ _ _ _ _ _
  have A9:Hid (O.all (·.oneCell')=true):=by rw[Hid,S.o];exact zh2 _ _ _ _ _ _ _ _ _ _ _ _ _ _ _ _ _ _ _ _ _ _ _
  have C0:Hid (57=O.size):=by rw[Hid,S.o];kernel_rfl
  clear Z;dsimp only
  repeat (first|(refine wpList_store_rowTo rfl _ _ _ rfl rfl U.heap.size O rfl rfl _ _ (heap_alloc_new _ _) B2.o C0.o A9.o ?_)|go_step)
  refine bodyPost_ret (results_tmp rfl _ _ _) rfl ⟨U.heap.size,rfl,Q.o.size,fun X hX=>?_,?_⟩
  ·rw[S.o,z4x];refine JAt.putAll (by simp) (heap_alloc_new U _) (some ⟨g,0,none⟩) c none 0 none 0 none 0 none 0 none 0 none 0 none 0 none 0 none 0 none 0 ⟨?_,zre _ _,zre _ _,.inl rfl,.inl rfl,.inl rfl,z3j _,Nat.le_refl _,Nat.le_refl _,Nat.le_refl _⟩;have C3:g<U.heap.size:=(q.o.lt g rfl).2;obtain⟨a2,c2,hv,hS,_⟩:=SegS.of_owns (zah q.o (zab U _));simp only[Value.slice.injEq]at hv;obtain⟨rfl,_,rfl⟩:=hv;rw[HS.o]at hS;refine⟨some ⟨g,0,none⟩,c,none,0,rfl,?_,.inl rfl,by decide+kernel,by decide+kernel⟩;rcases hS with h0|⟨b,off,he,hlt,hc⟩
   ·cases h0
   ·cases he;refine .inr ⟨g,0,rfl,by rw[zbi];exact hlt,fun i hi=>zbz ?_ (hc i hi)⟩;simp only[List.mem_cons,not_or];exact⟨by omega,fun hx=>by have:=hX g hx;omega⟩
  ·exact((ButL.of_below (X:=[]) (Q.o.alloc Q.o.size _)).setRow (.inr Q.o.size) O).below
 have r:=zaa j;clear j d;refine(show∀A0:Act,A0=_→Code.wp prog _ _ A0 _ from fun A0 hA0=>?_) _ rfl;have D:A0.tmps.size=14:=by rw[hA0];rfl
 have B6:A0.defers=[]:=by rw[hA0]
 have v1:A0.eval (.tmp 1)=.pointer (some ⟨C.heap.size,0,none⟩):=by rw[hA0];rfl
 clear hA0;refine ze2 (fun w'=>newR w C.heap.size g c w') [5,6,7,8,4,9,10,11,11] (zmp w.heap.size C.heap.size g c s) (by kernel_rfl) (by kernel_rfl) (by kernel_rfl) (B3.o.below (Below.refl _ _).drew) ⟨?_,?_,?_,?_,?_,?_,?_,?_,?_,trivial⟩ ?_
 ·exact zbd v1 D (fun _=>rfl) fun ρ w' A z=>by simp only[execOp];go_simp
 ·exact zal 0 5 D (fun _ _ h=>h) (fun _=>rfl) fun ρ w' A p=>by have c0:w'.cell? ⟨C.heap.size,0,none⟩=some (.slice (some ⟨g,0,none⟩) 37 c):=(zgo A.2.1).1.1;simp only[execOp];go_simp
 ·intro a w' E A I;exact zgm _ rfl rfl (by have K:=Act.eval_const a (.int .i64 1);revert K;generalize a.eval=ρ;intro K;simp only[execOp];go_simp) E D A rfl
 ·intro a w' E A I;have p7:a.eval (.tmp 7)=.agg #[.int .i64 1,.int .i64 1,.int .i64 0,.slice none 0 0,.slice none 0 0]:=I ⟨2,.data⟩ (by simp) rfl;refine zbo 70 #[.agg #[.int .i64 1,.int .i64 1,.int .i64 0,.slice none 0 0,.slice none 0 0]] rfl rfl (by have pf:=Act.eval_func a 70;revert p7 pf;generalize a.eval=ρ;intro p7 pf;simp only[execOp];go_simp) _ (zds _ (zbr 0 1) _ ⟨none,0,none,0,rfl,.inl rfl,.inl rfl,Nat.zero_le _,Nat.zero_le _⟩) ?_;rintro e w2 ⟨rfl,A2⟩;refine⟨_,rfl,_,rfl,A.below A2,?_,zr8 A2⟩;show zmp _ _ _ _ _ _ ((a.put (some 8) _).eval (.tmp 8)) w2;rw[zaq E D (by decide)];rw[HS.o,z35];exact rfl
 ·exact zal 3 8 D (fun _ _ h=>h) (fun _=>rfl) fun ρ w' A p=>by simp only[execOp];go_simp
 ·exact zal 4 4 D (fun _ _ h=>h) (fun _=>rfl) fun ρ w' A p=>by simp only[execOp];go_simp
 ·exact zal 4 4 D (fun _ _ h=>h) (fun _=>rfl) fun ρ w' A p=>by simp only[execOp];go_simp
 ·intro a w' E A I;have p6:a.eval (.tmp 6)=.slice (some ⟨g,0,none⟩) 37 c:=I ⟨1,.data⟩ (by simp) rfl;exact zgm _ rfl rfl (by have K:=Act.eval_const a (.int .i64 0);revert p6 K;generalize a.eval=ρ;intro p6 K;simp only[execOp];go_simp) E D A rfl
 ·intro a w' E A I;have p9:a.eval (.tmp 9)=.string s:=I ⟨5,.data⟩ (by simp) rfl;have u:a.eval (.tmp 11)=.pointer (some ⟨g,0,none⟩):=I ⟨7,.data⟩ (by simp) rfl;obtain⟨A8,B9,t,n⟩:=A;have C4:w'.cell? ⟨g,0,none⟩=some (.string t):=by rw[n.cellAt 0 (by decide)];rfl
  have C5:w'.frozen? ⟨g,0,none⟩=false:=n.frozenAt 0;have F:=(n.stored 0 (.string s)).1;have k:(w'.setCell ⟨g,0,none⟩ (.string s)).ownsRow w.heap.size 9 1 (.slice (some ⟨g,0,none⟩) 37 c) 37 (cellsS (s::List.replicate 36 (fitT ⟨#[]⟩))):=F;refine zce rfl rfl (w':=w'.setCell ⟨g,0,none⟩ (.string s)) (by revert p9 u;generalize a.eval=ρ;intro p9 u;simp only[execOp];go_simp) ⟨_,rfl,⟨A8.setCell (p:=⟨g,0,none⟩) B5 _,(Below.heap_setCell _ _ _ _ (by simp only;omega)).trans B9,s,k⟩,?_,zx5⟩;show zmp _ _ _ _ _ _ _ _;exact k
 ·intro a W E A I;have F:W.ownsRow w.heap.size 9 1 (.slice (some ⟨g,0,none⟩) 37 c) 37 (cellsS (s::List.replicate 36 (fitT ⟨#[]⟩))):=I 8 (by decide);have B1:a.tmps.size=14:=E.size.trans D;have f1:a.eval (.tmp 1)=.pointer (some ⟨C.heap.size,0,none⟩):=(E.other 1 rfl).trans v1;have M:a=⟨#[_,_,_,_,_,_,_,_,_,_,_,_,_,_],[]⟩:=zb9 a 14 B1 (E.defers.trans B6);dsimp only at M;rw[f1]at M;show KK a _;exact(congrArg (fun x=>KK x _) M).mpr (r.o (a.eval (.tmp 0)) (a.eval (.tmp 2)) (a.eval (.tmp 3)) (a.eval (.tmp 4)) (a.eval (.tmp 5)) (a.eval (.tmp 6)) (a.eval (.tmp 7)) (a.eval (.tmp 8)) (a.eval (.tmp 9)) (a.eval (.tmp 10)) (a.eval (.tmp 11)) (a.eval (.tmp 12)) (a.eval (.tmp 13)) W F A.1 A.2.1)
theorem Move.acts{j:Jn}{a:Ac}{j':Jn}{r:Rp}(m:Move j a j' r):j'.acts=j.acts:=by
 cases m with
 |last hk s hs he=>
  rw[zbp];split
  ·rfl
  split
  ·rfl
  split
  ·rfl
  ·rfl
 |_=>rfl
theorem zvi{j:Jn}{D:Dk}(h:Md j D)(a:Ac)(h0:0≤j.acts)(h1:j.acts≤400):
  (400≤j.acts∧doJ j a=(j,zat 11))∨(j.acts<400∧(doJ j a).1.acts=j.acts+1∧∃D',Md (doJ j a).1 D'∧Trans {j with acts:=j.acts+1} D a (doJ j a).1 (doJ j a).2 D'):=by
 by_cases hf:400≤j.acts
 ·exact .inl ⟨hf,by rw[doJ,if_pos hf]⟩
 ·have e:doJ j a=zim {j with acts:=j.acts+1} a:=by rw[doJ,if_neg hf]
  have m:=zzo {j with acts:=j.acts+1} a;rw[e];refine .inr ⟨by omega,m.acts,(h.bump (x:=j.acts+1) (by omega)).move m (fun hk hs=>?_)⟩;show j.now.seq≤j.acts+1
  cases h with
  |idle p hs hz hD ht hq=>exact p.seq
  |commit P U k p hw hk hs hD ht he hse hrh hru hq hN=>exact p.seq
  |check k p hw hz hk hs hD ht hq=>exact p.seq
  |off l N P U p hs hf hD ht=>rw[p.now];show(0:Int)≤_;omega
  |back U k p hw hk hs hD ht=>rw[p.now];show(0:Int)≤_;omega
theorem z1d:Tells z1c [] 1 0 0:=by
 have A:za0 z1c=true:=by kernel_rfl
 refine zq6 A rfl (by kernel_rfl) z35 (fun n h1 h2=>?_)
 have C:zam z1c n=fitT ⟨#[]⟩:=by
  rw[z1c,zgz A (by omega)];obtain⟨m,rfl⟩:∃m,n=m+1:=⟨n - 1,by omega⟩;rw[List.getD_cons_succ,List.getD,List.getElem?_replicate,if_pos (by omega)];rfl
 rw[C];intro B;rw[z1b]at B;cases B
theorem z36:Md zya z1c:=.idle ⟨rfl,zpd (by decide) (by decide),by decide,rfl,rfl,fun hb=>by cases hb⟩ rfl rfl rfl z1d rfl
theorem Md.ready{j:Jn}{D:Dk}(h:Md j D)(h0:0≤j.acts)(h1:j.acts≤400):Ready j:=by
 have B:∀x:Int, -10≤x→x≤1000→IntKind.i64.wrap x=x:=fun x _ _=>by rw[IntKind.wrap_i64];omega
 have F:∀{l:List Tx} {N P U:Int},Pow j→j.done.length≤24→j.now.seq≤j.last+2→j.last+1≤j.now.seq→0≤j.last→0≤j.ru→j.ru≤24→Ready j:=by
  intro _ _ _ _ p hd I A5 hl O K;have E:=za3 p.good;have A2:=p.seq;refine⟨by omega,by rw[p.fL];exact Nat.zero_le _,by rw[p.fN];exact B _ (by omega) (by omega),B _ (by omega) (by omega),B _ (by omega) (by omega),by omega,by omega,(fun hd2=>by rw[p.up]at hd2;cases hd2),O,K,h0,h1⟩
 have len:∀{N P U:Int},Tells D (j.done.map toldOf) N P U→j.done.length≤24:=by
  intro N P U A;have C:=zot D;rw[A.tL,List.length_map]at C;exact C
 have L:∀{N:Int},Dn j N→j.fL.length≤24→ -1≤j.fN→j.fN≤402→(j.steps=[]→∀t∈fndL j.disk,Few t)→Ready j:=by
  intro N p M A4 A6 J;have C:=p.lo;have S:=p.seq;have R:=p.last0;refine⟨by rw[p.done];exact Nat.zero_le _,by unfold maxLen;omega,B _ (by omega) (by omega),by rw[p.now];exact B _ (by decide) (by decide),B _ (by omega) (by omega),by rw[p.now];decide,by rw[p.now];decide,fun _=>J,by rw[p.ru];exact Int.le_refl _,by rw[p.ru];decide,h0,h1⟩
 cases h with
 |idle p E hz hD A I=>have:=A.range;exact F (l:=[]) (N:=0) (P:=0) (U:=0) p (len A) (by omega) (by omega) (by omega) (by omega) (by omega)
 |commit P U k p hw hk E hD A he hse hrh hru I hN=>
  have:=A.range;obtain⟨_,Q,_,A0,A3⟩:=zbx he;have hn:=zez j.sealed (za3 Q).1 (za3 Q).2.2
  have A1:zch P U j.sealed=U+needN j.sealed.info.length j.sealed.rev.length:=by
   have C:=he;unfold sealE at C;split at C
   ·cases C
   ·rw[zch,if_pos he,takeU,if_pos C]
  exact F (l:=[]) (N:=0) (P:=0) (U:=0) p (len A) (by omega) (by omega) (by omega) (by omega) (by omega)
 |check k p hw hz hk E hD A I=>have:=A.range;exact F (l:=[]) (N:=0) (P:=0) (U:=0) p (len A) (by omega) (by omega) (by omega) (by omega) (by omega)
 |off l N P U p E M hD A=>
  refine L p (by rw[M.1];exact Nat.zero_le _) (by omega) (by omega) (fun _ t ht2=>z23 (A.goods t ?_))
  rwa [hD,A.tL]at ht2
 |back U k p hw hk E hD A=>
  have C:=A.range;have S:=p.seq;refine L p (by have R:=zot D;rwa [A.tL]at R) (by omega) (by omega) (fun hs2=>?_);rw[hs2]at E;have:=congrArg List.length E;rw[List.length_drop]at this;simp at this;omega
def PJ (j:Jn):Prop:=∃D,Md j D∧0≤j.acts∧j.acts≤400
theorem PJ.ready{j:Jn}(h:PJ j):Ready j:=by
 obtain⟨D,C,A,B⟩:=h;exact C.ready A B
theorem PJ.do{j:Jn}(h:PJ j)(a:Ac):PJ (doJ j a).1:=by
 obtain⟨D,C,A,B⟩:=h;rcases zvi C a A B with⟨h4,h5⟩|⟨h4,h5,D',h6,_⟩
 ·rw[h5];exact⟨D,C,A,B⟩
 ·exact⟨D',h6,by omega,by omega⟩
theorem PJ.new:PJ zya:=⟨z1c,z36,by decide,by decide⟩
def al1:Jn:=(doJ zya ⟨1,0,0,2,⟨#[]⟩⟩).1
def al2:Jn:=(doJ al1 ⟨2,0,3,0,⟨#[120]⟩⟩).1
def al3:Jn:=(doJ al2 ⟨9,0,3,0,⟨#[]⟩⟩).1
theorem z59:(doJ zya ⟨1,0,0,2,⟨#[]⟩⟩).2.code=0:=by kernel_rfl
theorem z6a:(doJ al1 ⟨2,0,3,0,⟨#[120]⟩⟩).2.code=0:=by kernel_rfl
theorem z38:(doJ al2 ⟨9,0,3,0,⟨#[]⟩⟩).2.n=1∧(doJ al2 ⟨9,0,3,0,⟨#[]⟩⟩).2.text=fitT ⟨#[120]⟩:=⟨by kernel_rfl,by kernel_rfl⟩
theorem z6b:(doJ al3 ⟨6,0,0,0,⟨#[]⟩⟩).2.code=9:=by kernel_rfl
def zvj (R1:Nat)(R2:Nat)(R3:Nat)(R4:Nat)(z:ByteArray):Nat→Value→World→Prop
 |0,v,_=>v=.pointer (some ⟨R1,0,none⟩)
 |1,v,_=>v=.int .i64 0
 |2,v,_=>v=.bool true
 |3,v,_=>v=.bool true
 |4,v,_=>v=.pointer (some ⟨R2,0,none⟩)
 |5,v,_=>v=.int .i64 0
 |6,v,_=>v=.bool true
 |7,v,_=>v=.bool true
 |8,v,_=>v=.bool true
 |9,v,_=>v=.pointer (some ⟨R3,2,none⟩)
 |10,v,_=>v=.string z
 |11,v,_=>v=.string z
 |12,v,_=>v=.bool true
 |13,v,_=>v=.bool true
 |14,v,_=>v=.bool true
 |15,v,_=>v=.pointer (some ⟨R3,1,none⟩)
 |16,v,_=>v=.int .i64 1
 |17,v,_=>v=.bool true
 |18,v,_=>v=.bool true
 |19,v,_=>v=.bool true
 |20,v,_=>v=.pointer (some ⟨R4,0,none⟩)
 |21,v,_=>v=.int .i64 9
 |22,v,_=>v=.bool true
 |23,v,_=>v=.bool true
 |24,v,_=>v=.bool true
 |_,_,_=>True
theorem zr9{R1:Nat}{R2:Nat}{R3:Nat}{R4:Nat}{z:ByteArray}{w w':World}(_hb:Below w.heap.size w w'){i:Nat}:∀kk uu,kk≠i→zvj R1 R2 R3 R4 z kk uu w→zvj R1 R2 R3 R4 z kk uu w':=by
 intro kk uu _ h
 match kk,h with
 |0,h|1,h|2,h|3,h|4,h|5,h|6,h|7,h|8,h|9,h|10,h|11,h|12,h|13,h|14,h|15,h|16,h|17,h|18,h|19,h|20,h|21,h|22,h|23,h|24,h=>exact h
 |_+25,_=>exact trivial
theorem z1e(w:World):Calls Tryz.prog 39 #[] w fun e w'=>e=.returned (.bool true)∧Below w.heap.size w w':=by
 obtain⟨z,hz⟩:∃z,z=fitT ⟨#[120]⟩:=⟨_,rfl⟩;have HZ:=zaa hz;clear hz;go_enter Tryz.func39,Tryz.ntmps39;go_wp2_with fail;refine(zvh _).mono ?_;rintro e w1 ⟨B,rfl,G2,R,F⟩;have A3:=zaa (R [] (by simp));have F7:B<w1.heap.size:=A3.o.lt;have B7:=zaa F;have G7:w.heap.size≤w1.heap.size:=F.size;have A9:=zaa PJ.new
 have C9:Hid (∀P,P=doJ zya ⟨1,0,0,2,⟨#[]⟩⟩→P.2.code=0∧∀j1,j1=P.1→∀P,P=doJ j1 ⟨2,0,3,0,⟨#[120]⟩⟩→P.2.code=0∧∀j2,j2=P.1→∀P,P=doJ j2 ⟨9,0,3,0,⟨#[]⟩⟩→P.2.n=1∧P.2.text=z∧∀j3,j3=P.1→∀P,P=doJ j3 ⟨6,0,0,0,⟨#[]⟩⟩→P.2.code=9∧True):=by
  rintro P rfl;refine⟨z59,?_⟩;rintro j1 rfl P rfl;refine⟨z6a,?_⟩;rintro j2 rfl P rfl;refine⟨z38.1,z38.2.trans HZ.o.symm,?_⟩;rintro j3 rfl P rfl;exact⟨z6b,trivial⟩
 clear R F;obtain⟨j0,D2⟩:∃j0,j0=zya:=⟨_,rfl⟩;rw[←D2]at A3 A9 C9;clear D2;go_wp2_with fail;refine(zj8 B [B] j0 w1 A3.o (fun x L=>by rw[List.mem_singleton.1 L];omega) A9.o.ready ⟨1,0,0,2,⟨#[]⟩⟩ (by decide) (by decide)).mono ?_;rintro e c ⟨rfl,R,I⟩;obtain⟨P,U⟩:∃P,P=doJ j0 ⟨1,0,0,2,⟨#[]⟩⟩:=⟨_,rfl⟩;have C3:Hid (PJ P.1):=by rw[U];exact A9.o.do _
 have D1:=zaa (C9.o P U);rw[←U]at R⊢
 have Y:vRp P.2=.agg #[.int .i64 0,.int .i64 P.2.n,.string P.2.text]:=by
  show Value.agg #[.int .i64 P.2.code,.int .i64 P.2.n,.string P.2.text]=_;rw[D1.o.1]
 rw[Y];obtain⟨j1,C1⟩:∃x,x=P.1:=⟨_,rfl⟩;rw[←C1]at C3 R;have E4:=zaa (D1.o.2 j1 C1);clear C1 Y;generalize P.2.n=n1 at *;generalize P.2.text=t1 at *;generalize P.2.code=c1 at *;clear U;have C0:w1.heap.size≤c.heap.size:=I.size
 have B8:Hid (Below w.heap.size w c):=by
  have L:=B7.o;exact⟨I.os.trans L.os,I.tape.trans L.tape,I.output.trans L.output,Nat.le_trans L.size I.size,fun q hq=>(I.block q (by have:=L.size;omega) (by simp;omega)).trans (L.block q hq)⟩
 go_wp2_with fail;obtain⟨W1,N⟩:∃W,W=c.alloc (.cells #[.int .i64 0,.int .i64 n1,.string t1] 31):=⟨_,rfl⟩;rw[←N];have F:Below c.heap.size c W1:=by rw[N];exact zab _ _
 have E8:=zaa (R.below F);have A4:=zaa (zae B8.o F);have F3:W1.heap.size=c.heap.size+1:=by rw[N];simp
 have J:Hid (W1.heap[c.heap.size]?=some (.cells #[.int .i64 0,.int .i64 n1,.string t1] 31 (0,0))):=by rw[N];exact heap_alloc_new _ _
 clear N F R I B8 B7;refine(zj8 B [B] j1 W1 E8.o (fun x L=>by rw[List.mem_singleton.1 L];omega) C3.o.ready ⟨2,0,3,0,⟨#[120]⟩⟩ (by decide) (by decide)).mono ?_;rintro e i ⟨rfl,R,I⟩;obtain⟨P,U⟩:∃P,P=doJ j1 ⟨2,0,3,0,⟨#[120]⟩⟩:=⟨_,rfl⟩;have A8:Hid (PJ P.1):=by rw[U];exact C3.o.do _
 have C6:=zaa (E4.o P U);rw[←U]at R⊢
 have Y:vRp P.2=.agg #[.int .i64 0,.int .i64 P.2.n,.string P.2.text]:=by
  show Value.agg #[.int .i64 P.2.code,.int .i64 P.2.n,.string P.2.text]=_;rw[C6.o.1]
 rw[Y];obtain⟨j2,B3⟩:∃x,x=P.1:=⟨_,rfl⟩;rw[←B3]at A8 R;have E9:=zaa (C6.o.2 j2 B3);clear B3 Y;generalize P.2.n=n2 at *;generalize P.2.text=t2 at *;generalize P.2.code=c2 at *;clear U;have C0:W1.heap.size≤i.heap.size:=I.size;have K:=zaa ((I.block _ (by omega) (by simp;omega)).trans J.o);clear J;have J:=K;clear K
 have B4:Hid (Below w.heap.size w i):=by
  have L:=A4.o;exact⟨I.os.trans L.os,I.tape.trans L.tape,I.output.trans L.output,Nat.le_trans L.size I.size,fun q hq=>(I.block q (by have:=L.size;omega) (by simp;omega)).trans (L.block q hq)⟩
 go_wp2_with fail;obtain⟨W2,N⟩:∃W,W=i.alloc (.cells #[.int .i64 0,.int .i64 n2,.string t2] 31):=⟨_,rfl⟩;rw[←N];have F:Below i.heap.size i W2:=by rw[N];exact zab _ _
 have D9:=zaa (R.below F);have B2:=zaa (zae B4.o F);have F4:W2.heap.size=i.heap.size+1:=by rw[N];simp
 have M:Hid (W2.heap[i.heap.size]?=some (.cells #[.int .i64 0,.int .i64 n2,.string t2] 31 (0,0))):=by rw[N];exact heap_alloc_new _ _
 have K:=zaa (zad F (by omega) J.o);clear J;have J:=K;clear K;clear N F R I B4 A4;refine(zj8 B [B] j2 W2 D9.o (fun x L=>by rw[List.mem_singleton.1 L];omega) A8.o.ready ⟨9,0,3,0,⟨#[]⟩⟩ (by decide) (by decide)).mono ?_;rintro e Z ⟨rfl,R,I⟩;obtain⟨P,U⟩:∃P,P=doJ j2 ⟨9,0,3,0,⟨#[]⟩⟩:=⟨_,rfl⟩;have B6:Hid (PJ P.1):=by rw[U];exact A8.o.do _
 have B9:=zaa (E9.o P U);rw[←U]at R⊢
 have Y:vRp P.2=.agg #[.int .i64 P.2.code,.int .i64 1,.string z]:=by
  show Value.agg #[.int .i64 P.2.code,.int .i64 P.2.n,.string P.2.text]=_;rw[B9.o.1,B9.o.2.1]
 rw[Y];obtain⟨j3,B1⟩:∃x,x=P.1:=⟨_,rfl⟩;rw[←B1]at B6 R;have E2:=zaa (B9.o.2.2 j3 B1);clear B1 Y;generalize P.2.n=n3 at *;generalize P.2.text=t3 at *;generalize P.2.code=c3 at *;clear U;have C0:W2.heap.size≤Z.heap.size:=I.size;have K:=zaa ((I.block _ (by omega) (by simp;omega)).trans J.o);clear J;have J:=K;clear K;have Q:=zaa ((I.block _ (by omega) (by simp;omega)).trans M.o);clear M;have M:=Q;clear Q
 have A6:Hid (Below w.heap.size w Z):=by
  have L:=B2.o;exact⟨I.os.trans L.os,I.tape.trans L.tape,I.output.trans L.output,Nat.le_trans L.size I.size,fun q hq=>(I.block q (by have:=L.size;omega) (by simp;omega)).trans (L.block q hq)⟩
 go_wp2_with fail;obtain⟨W3,N⟩:∃W,W=Z.alloc (.cells #[.int .i64 c3,.int .i64 1,.string z] 31):=⟨_,rfl⟩;rw[←N];have F:Below Z.heap.size Z W3:=by rw[N];exact zab _ _
 have E1:=zaa (R.below F);have A7:=zaa (zae A6.o F);have F6:W3.heap.size=Z.heap.size+1:=by rw[N];simp
 have X:Hid (W3.heap[Z.heap.size]?=some (.cells #[.int .i64 c3,.int .i64 1,.string z] 31 (0,0))):=by rw[N];exact heap_alloc_new _ _
 have K:=zaa (zad F (by omega) J.o);clear J;have J:=K;clear K;have Q:=zaa (zad F (by omega) M.o);clear M;have M:=Q;clear Q;clear N F R I A6 B2;refine(zj8 B [B] j3 W3 E1.o (fun x L=>by rw[List.mem_singleton.1 L];omega) B6.o.ready ⟨6,0,0,0,⟨#[]⟩⟩ (by decide) (by decide)).mono ?_;rintro e d ⟨rfl,R,I⟩;obtain⟨P,U⟩:∃P,P=doJ j3 ⟨6,0,0,0,⟨#[]⟩⟩:=⟨_,rfl⟩;have F0:Hid (PJ P.1):=by rw[U];exact B6.o.do _
 have E5:=zaa (E2.o P U);rw[←U]at R⊢
 have Y:vRp P.2=.agg #[.int .i64 9,.int .i64 P.2.n,.string P.2.text]:=by
  show Value.agg #[.int .i64 P.2.code,.int .i64 P.2.n,.string P.2.text]=_;rw[E5.o.1]
 rw[Y];obtain⟨j4,C8⟩:∃x,x=P.1:=⟨_,rfl⟩;rw[←C8]at F0 R;clear C8 Y;generalize P.2.n=n4 at *;generalize P.2.text=t4 at *;generalize P.2.code=c4 at *;clear U;have C0:W3.heap.size≤d.heap.size:=I.size;have K:=zaa ((I.block _ (by omega) (by simp;omega)).trans J.o);clear J;have J:=K;clear K;have Q:=zaa ((I.block _ (by omega) (by simp;omega)).trans M.o);clear M;have M:=Q;clear Q;have j:=zaa ((I.block _ (by omega) (by simp;omega)).trans X.o);clear X;have X:=j;clear j
 have B0:Hid (Below w.heap.size w d):=by
  have L:=A7.o;exact⟨I.os.trans L.os,I.tape.trans L.tape,I.output.trans L.output,Nat.le_trans L.size I.size,fun q hq=>(I.block q (by have:=L.size;omega) (by simp;omega)).trans (L.block q hq)⟩
 go_wp2;rename_i KK A5;obtain⟨W4,N⟩:∃W,W=d.alloc (.cells #[.int .i64 9,.int .i64 n4,.string t4] 31):=⟨_,rfl⟩;rw[←N];have F:Below d.heap.size d W4:=by rw[N];exact zab _ _
 have G0:=zaa (R.below F);have B5:=zaa (zae B0.o F);have F5:W4.heap.size=d.heap.size+1:=by rw[N];simp
 have m:Hid (W4.heap[d.heap.size]?=some (.cells #[.int .i64 9,.int .i64 n4,.string t4] 31 (0,0))):=by rw[N];exact heap_alloc_new _ _
 have K:=zaa (zad F (by omega) J.o);clear J;have J:=K;clear K;have Q:=zaa (zad F (by omega) M.o);clear M;have M:=Q;clear Q;have j:=zaa (zad F (by omega) X.o);clear X;have X:=j;clear j;clear N F R I B0 A7;obtain⟨R1,A1⟩:∃x,x=c.heap.size:=⟨_,rfl⟩;obtain⟨R2,u⟩:∃x,x=i.heap.size:=⟨_,rfl⟩;obtain⟨l,r⟩:∃x,x=Z.heap.size:=⟨_,rfl⟩;obtain⟨y,s⟩:∃x,x=d.heap.size:=⟨_,rfl⟩;obtain⟨W,N⟩:∃x,x=W4:=⟨_,rfl⟩;rw[←A1]at J;rw[←u]at M;rw[←r]at X;rw[←s]at m;rw[←N]at J M X m B5;rw[←A1,←u,←r,←s,←N];have E3:Hid (W.cell? ⟨R1,0,none⟩=some (.int .i64 0)):=(cell_of_row W _ 0 _ _ _ J.o).trans rfl;have G1:Hid (W.cell? ⟨R1,1,none⟩=some (.int .i64 n1)):=(cell_of_row W _ 1 _ _ _ J.o).trans rfl;have F9:Hid (W.cell? ⟨R1,2,none⟩=some (.string t1)):=(cell_of_row W _ 2 _ _ _ J.o).trans rfl;have E6:Hid (W.cell? ⟨R2,0,none⟩=some (.int .i64 0)):=(cell_of_row W _ 0 _ _ _ M.o).trans rfl;have G4:Hid (W.cell? ⟨R2,1,none⟩=some (.int .i64 n2)):=(cell_of_row W _ 1 _ _ _ M.o).trans rfl;have G6:Hid (W.cell? ⟨R2,2,none⟩=some (.string t2)):=(cell_of_row W _ 2 _ _ _ M.o).trans rfl;have F8:Hid (W.cell? ⟨l,0,none⟩=some (.int .i64 c3)):=(cell_of_row W _ 0 _ _ _ X.o).trans rfl;have D8:Hid (W.cell? ⟨l,1,none⟩=some (.int .i64 1)):=(cell_of_row W _ 1 _ _ _ X.o).trans rfl;have F1:Hid (W.cell? ⟨l,2,none⟩=some (.string z)):=(cell_of_row W _ 2 _ _ _ X.o).trans rfl;have F2:Hid (W.cell? ⟨y,0,none⟩=some (.int .i64 9)):=(cell_of_row W _ 0 _ _ _ m.o).trans rfl;have G3:Hid (W.cell? ⟨y,1,none⟩=some (.int .i64 n4)):=(cell_of_row W _ 1 _ _ _ m.o).trans rfl;have G5:Hid (W.cell? ⟨y,2,none⟩=some (.string t4)):=(cell_of_row W _ 2 _ _ _ m.o).trans rfl;have D7:R1<W.heap.size:=(Array.getElem?_eq_some_iff.1 J.o).1;have D6:R2<W.heap.size:=(Array.getElem?_eq_some_iff.1 M.o).1;have D4:l<W.heap.size:=(Array.getElem?_eq_some_iff.1 X.o).1;have D5:y<W.heap.size:=(Array.getElem?_eq_some_iff.1 m.o).1
 clear A1 u r s N;have A1:=D7;have u:=D6;have r:=D4;have s:=D5
 have C2:∀(g:Nat→Value) (W':World),Below W.heap.size W W'→KK ⟨#[.bool true,g 1,g 2,g 3,g 4,g 5,g 6,g 7,g 8,g 9,g 10,g 11,g 12,g 13,g 14,g 15,g 16,g 17,g 18,g 19,g 20,g 21,g 22,g 23,g 24,g 25,g 26,g 27,g 28,g 29,g 30,g 31,g 32,g 33,g 34,g 35,g 36,g 37,g 38,g 39,g 40,g 41,g 42,g 43,g 44],[]⟩ W':=by
  intro g W' hb;apply A5;clear A5;go_wp2;go_ret;exact⟨rfl,zae B5.o hb⟩
 have C4:=zaa C2;clear C2 A5;refine(show∀A0:Act,A0=_→Code.wp Tryz.prog _ _ A0 _ from fun A0 hA0=>?_) _ rfl;have E:A0.tmps.size=45:=by rw[hA0];rfl
 have E7:A0.defers=[]:=by rw[hA0]
 have v2:A0.eval (.tmp 2)=.pointer (some ⟨R1,0,none⟩):=by rw[hA0];rfl
 have v3:A0.eval (.tmp 3)=.pointer (some ⟨R2,0,none⟩):=by rw[hA0];rfl
 have v4:A0.eval (.tmp 4)=.pointer (some ⟨l,0,none⟩):=by rw[hA0];rfl
 have v5:A0.eval (.tmp 5)=.pointer (some ⟨y,0,none⟩):=by rw[hA0];rfl
 clear hA0;refine ze2 (fun w'=>Below W.heap.size W w') [21,22,23,24,25,26,27,28,29,30,31,32,33,34,35,36,37,38,39,40,41,42,43,44,0] (zvj R1 R2 l y z) (by kernel_rfl) (by kernel_rfl) (by kernel_rfl) ((Below.refl _ _).drew) ⟨?_,?_,?_,?_,?_,?_,?_,?_,?_,?_,?_,?_,?_,?_,?_,?_,?_,?_,?_,?_,?_,?_,?_,?_,?_,trivial⟩ ?_
 ·exact zbd v2 E (fun _=>rfl) fun ρ w' C z=>by simp only[execOp];go_simp
 ·exact zal 0 21 E (fun _ _ h=>h) (fun _=>rfl) fun ρ w' C p=>by have c0:w'.cell? ⟨R1,0,none⟩=some (.int .i64 0):=zac C A1 E3.o;simp only[execOp];go_simp
 ·intro a w' D C A;have C7:a.eval (.tmp 22)=.int .i64 0:=A ⟨1,.data⟩ (by simp) rfl;exact zgm _ rfl rfl (by have S:=Act.eval_const a (.int .i64 0);revert C7 S;generalize a.eval=ρ;intro C7 S;simp only[execOp];go_simp) D E C rfl
 ·exact zal 2 23 E (fun _ _ h=>h) (fun _=>rfl) fun ρ w' C p=>by simp only[execOp];go_simp
 ·intro a w' D C A;have O:a.eval (.tmp 24)=.bool true:=A ⟨3,Ground.guard⟩ (by simp) rfl;have z3:=(D.other 3 rfl).trans v3;exact zgk _ rfl (zb6 (b:=true) rfl rfl O) (by revert z3;generalize a.eval=ρ;intro z3;simp only[execOp];go_simp) D E C rfl
 ·intro a w' D C A;have O:a.eval (.tmp 24)=.bool true:=A ⟨3,Ground.guard⟩ (by simp) rfl;have p25:a.eval (.tmp 25)=.pointer (some ⟨R2,0,none⟩):=A ⟨4,.data⟩ (by simp) rfl;have c0:w'.cell? ⟨R2,0,none⟩=some (.int .i64 0):=zac C u E6.o;exact zgk _ rfl (zb6 (b:=true) rfl rfl O) (by revert p25;generalize a.eval=ρ;intro p25;simp only[execOp];go_simp) D E C rfl
 ·intro a w' D C A;have O:a.eval (.tmp 24)=.bool true:=A ⟨3,Ground.guard⟩ (by simp) rfl;have p26:a.eval (.tmp 26)=.int .i64 0:=A ⟨5,.data⟩ (by simp) rfl;exact zgk _ rfl (zb6 (b:=true) rfl rfl O) (by have S:=Act.eval_const a (.int .i64 0);revert p26 S;generalize a.eval=ρ;intro p26 S;simp only[execOp];go_simp) D E C rfl
 ·intro a w' D C A;have C5:a.eval (.tmp 24)=.bool true:=A ⟨3,.data⟩ (by simp) rfl;have p27:a.eval (.tmp 27)=.bool true:=A ⟨6,.data⟩ (by simp) rfl;exact zgm _ rfl rfl (by revert C5 p27;generalize a.eval=ρ;intro C5 p27;simp only[execOp];go_simp) D E C rfl
 ·exact zal 7 28 E (fun _ _ h=>h) (fun _=>rfl) fun ρ w' C p=>by simp only[execOp];go_simp
 ·intro a w' D C A;have O:a.eval (.tmp 29)=.bool true:=A ⟨8,Ground.guard⟩ (by simp) rfl;have z4:=(D.other 4 rfl).trans v4;exact zgk _ rfl (zb6 (b:=true) rfl rfl O) (by revert z4;generalize a.eval=ρ;intro z4;simp only[execOp];go_simp) D E C rfl
 ·intro a w' D C A;have O:a.eval (.tmp 29)=.bool true:=A ⟨8,Ground.guard⟩ (by simp) rfl;have p30:a.eval (.tmp 30)=.pointer (some ⟨l,2,none⟩):=A ⟨9,.data⟩ (by simp) rfl;have c0:w'.cell? ⟨l,2,none⟩=some (.string z):=zac C r F1.o;exact zgk _ rfl (zb6 (b:=true) rfl rfl O) (by revert p30;generalize a.eval=ρ;intro p30;simp only[execOp];go_simp) D E C rfl
 ·intro a w' D C A;have O:a.eval (.tmp 29)=.bool true:=A ⟨8,Ground.guard⟩ (by simp) rfl;refine zw8 25 #[.string ⟨#[120]⟩] rfl (zb6 (b:=true) rfl rfl O) (by have pf:=Act.eval_func a 25;have S:=Act.eval_const a (.string ⟨#[120]⟩);revert pf S;generalize a.eval=ρ;intro pf S;simp only[execOp];go_simp) _ (zf9 ⟨#[120]⟩ _ (by decide)) ?_;rintro e w2 ⟨rfl,D3⟩;refine⟨_,rfl,_,rfl,zae C D3,?_,zr9 D3⟩;show zvj _ _ _ _ _ _ ((a.put (some 32) _).eval (.tmp 32)) w2;rw[zaq D E (by decide)];rw[←HZ.o];exact rfl
 ·intro a w' D C A;have O:a.eval (.tmp 29)=.bool true:=A ⟨8,Ground.guard⟩ (by simp) rfl;have p31:a.eval (.tmp 31)=.string z:=A ⟨10,.data⟩ (by simp) rfl;have p32:a.eval (.tmp 32)=.string z:=A ⟨11,.data⟩ (by simp) rfl;exact zgk _ rfl (zb6 (b:=true) rfl rfl O) (by revert p31 p32;generalize a.eval=ρ;intro p31 p32;simp only[execOp];go_simp) D E C rfl
 ·intro a w' D C A;have p29:a.eval (.tmp 29)=.bool true:=A ⟨8,.data⟩ (by simp) rfl;have p33:a.eval (.tmp 33)=.bool true:=A ⟨12,.data⟩ (by simp) rfl;exact zgm _ rfl rfl (by revert p29 p33;generalize a.eval=ρ;intro p29 p33;simp only[execOp];go_simp) D E C rfl
 ·exact zal 13 34 E (fun _ _ h=>h) (fun _=>rfl) fun ρ w' C p=>by simp only[execOp];go_simp
 ·intro a w' D C A;have O:a.eval (.tmp 35)=.bool true:=A ⟨14,Ground.guard⟩ (by simp) rfl;have z4:=(D.other 4 rfl).trans v4;exact zgk _ rfl (zb6 (b:=true) rfl rfl O) (by revert z4;generalize a.eval=ρ;intro z4;simp only[execOp];go_simp) D E C rfl
 ·intro a w' D C A;have O:a.eval (.tmp 35)=.bool true:=A ⟨14,Ground.guard⟩ (by simp) rfl;have p36:a.eval (.tmp 36)=.pointer (some ⟨l,1,none⟩):=A ⟨15,.data⟩ (by simp) rfl;have c0:w'.cell? ⟨l,1,none⟩=some (.int .i64 1):=zac C r D8.o;exact zgk _ rfl (zb6 (b:=true) rfl rfl O) (by revert p36;generalize a.eval=ρ;intro p36;simp only[execOp];go_simp) D E C rfl
 ·intro a w' D C A;have O:a.eval (.tmp 35)=.bool true:=A ⟨14,Ground.guard⟩ (by simp) rfl;have p37:a.eval (.tmp 37)=.int .i64 1:=A ⟨16,.data⟩ (by simp) rfl;exact zgk _ rfl (zb6 (b:=true) rfl rfl O) (by have S:=Act.eval_const a (.int .i64 1);revert p37 S;generalize a.eval=ρ;intro p37 S;simp only[execOp];go_simp) D E C rfl
 ·intro a w' D C A;have p35:a.eval (.tmp 35)=.bool true:=A ⟨14,.data⟩ (by simp) rfl;have p38:a.eval (.tmp 38)=.bool true:=A ⟨17,.data⟩ (by simp) rfl;exact zgm _ rfl rfl (by revert p35 p38;generalize a.eval=ρ;intro p35 p38;simp only[execOp];go_simp) D E C rfl
 ·exact zal 18 39 E (fun _ _ h=>h) (fun _=>rfl) fun ρ w' C p=>by simp only[execOp];go_simp
 ·intro a w' D C A;have O:a.eval (.tmp 40)=.bool true:=A ⟨19,Ground.guard⟩ (by simp) rfl;have z5:=(D.other 5 rfl).trans v5;exact zgk _ rfl (zb6 (b:=true) rfl rfl O) (by revert z5;generalize a.eval=ρ;intro z5;simp only[execOp];go_simp) D E C rfl
 ·intro a w' D C A;have O:a.eval (.tmp 40)=.bool true:=A ⟨19,Ground.guard⟩ (by simp) rfl;have p41:a.eval (.tmp 41)=.pointer (some ⟨y,0,none⟩):=A ⟨20,.data⟩ (by simp) rfl;have c0:w'.cell? ⟨y,0,none⟩=some (.int .i64 9):=zac C s F2.o;exact zgk _ rfl (zb6 (b:=true) rfl rfl O) (by revert p41;generalize a.eval=ρ;intro p41;simp only[execOp];go_simp) D E C rfl
 ·intro a w' D C A;have O:a.eval (.tmp 40)=.bool true:=A ⟨19,Ground.guard⟩ (by simp) rfl;have p42:a.eval (.tmp 42)=.int .i64 9:=A ⟨21,.data⟩ (by simp) rfl;exact zgk _ rfl (zb6 (b:=true) rfl rfl O) (by have S:=Act.eval_const a (.int .i64 9);revert p42 S;generalize a.eval=ρ;intro p42 S;simp only[execOp];go_simp) D E C rfl
 ·intro a w' D C A;have p40:a.eval (.tmp 40)=.bool true:=A ⟨19,.data⟩ (by simp) rfl;have p43:a.eval (.tmp 43)=.bool true:=A ⟨22,.data⟩ (by simp) rfl;exact zgm _ rfl rfl (by revert p40 p43;generalize a.eval=ρ;intro p40 p43;simp only[execOp];go_simp) D E C rfl
 ·exact zal 23 44 E (fun _ _ h=>h) (fun _=>rfl) fun ρ w' C p=>by simp only[execOp];go_simp
 ·intro a W' D C A;have p0:a.eval (.tmp 0)=.bool true:=A 24 (by decide);have E0:a.tmps.size=45:=D.size.trans E;have A2:a=⟨#[_,_,_,_,_,_,_,_,_,_,_,_,_,_,_,_,_,_,_,_,_,_,_,_,_,_,_,_,_,_,_,_,_,_,_,_,_,_,_,_,_,_,_,_,_],[]⟩:=zb9 a 45 E0 (D.defers.trans E7);dsimp only at A2;rw[p0]at A2;show KK a _;exact(congrArg (fun x=>KK x _) A2).mpr (C4.o (fun k=>a.eval (.tmp k)) _ C)
section
variable (j:Jn) (D:Dk) (j':Jn) (D':Dk) (b:Nat)
structure SameB:Prop where
 hi:zai b j'.now.info=zai b j.now.info
 hd:zai b j'.now.data=zai b j.now.data
 hv:zaw j'.now.rev b=zaw j.now.rev b
 hq:j'.now.seq=j.now.seq
 hs:j'.sealed=j.sealed
 hdn:j'.done=j.done
 hr:j'.role b=j.role b
 hf:j'.freed b=j.freed b
 hl:j'.last=j.last
 hD:D'=D
structure WriteB (s:ByteArray):Prop where
 hi:zai b j'.now.info=some s
 hd0:zai b j.now.data=none
 hd:zai b j'.now.data=none
 hv:zaw j'.now.rev b=false
 hq:j'.now.seq=j.now.seq
 hs:j'.sealed=j.sealed
 hdn:j'.done=j.done
 hr:j'.role b=1
 hr0:j.role b≠2
 hf:j'.freed b=j.freed b
 hl:j'.last=j.last
 hD:D'=D
structure FillB (s:ByteArray):Prop where
 hi0:zai b j.now.info=none
 hv0:zaw j.now.rev b=false
 hi:zai b j'.now.info=none
 hv:zaw j'.now.rev b=false
 hd:zai b j'.now.data=some s
 hq:j'.now.seq=j.now.seq
 hs:j'.sealed=j.sealed
 hdn:j'.done=j.done
 hr:j'.role b=2
 hr0:j.role b≠1
 hf0:j.freed b≤j.last
 hf:j'.freed b=j.freed b
 hl:j'.last=j.last
 hD:D'=D
structure RevokeB:Prop where
 hi:zai b j'.now.info=none
 hd:zai b j'.now.data=none
 hv:zaw j'.now.rev b=true
 hq:j'.now.seq=j.now.seq
 hs:j'.sealed=j.sealed
 hdn:j'.done=j.done
 hr:j'.role b=0
 hr0:j.role b≠0
 hf:j'.freed b=j.now.seq
 hl:j'.last=j.last
 hD:D'=D
structure CommitB:Prop where
 hz:j.sealed=zct 0
 hs:j'.sealed=j.now
 hn:j'.now=zct (j.now.seq+1)
 hq:j.now.seq=j.last+1
 hdn:j'.done=j.done
 hr:j'.role b=j.role b
 hf:j'.freed b=j.freed b
 hl:j'.last=j.last
 hD:D'=D
structure ThroughB:Prop where
 hs:j'.sealed=zct 0
 hn:j'.now=j.now
 hse:j.sealed.seq=j.last+1
 hq:j.now.seq=j.last+2
 hdn:j'.done=j.done++[j.sealed]
 hr:j'.role b=j.role b
 hf:j'.freed b=j.freed b
 hl:j'.last=j.last+1
 hh:zam D' ((25+b:Nat):Int)=(zai b j.sealed.data).getD (zam D ((25+b:Nat):Int))
structure HomeB:Prop where
 hz:j.sealed=zct 0
 hs:j'.sealed=zct 0
 hn:j'.now=j.now
 hdn:j'.done=[]
 hr:j'.role b=j.role b
 hf:j'.freed b=j.freed b
 hl:j'.last=j.last
 hh:zam D' ((25+b:Nat):Int)=(newestF j.done b).getD (zam D ((25+b:Nat):Int))
inductive KpB:Prop
 |same (h:SameB j D j' D' b)
 |commit (h:CommitB j D j' D' b)
 |through (h:ThroughB j D j' D' b)
 |home (h:HomeB j D j' D' b)
inductive EvB:Prop
 |keep (h:KpB j D j' D' b)
 |write (s:ByteArray) (h:WriteB j D j' D' b s)
 |fill (s:ByteArray) (h:FillB j D j' D' b s)
 |revoke (h:RevokeB j D j' D' b)
end
inductive Ev (j:Jn)(D:Dk)(a:Ac)(j':Jn)(r:Rp)(D':Dk):Prop
 |calm (hd:j'.down=j.down) (hD:D'=D) (all:∀b:Nat,b<12→SameB j D j' D' b) (hk:r.code=0→a.kind≠2∧a.kind≠3∧a.kind≠4∧a.kind≠6∧a.kind≠10) (h8:a.kind=8→r.n=0)
   (h9:r.code=0→a.kind=9→∃b:Nat,b<12∧a.b=b∧textJ j b=(r.text,0)∧j.down=false)
 |write (b:Nat) (hb:b<12) (hab:a.b=b) (hk:a.kind=2) (hu:j.down=false) (hu':j'.down=false) (hc:r=zat 0) (here:WriteB j D j' D' b (fitT a.text)) (others:∀x:Nat,x<12→x≠b→SameB j D j' D' x)
 |fill (b:Nat) (hb:b<12) (hab:a.b=b) (hk:a.kind=3) (hu:j.down=false) (hu':j'.down=false) (hc:r=zat 0) (here:FillB j D j' D' b (fitT a.text)) (others:∀x:Nat,x<12→x≠b→SameB j D j' D' x)
 |revoke (b:Nat) (hb:b<12) (hab:a.b=b) (hk:a.kind=4) (hu:j.down=false) (hu':j'.down=false) (hc:r=zat 0) (here:RevokeB j D j' D' b) (others:∀x:Nat,x<12→x≠b→SameB j D j' D' x)
 |commit (hk:a.kind=6) (hu:j.down=false) (hu':j'.down=false) (hc:r.code=0) (hn:r.n=j.last+1) (all:∀b:Nat,CommitB j D j' D' b)
 |through (hk:a.kind=8) (hu:j.down=false) (hu':j'.down=false) (hc:r.code=0) (hn:r.n=j.last+1) (all:∀b:Nat,b<12→ThroughB j D j' D' b)
 |home (hk:a.kind=8) (hu:j.down=false) (hu':j'.down=false) (hc:r=zat 0) (all:∀b:Nat,b<12→HomeB j D j' D' b)
 |on (hk:a.kind=8) (hd:j.down=true) (hu':j'.down=false) (hc:r=zat 0) (hl:j'.last=fndN D - 1) (hs:j'.sealed=zct 0) (hn:j'.now=zct (fndN D)) (hdn:j'.done=[]) (hr:∀b:Nat,j'.role b=zb4 (fndL D).reverse b) (hf:∀b:Nat,j'.freed b=0)
   (hdk:j'.disk=D') (hh:∀b:Nat,b<12→zam D' ((25+b:Nat):Int)=zm4 D b)
 |crash (hk:a.kind=10) (hu':j'.down=true) (hc:r=zat 0) (hl:j'.last=j.last) (left:Left j D D')
theorem zli(f:Nat→Int){b:Int}{k:Nat}(x:Int)(h:b=k):upd f b x k=x:=by rw[upd,if_pos h.symm]
theorem zvk(f:Nat→Int){b:Int}{k:Nat}(x:Int)(h:b≠k):upd f b x k=f k:=by rw[upd,if_neg (fun e=>h e.symm)]
theorem zku{l r:List (Int×ByteArray)}{x:Int}(hl:Up (·.1) l)(hr:Up (·.1) r)(h:l.filter (fun y=>decide (y.1=x))=r.filter (fun y=>decide (y.1=x))):zai x l=zai x r:=by
 have A:=zga hl x;have B:=zga hr x;rw[h,B]at A
 cases e1:zai x l with
 |none=>
  cases e2:zai x r with
  |none=>rfl
  |some s=>rw[e1,e2]at A;simp at A
 |some s=>
  cases e2:zai x r with
  |none=>rw[e1,e2]at A;simp at A
  |some u=>rw[e1,e2]at A;simp at A;rw[A]
theorem zmq{l:List (Int×ByteArray)}(h:Up (·.1) l){b x:Int}(s:ByteArray)(hx:x≠b):zai x (zbj (·.1) l b (b,s))=zai x l:=
 zku (zur h rfl) h (z5j b (b,s) rfl x hx)
theorem zkv{l:List (Int×ByteArray)}(h:Up (·.1) l){b x:Int}(hx:x≠b):zai x (zax (·.1) l b)=zai x l:=by
 refine zku (zsi h b) h ?_;rw[zsj h,List.filter_filter];refine List.filter_congr fun y _=>?_;by_cases e:y.1=x
 ·simp[e,hx]
 ·simp[e]
theorem zod{l r:List Int}{x y:Int}(h:x∈l↔y∈r):zaw l x=zaw r y:=by
 cases e1:zaw l x with
 |true=>rw[zdv.1 (h.1 (zdv.2 e1))]
 |false=>
  cases e2:zaw r y with
  |false=>rfl
  |true=>rw[zdv.1 (h.2 (zdv.2 e2))]at e1;cases e1
theorem zpq(l:List Int){b x:Int}(hx:x≠b):zaw (zax id l b) x=zaw l x:=zod ⟨fun h=>(zd8.1 h).1,fun h=>zd8.2 ⟨h,hx⟩⟩
theorem zsa(l:List Int){b x:Int}(hx:x≠b):zaw (zbj id l b b) x=zaw l x:=zod ⟨fun h=>by
 rcases zfh.1 h with e|e
 ·exact absurd e hx
 ·exact e.1,fun h=>zfh.2 (.inr ⟨h,hx⟩)⟩
theorem z1f(l:List Int)(b:Int):zaw (zbj id l b b) b=true:=zdv.1 (zfh.2 (.inl rfl))
theorem zpr{t:Tx}(hg:za9 t=true):Up (·.1) t.info∧Up (·.1) t.data:=by
 have A:=(za7 t).1 hg;exact⟨(zfm _ _).1 ((za6 _).1 A.2.2.1.1).2,(zfm _ _).1 ((za6 _).1 A.2.2.1.2.1).2⟩
section
variable {j:Jn} {D:Dk} {a:Ac} {j':Jn} {r:Rp} {D':Dk}
theorem zoe(t:Tx)(h:Int)(x:Hd):(ze6 t h x).info=t.info∧(ze6 t h x).data=t.data∧(ze6 t h x).rev=t.rev∧(ze6 t h x).seq=t.seq:=by
 unfold ze6;split
 ·exact⟨rfl,rfl,rfl,rfl⟩
 split<;>exact⟨rfl,rfl,rfl,rfl⟩
theorem Md.seqs(h:Md j D)(hu:j.down=false):fndL D=j.done.map toldOf∧fndN D=j.last+1∧(j.sealed=zct 0∧j.now.seq=j.last+1∨j.sealed.seq=j.last+1∧j.now.seq=j.last+2∧za9 j.sealed=true):=by
 cases h with
 |idle p hs hz hD ht hq=>exact⟨ht.tL,ht.tN,.inl ⟨hz,hq⟩⟩
 |commit P U k p hw hk hs hD ht he hse hrh hru hq hN=>exact⟨ht.tL,ht.tN,.inr ⟨hse,hq,(zbx he).2.1⟩⟩
 |check k p hw hz hk hs hD ht hq=>exact⟨ht.tL,ht.tN,.inl ⟨hz,hq⟩⟩
 |off l N P U p hs hf hD ht=>rw[p.off]at hu;cases hu
 |back U k p hw hk hs hD ht=>rw[p.off]at hu;cases hu
theorem z6s(h:Md j D)(h':Md j' D')(t:Trans j D a j' r D'):Ev j D a j' r D':=by
 cases t with
 |plain m hp=>
  have refl:∀b:Nat,b<12→SameB j D j D b:=fun b _=>⟨rfl,rfl,rfl,rfl,rfl,rfl,rfl,rfl,rfl,rfl⟩
  cases m with
  |no e he=>exact .calm rfl rfl refl (fun M=>absurd M he) (fun _=>rfl) (fun M=>absurd M he)
  |read hd hk hb ht=>
   refine .calm rfl rfl refl (fun _=>by omega) (fun h8=>by omega) (fun _ _=>⟨a.b.toNat,by omega,by omega,?_,hd⟩);rw[show((a.b.toNat:Nat):Int)=a.b from by omega];exact Prod.ext rfl ht
  |begin hd hk he=>
   obtain⟨X,c,Z,S⟩:=zoe j.now a.h ⟨true,a.n⟩;have e:zav j.now a.h a.n (24 - j.ru)=ze6 j.now a.h ⟨true,a.n⟩:=by rw[zav,if_pos he]
   rw[e];exact .calm rfl rfl (fun b _=>⟨by rw[X],by rw[c],by rw[Z],S,rfl,rfl,rfl,rfl,rfl,rfl⟩) (fun _=>by omega) (fun h8=>by omega) (fun _ h9=>by omega)
  |stop hd hk he=>
   obtain⟨X,c,Z,S⟩:=zoe j.now a.h ⟨false,0⟩;have e:zb5 j.now a.h=ze6 j.now a.h ⟨false,0⟩:=by rw[zb5,if_pos he]
   rw[e];exact .calm rfl rfl (fun b _=>⟨by rw[X],by rw[c],by rw[Z],S,rfl,rfl,rfl,rfl,rfl,rfl⟩) (fun _=>by omega) (fun h8=>by omega) (fun _ h9=>by omega)
  |write hd hk he hr=>
   obtain⟨F,A0,Q,C⟩:=zjh he;obtain⟨K,I,d,z,w⟩:=zcd F;obtain⟨u1,u2⟩:=zpr K;obtain⟨n1,u,n3⟩:=zel j.now a.h a.b;have e:zaf j.now a.h a.b (fitT a.text)=zev j.now a.h a.b (fitT a.text):=by rw[zaf,if_pos he]
   have A:a.b=((a.b.toNat:Nat):Int):=by omega
   have R:zai a.b j.now.data=none:=by
    cases hx:zai a.b j.now.data with
    |none=>rfl
    |some s=>rw[hx]at Q;cases Q
   rw[e];refine .write a.b.toNat (by omega) A hk hd hd rfl ⟨?_,?_,?_,?_,ze1 j.now a.h a.b,rfl,rfl,zli _ _ A,hr,rfl,rfl,rfl⟩ (fun x hx hne=>?_)
   ·rw[←A];exact zvb _ u1 _ _
   ·rw[←A];exact R
   ·rw[←A];show zai a.b (nameT j.now a.h a.b).data=none;rw[u];exact R
   ·rw[←A];exact zw0 _ _
   ·have B:(x:Int)≠a.b:=by omega
    exact⟨zmq u1 _ B,by show zai x (nameT j.now a.h a.b).data=_;rw[u],zpq _ B,ze1 j.now a.h a.b,rfl,rfl,zvk _ _ (by omega),rfl,rfl,rfl⟩
  |fill hd hk he hr hf=>
   obtain⟨F,A0,C⟩:=zti he;obtain⟨K,I,d,z,w⟩:=zcd F;obtain⟨u1,u2⟩:=zpr K;have e:zan j.now a.h a.b (fitT a.text)={j.now with data:=zbj (·.1) j.now.data a.b (a.b,fitT a.text)}:=by rw[zan,if_pos he]
   have A:a.b=((a.b.toNat:Nat):Int):=by omega
   have J:zai a.b j.now.info=none∧zaw j.now.rev a.b=false:=by
    unfold zcq at C;simp only[Bool.or_eq_false_iff]at C;refine⟨?_,C.2⟩
    cases hx:zai a.b j.now.info with
    |none=>rfl
    |some s=>rw[hx]at C;cases C.1
   rw[e];refine .fill a.b.toNat (by omega) A hk hd hd rfl ⟨?_,?_,?_,?_,?_,rfl,rfl,rfl,zli _ _ A,hr,hf,rfl,rfl,rfl⟩ (fun x hx hne=>?_)
   ·rw[←A];exact J.1
   ·rw[←A];exact J.2
   ·rw[←A];exact J.1
   ·rw[←A];exact J.2
   ·rw[←A];exact zvb _ u2 _ _
   ·have B:(x:Int)≠a.b:=by omega
    exact⟨rfl,zmq u2 _ B,rfl,rfl,rfl,rfl,zvk _ _ (by omega),rfl,rfl,rfl⟩
  |revoke hd hk he hr=>
   obtain⟨F,A1,C⟩:=zji he;obtain⟨K,I,d,z,w⟩:=zcd F;obtain⟨u1,u2⟩:=zpr K;have e:zag j.now a.h a.b=zew j.now a.h a.b:=by rw[zag,if_pos he]
   have A:a.b=((a.b.toNat:Nat):Int):=by omega
   have L:(zew j.now a.h a.b).seq=j.now.seq:=ze1 j.now a.h a.b;rw[e];refine .revoke a.b.toNat (by omega) A hk hd hd rfl ⟨?_,?_,?_,L,rfl,rfl,zli _ _ A,hr,(zli _ _ A).trans L,rfl,rfl⟩ (fun x hx hne=>?_)
   ·rw[←A];exact zq9 _ _
   ·rw[←A];exact zq9 _ _
   ·rw[←A];exact z1f _ _
   ·have B:(x:Int)≠a.b:=by omega
    exact⟨zkv u1 B,zkv u2 B,zsa _ B,L,rfl,rfl,zvk _ _ (by omega),zvk _ _ (by omega),rfl,rfl⟩
  |commit hd hk hs d hm y he=>
   have E:j.sealed=zct 0∧j.now.seq=j.last+1:=by
    cases h with
    |idle p hs2 E hD ht hq2=>exact⟨E,hq2⟩
    |commit P U k p hw hk2 hs2 hD ht he2 hse hrh hru hq2 hN=>
     rw[hs]at hs2;have:=congrArg List.length hs2;rw[List.length_drop]at this;simp at this;omega
    |check k p hw E hk2 hs2 hD ht hq2=>exact⟨E,hq2⟩
    |off l N P U p hs2 hf hD ht=>rw[p.off]at hd;cases hd
    |back U k p hw hk2 hs2 hD ht=>rw[p.off]at hd;cases hd
   exact .commit hk hd hd rfl E.2 (fun b=>⟨E.1,rfl,rfl,E.2,rfl,rfl,rfl,rfl,rfl⟩)
  |check hd hk hs hn he=>exact .calm rfl rfl (fun b _=>⟨rfl,rfl,rfl,rfl,rfl,rfl,rfl,rfl,rfl,rfl⟩) (fun _=>by omega) (fun h8=>by omega) (fun _ h9=>by omega)
  |step hk s q hs he hr=>exact .calm rfl rfl (fun b _=>⟨rfl,rfl,rfl,rfl,rfl,rfl,rfl,rfl,rfl,rfl⟩) (fun _=>by omega) (fun _=>rfl) (fun _ h9=>by omega)
  |last hk s hs he=>
   have i:(zbp {j with disk:=zbf j.disk s,steps:=[]}).2.code=0:=by
    rw[zbp];split
    ·rfl
    split
    ·rfl
    split
    ·rfl
    ·rfl
   obtain⟨s2,q,O,h2,_⟩:=(hp i).2 hk;rw[hs]at O
   injection O with _ Y
   exact absurd Y.symm h2
  |crash hk he=>exact absurd hk (hp rfl).1
  |back hk hd hs hE i=>exact .calm rfl rfl (fun b _=>⟨rfl,rfl,rfl,rfl,rfl,rfl,rfl,rfl,rfl,rfl⟩) (fun _=>by omega) (fun h8=>by omega) (fun _ h9=>by omega)
 |through _ hk hu hse K hN hL I=>
  obtain⟨_,_,Y⟩:=h.seqs hu
  have y:j.now.seq=j.last+2:=by
   rcases Y with⟨e,_⟩|⟨_,e,_⟩
   ·have M:=h.last0;rw[e]at hse;have:(0:Int)=j.last+1:=hse;omega
   ·exact e
  exact .through hk hu hu rfl hse (fun b hb=>⟨rfl,rfl,hse,y,rfl,rfl,rfl,hse,I b hb⟩)
 |home _ hk hu E hN hL I=>
  obtain⟨O,_,_⟩:=h.seqs hu;exact .home hk hu hu rfl (fun b hb=>⟨E,E,rfl,rfl,rfl,rfl,rfl,by rw[I b hb,zm4,O,zhc]⟩)
 |on _ hk hd hfN hfL hN hL I=>
  refine .on hk hd rfl rfl ?_ rfl ?_ rfl (fun b=>?_) (fun _=>rfl) rfl I
  ·show j.fN - 1=_;rw[hfN]
  ·show zct j.fN=_;rw[hfN]
  ·show zb4 j.fL.reverse b=_;rw[hfL]
 |crash hk hn _ hX left=>exact .crash hk rfl rfl rfl left
end
theorem z4y{j:Jn}{D:Dk}(h:Md j D)(a:Ac)(h0:0≤j.acts)(h1:j.acts≤400):
  ∃D',Md (doJ j a).1 D'∧0≤(doJ j a).1.acts∧(doJ j a).1.acts≤400∧Ev j D a (doJ j a).1 (doJ j a).2 D':=by
 rcases zvi h a h0 h1 with⟨h4,h5⟩|⟨h4,h5,D',h6,ht⟩
 ·rw[h5];have A:(zat 11).code≠0:=by decide
  exact⟨D,h,h0,h1,.calm rfl rfl (fun b _=>⟨rfl,rfl,rfl,rfl,rfl,rfl,rfl,rfl,rfl,rfl⟩) (fun h0=>absurd h0 A) (fun _=>rfl) (fun h0=>absurd h0 A)⟩
 ·refine⟨D',h6,by omega,by omega,?_⟩;have e:=z6s (h.bump (x:=j.acts+1) (by omega)) h6 ht
  cases e with
  |calm a1 a2 a3 a4 a5 a6=>exact .calm a1 a2 (fun b hb=>⟨(a3 b hb).hi,(a3 b hb).hd,(a3 b hb).hv,(a3 b hb).hq,(a3 b hb).hs,(a3 b hb).hdn,(a3 b hb).hr,(a3 b hb).hf,(a3 b hb).hl,(a3 b hb).hD⟩) a4 a5 a6
  |write b a1 a2 a3 a4 a5 a6 x y=>exact .write b a1 a2 a3 a4 a5 a6 ⟨x.hi,x.hd0,x.hd,x.hv,x.hq,x.hs,x.hdn,x.hr,x.hr0,x.hf,x.hl,x.hD⟩ (fun b hb hn=>⟨(y b hb hn).hi,(y b hb hn).hd,(y b hb hn).hv,(y b hb hn).hq,(y b hb hn).hs,(y b hb hn).hdn,(y b hb hn).hr,(y b hb hn).hf,(y b hb hn).hl,(y b hb hn).hD⟩)
  |fill b a1 a2 a3 a4 a5 a6 x y=>exact .fill b a1 a2 a3 a4 a5 a6 ⟨x.hi0,x.hv0,x.hi,x.hv,x.hd,x.hq,x.hs,x.hdn,x.hr,x.hr0,x.hf0,x.hf,x.hl,x.hD⟩ (fun b hb hn=>⟨(y b hb hn).hi,(y b hb hn).hd,(y b hb hn).hv,(y b hb hn).hq,(y b hb hn).hs,(y b hb hn).hdn,(y b hb hn).hr,(y b hb hn).hf,(y b hb hn).hl,(y b hb hn).hD⟩)
  |revoke b a1 a2 a3 a4 a5 a6 x y=>exact .revoke b a1 a2 a3 a4 a5 a6 ⟨x.hi,x.hd,x.hv,x.hq,x.hs,x.hdn,x.hr,x.hr0,x.hf,x.hl,x.hD⟩ (fun b hb hn=>⟨(y b hb hn).hi,(y b hb hn).hd,(y b hb hn).hv,(y b hb hn).hq,(y b hb hn).hs,(y b hb hn).hdn,(y b hb hn).hr,(y b hb hn).hf,(y b hb hn).hl,(y b hb hn).hD⟩)
  |commit a1 a2 a3 a4 a5 y=>exact .commit a1 a2 a3 a4 a5 (fun b=>⟨(y b).hz,(y b).hs,(y b).hn,(y b).hq,(y b).hdn,(y b).hr,(y b).hf,(y b).hl,(y b).hD⟩)
  |through a1 a2 a3 a4 a5 y=>exact .through a1 a2 a3 a4 a5 (fun b hb=>⟨(y b hb).hs,(y b hb).hn,(y b hb).hse,(y b hb).hq,(y b hb).hdn,(y b hb).hr,(y b hb).hf,(y b hb).hl,(y b hb).hh⟩)
  |home a1 a2 a3 a4 y=>exact .home a1 a2 a3 a4 (fun b hb=>⟨(y b hb).hz,(y b hb).hs,(y b hb).hn,(y b hb).hdn,(y b hb).hr,(y b hb).hf,(y b hb).hl,(y b hb).hh⟩)
  |on a1 a2 a3 a4 a5 a6 a7 a8 a9 a10 a11 a12=>exact .on a1 a2 a3 a4 a5 a6 a7 a8 a9 a10 a11 a12
  |crash a1 a2 a3 a4 left=>
   refine .crash a1 a2 a3 a4 ?_
   cases left with
   |all b1 b2 b3 b4=>exact .all b1 b2 b3 b4
   |without b1 b2 b3 b4 b5=>exact .without b1 b2 b3 b4 b5
   |whole b1 b2 b3 b4 b5=>exact .whole b1 b2 b3 b4 b5
def nmd (t:Tx)(b:Nat):Prop:=zai b t.info=none∧zaw t.rev b=false
theorem zee(q:Int)(b:Nat):nmd (zct q) b:=⟨rfl,rfl⟩
theorem z4z{b:Int}{o:Option ByteArray}{t:Tx}{s:ByteArray}(h:zai b t.info=some s):zcg b o t=some s:=by rw[zcg,h];rfl
theorem z6c{b:Int}{o:Option ByteArray}{t:Tx}(h:zai b t.info=none)(h2:zaw t.rev b=true):zcg b o t=none:=by rw[zcg,h,h2];rfl
theorem zhi{b:Nat}{o:Option ByteArray}{t:Tx}(h:nmd t b):zcg b o t=o:=by rw[zcg,h.1,h.2];rfl
theorem z1g{b:Int}{o:Option ByteArray}{t:Tx}(h:zcg b o t=none):zai b t.info=none∧(zaw t.rev b=true∨o=none):=by
 rw[zcg]at h;split at h
 ·rename_i A;rw[h]at A;cases A
 ·rename_i A;refine⟨?_,?_⟩
  ·cases hx:zai b t.info with
   |none=>rfl
   |some s=>rw[hx]at A;exact absurd rfl A
  ·split at h
   ·rename_i B;exact .inl B
   ·exact .inr h
theorem z3s{b:Int}{o:Option ByteArray}{t u:Tx}(h1:zai b t.info=zai b u.info)(h2:zaw t.rev b=zaw u.rev b):zcg b o t=zcg b o u:=by rw[zcg,zcg,h1,h2]
structure RB (j:Jn)(b:Nat):Prop where
 r1:j.role b≠1→zcg b (zcg b (newestF j.done b) j.sealed) j.now=none
 r2:zai b j.now.data≠none→j.role b=2
 r3:zaw j.now.rev b=true→j.now.seq≤j.freed b
 r3s:zaw j.sealed.rev b=true→j.last<j.freed b
 r4:zai b j.sealed.data≠none→j.role b=2∨j.last<j.freed b
 r5:j.role b=2→nmd j.sealed b∧nmd j.now b∧newestF j.done b=none
section
variable {j:Jn} {D:Dk} {j':Jn} {D':Dk} {b:Nat}
theorem RB.ev(h:RB j b)(hq:j.last<j.now.seq)(e:EvB j D j' D' b):RB j' b:=by
 cases e with
 |keep e=>
  cases e with
  |same e=>
   refine⟨fun h1=>?_,fun h1=>?_,fun h1=>?_,fun h1=>?_,fun h1=>?_,fun h1=>?_⟩
   ·rw[e.hr]at h1;rw[e.hdn,e.hs,z3s e.hi e.hv];exact h.r1 h1
   ·rw[e.hd]at h1;rw[e.hr];exact h.r2 h1
   ·rw[e.hv]at h1;rw[e.hq,e.hf];exact h.r3 h1
   ·rw[e.hs]at h1;rw[e.hl,e.hf];exact h.r3s h1
   ·rw[e.hs]at h1;rw[e.hr,e.hl,e.hf];exact h.r4 h1
   ·rw[e.hr]at h1;obtain⟨C,A,B⟩:=h.r5 h1;rw[e.hs,e.hdn];exact⟨C,⟨e.hi.trans A.1,e.hv.trans A.2⟩,B⟩
  |commit e=>
   refine⟨fun h1=>?_,fun h1=>?_,fun h1=>?_,fun h1=>?_,fun h1=>?_,fun h1=>?_⟩
   ·rw[e.hr]at h1;have:=h.r1 h1;rw[e.hz,zhi (zee 0 b)]at this;rw[e.hn,zhi (zee _ b),e.hdn,e.hs];exact this
   ·rw[e.hn]at h1;exact absurd rfl h1
   ·rw[e.hn]at h1;cases h1
   ·rw[e.hs]at h1;have:=h.r3 h1;rw[e.hl,e.hf];omega
   ·rw[e.hs]at h1;rw[e.hr];exact .inl (h.r2 h1)
   ·rw[e.hr]at h1;obtain⟨C,A,B⟩:=h.r5 h1;rw[e.hs,e.hn,e.hdn];exact⟨A,zee _ b,B⟩
  |through e=>
   refine⟨fun h1=>?_,fun h1=>?_,fun h1=>?_,fun h1=>?_,fun h1=>?_,fun h1=>?_⟩
   ·rw[e.hr]at h1;rw[e.hs,zhi (zee 0 b),e.hdn,zdh,e.hn];exact h.r1 h1
   ·rw[e.hn]at h1;rw[e.hr];exact h.r2 h1
   ·rw[e.hn]at h1⊢;rw[e.hf];exact h.r3 h1
   ·rw[e.hs]at h1;cases h1
   ·rw[e.hs]at h1;exact absurd rfl h1
   ·rw[e.hr]at h1;obtain⟨C,A,B⟩:=h.r5 h1;rw[e.hs,e.hn,e.hdn,zdh,zhi C];exact⟨zee 0 b,A,B⟩
  |home e=>
   refine⟨fun h1=>?_,fun h1=>?_,fun h1=>?_,fun h1=>?_,fun h1=>?_,fun h1=>?_⟩
   ·rw[e.hr]at h1;have q:=(z1g (h.r1 h1)).1;rw[e.hs,zhi (zee 0 b),e.hdn,e.hn];rw[zcg,q];show(if zaw j.now.rev b=true then none else newestF [] b)=none;split<;>rfl
   ·rw[e.hn]at h1;rw[e.hr];exact h.r2 h1
   ·rw[e.hn]at h1⊢;rw[e.hf];exact h.r3 h1
   ·rw[e.hs]at h1;cases h1
   ·rw[e.hs]at h1;exact absurd rfl h1
   ·rw[e.hr]at h1;obtain⟨C,A,B⟩:=h.r5 h1;rw[e.hs,e.hn,e.hdn];exact⟨zee 0 b,A,rfl⟩
 |write s e=>
  refine⟨fun h1=>absurd e.hr h1,fun h1=>absurd e.hd h1,fun h1=>?_,fun h1=>?_,fun h1=>?_,fun h1=>?_⟩
  ·rw[e.hv]at h1;cases h1
  ·rw[e.hs]at h1;rw[e.hl,e.hf];exact h.r3s h1
  ·rw[e.hs]at h1;rw[e.hl,e.hf];exact .inr ((h.r4 h1).resolve_left e.hr0)
  ·rw[e.hr]at h1;omega
 |fill s e=>
  have F:zaw j.sealed.rev b=false:=by
   cases hx:zaw j.sealed.rev b with
   |false=>rfl
   |true=>have:=h.r3s hx;have:=e.hf0;omega
  have I:nmd j.now b:=⟨e.hi0,e.hv0⟩;have q:=h.r1 e.hr0;rw[zhi I]at q;obtain⟨J,q2⟩:=z1g q;have E:nmd j.sealed b:=⟨J,F⟩;rw[zhi E]at q;refine⟨fun _=>?_,fun _=>e.hr,fun h1=>?_,fun h1=>?_,fun _=>.inl e.hr,fun _=>?_⟩
  ·rw[e.hdn,e.hs,zhi (t:=j'.now) ⟨e.hi,e.hv⟩,zhi E];exact q
  ·rw[e.hv]at h1;cases h1
  ·rw[e.hs,F]at h1;cases h1
  ·rw[e.hs,e.hdn];exact⟨E,⟨e.hi,e.hv⟩,q⟩
 |revoke e=>
  refine⟨fun _=>?_,fun h1=>absurd e.hd h1,fun _=>?_,fun h1=>?_,fun h1=>?_,fun h1=>?_⟩
  ·exact z6c e.hi e.hv
  ·rw[e.hq,e.hf];omega
  ·rw[e.hl,e.hf];omega
  ·rw[e.hl,e.hf];right;omega
  ·rw[e.hr]at h1;omega
theorem RB.new{q:Int}(hs:j.sealed=zct 0)(hn:j.now=zct q)(hd:j.done=[])(hr:j.role b≠2):RB j b:=by
 refine⟨fun _=>?_,fun h1=>?_,fun h1=>?_,fun h1=>?_,fun h1=>?_,fun h1=>absurd h1 hr⟩
 ·rw[hs,hn,hd];rfl
 ·rw[hn]at h1;exact absurd rfl h1
 ·rw[hn]at h1;cases h1
 ·rw[hs]at h1;cases h1
 ·rw[hs]at h1;exact absurd rfl h1
def unn (l:List Tx)(b:Nat):Prop:=∀t∈l,nmd t b
theorem unn.newest{l:List Tx}(h:unn l b):newestF l b=none:=by
 have:∀(l:List Tx) (o:Option ByteArray),(∀t∈l,nmd t b)→l.foldl (zcg b) o=o:=by
  intro l
  induction l with
  |nil=>intro o _;rfl
  |cons t l ih=>intro o h;rw[List.foldl_cons,zhi (h t (by simp))];exact ih o fun u hu=>h u (by simp[hu])
 exact this l none h
def At0 (l:List Tx)(D:Dk)(b:Nat)(s:ByteArray):Prop:=newestF l b=some s∨(unn l b∧zam D ((25+b:Nat):Int)=s)
theorem At0.snoc{l:List Tx}{t:Tx}{s:ByteArray}(h:zai b t.info=some s∨(nmd t b∧At0 l D b s)):At0 (l++[t]) D b s:=by
 rcases h with h|⟨h,h2|⟨h2,h3⟩⟩
 ·left;rw[zdh,z4z h]
 ·left;rw[zdh,zhi h];exact h2
 ·refine .inr ⟨fun u hu=>?_,h3⟩;rcases List.mem_append.1 hu with h4|h4
  ·exact h2 u h4
  ·rw[List.mem_singleton.1 h4];exact h
theorem At0.disk{l:List Tx}{s:ByteArray}(h:At0 l D b s)(hr:zam D' ((25+b:Nat):Int)=zam D ((25+b:Nat):Int)):At0 l D' b s:=by
 rcases h with h|⟨h,h2⟩
 ·exact .inl h
 ·exact .inr ⟨h,hr.trans h2⟩
theorem At0.home{l:List Tx}{s:ByteArray}(h:At0 l D b s)(hr:zam D' ((25+b:Nat):Int)=(newestF l b).getD (zam D ((25+b:Nat):Int))):At0 [] D' b s:=by
 refine .inr ⟨(fun t ht=>by cases ht),?_⟩;rcases h with h|⟨h,h2⟩
 ·rw[hr,h];rfl
 ·rw[hr,h.newest];exact h2
def MT (j:Jn)(D:Dk)(b:Nat)(s:ByteArray):Prop:=j.role b=1∧(zai b j.now.info=some s∨(nmd j.now b∧zai b j.sealed.data=none∧(zai b j.sealed.info=some s∨(nmd j.sealed b∧At0 j.done D b s))))
theorem MT.ev{s:ByteArray}(h:MT j D b s)(hR:RB j b)(e:KpB j D j' D' b):MT j' D' b s:=by
 obtain⟨A,h2⟩:=h
 cases e with
 |same e=>
  refine⟨e.hr.trans A,?_⟩;rw[e.hi,e.hs,e.hdn,e.hD];rcases h2 with h2|⟨h2,h3⟩
  ·exact .inl h2
  ·exact .inr ⟨⟨e.hi.trans h2.1,e.hv.trans h2.2⟩,h3⟩
 |commit e=>
  have hd:zai b j.now.data=none:=by
   cases hx:zai b j.now.data with
   |none=>rfl
   |some u=>have:=hR.r2 (by rw[hx];simp);omega
  refine⟨e.hr.trans A,.inr ?_⟩;rw[e.hn,e.hs,e.hdn,e.hD];refine⟨zee _ b,hd,?_⟩;rcases h2 with h2|⟨h2,_,h3⟩
  ·exact .inl h2
  ·rw[e.hz]at h3;rcases h3 with h3|⟨_,h3⟩
   ·cases h3
   ·exact .inr ⟨h2,h3⟩
 |through e=>
  refine⟨e.hr.trans A,?_⟩;rw[e.hn,e.hs,e.hdn];rcases h2 with h2|⟨h2,h3,h4⟩
  ·exact .inl h2
  ·refine .inr ⟨h2,rfl,.inr ⟨zee 0 b,(At0.snoc h4).disk ?_⟩⟩;rw[e.hh,h3];rfl
 |home e=>
  refine⟨e.hr.trans A,?_⟩;rw[e.hn,e.hs,e.hdn];rcases h2 with h2|⟨h2,h3,h4⟩
  ·exact .inl h2
  ·rw[e.hz]at h4;rcases h4 with h4|⟨_,h4⟩
   ·cases h4
   ·exact .inr ⟨h2,rfl,.inr ⟨zee 0 b,h4.home e.hh⟩⟩
theorem MT.write{s:ByteArray}(e:WriteB j D j' D' b s):MT j' D' b s:=⟨e.hr,.inl e.hi⟩
end
theorem z1h(l:List Tx)(b:Int):zb4 l b≠2:=by
 induction l with
 |nil=>exact(by decide:(1:Int)≠2)
 |cons t l ih=>
  rw[zb4];split
  ·decide
  split
  ·decide
  ·exact ih
theorem Md.behind'{j:Jn}{D:Dk}(h:Md j D)(hu:j.down=false):j.last<j.now.seq:=by
 obtain⟨_,_,A⟩:=h.seqs hu;rcases A with⟨_,A⟩|⟨_,A,_⟩<;>omega
def ac0:Ac:=⟨0,0,0,0,⟨#[]⟩⟩
def ActAt (w:World)(b o:Nat)(x:Ac):Prop:=
 w.cell? ⟨b,o,none⟩=some (.int .i64 x.kind)∧w.cell? ⟨b,o+1,none⟩=some (.int .i64 x.h)∧w.cell? ⟨b,o+2,none⟩=some (.int .i64 x.b)∧w.cell? ⟨b,o+3,none⟩=some (.int .i64 x.n)∧w.cell? ⟨b,o+4,none⟩=some (.string x.text)
def SegA (w:World)(a:Option Addr)(l:List Ac):Prop:=l=[]∨∃b off,a=some ⟨b,off,none⟩∧b<w.heap.size∧∀i,i<l.length→ActAt w b (off+i*5) (l.getD i ac0)
theorem ActAt.ext{w w':World}{b o:Nat}{x:Ac}(h:ActAt w b o x)(e:Ext w w'):ActAt w' b o x:=⟨e.cell _ _ _ h.1,e.cell _ _ _ h.2.1,e.cell _ _ _ h.2.2.1,e.cell _ _ _ h.2.2.2.1,e.cell _ _ _ h.2.2.2.2⟩
theorem SegA.ext{w w':World}{a:Option Addr}{l:List Ac}(h:SegA w a l)(e:Ext w w'):SegA w' a l:=by
 rcases h with h|⟨b,off,rfl,hlt,hc⟩
 ·exact .inl h
 ·exact .inr ⟨b,off,rfl,Nat.lt_of_lt_of_le hlt e.size,fun i hi=>(hc i hi).ext e⟩
structure OkA (x:Ac):Prop where
 n:x.n≤9223372036854775807
 text:x.text.size≤maxLen
def jOf (l:List Ac)(k:Nat):Jn:=(l.take k).foldl (fun j a=>(doJ j a).1) zya
def rOf (l:List Ac)(k:Nat):Rp:=(doJ (jOf l k) (l.getD k ac0)).2
theorem zps(l:List Ac):jOf l 0=zya:=by rw[jOf,List.take_zero];rfl
theorem zlj{l:List Ac}{k:Nat}(h:k<l.length):jOf l (k+1)=(doJ (jOf l k) (l.getD k ac0)).1:=by
 rw[jOf,List.take_add_one,List.getElem?_eq_getElem h,List.foldl_append,List.getD,List.getElem?_eq_getElem h];rfl
theorem zmr(l:List Ac)(k:Nat):PJ (jOf l k):=by
 unfold jOf;generalize l.take k=q
 have:∀(q:List Ac) (j:Jn),PJ j→PJ (q.foldl (fun j a=>(doJ j a).1) j):=by
  intro q
  induction q with
  |nil=>intro j h;exact h
  |cons a q ih=>intro j h;exact ih _ (h.do a)
 exact this q _ PJ.new
def played (l:List Ac):Nat:=min l.length 150
structure Bk where
 now:Int→Option ByteArray
 states:Int→Option (Int→Option ByteArray)
 sealed:Int
 told:Int
 down:Bool
def atK {α:Type}(f:Int→Option α)(x:Int)(v:α):Int→Option α:=fun z=>if z=x then some v else f z
def z1v {α:Type}(f:Int→Option α)(x:Int):Int→Option α:=fun z=>if z=x then none else f z
theorem zpt{α:Type}(f:Int→Option α){x y:Int}(v:α)(h:y=x):atK f x v y=some v:=by rw[atK,if_pos h]
theorem zvl{α:Type}(f:Int→Option α){x y:Int}(v:α)(h:y≠x):atK f x v y=f y:=by rw[atK,if_neg h]
theorem z1i{α:Type}(f:Int→Option α){x y:Int}(h:y=x):z1v f x y=none:=by rw[z1v,if_pos h]
theorem z40{α:Type}(f:Int→Option α){x y:Int}(h:y≠x):z1v f x y=f y:=by rw[z1v,if_neg h]
def zhj (k:Bk)(a:Ac)(r:Rp)(last:Int)(down:Bool):Bk:=
 if r.code=0 then
  if a.kind=2 then{k with now:=atK k.now a.b (fitT a.text),down:=down}
  else if a.kind=4 then{k with now:=z1v k.now a.b,down:=down}
  else if a.kind=6 then{k with states:=atK k.states r.n k.now,sealed:=r.n,down:=down}
  else if a.kind=8 then
   if k.down=true∧down=false then{k with now:=(k.states last).getD fun _=>none,sealed:=last,told:=last,down:=down}
   else if 0<r.n then{k with told:=r.n,down:=down}
   else{k with down:=down}
  else{k with down:=down}
 else{k with down:=down}
def S0 (j:Jn)(D:Dk)(b:Nat)(s:ByteArray):Prop:=zai b j.now.data=none∧zai b j.sealed.data=none∧(j.role b≠1→j.last<j.freed b)∧At0 j.done D b s
def S1 (j:Jn)(D:Dk)(b:Nat)(s:ByteArray):Prop:=zai b j.now.data=none∧zai b j.sealed.data=none∧(j.role b≠1→j.last+1<j.freed b)∧(zai b j.sealed.info=some s∨(nmd j.sealed b∧At0 j.done D b s))
section
variable {j:Jn} {D:Dk} {j':Jn} {D':Dk} {b:Nat} {s:ByteArray}
theorem S0.same(h:S0 j D b s)(e:SameB j D j' D' b):S0 j' D' b s:=by
 obtain⟨E,B,C,A⟩:=h;exact⟨e.hd.trans E,by rw[e.hs];exact B,by rw[e.hr,e.hl,e.hf];exact C,by rw[e.hdn,e.hD];exact A⟩
theorem S0.write{u:ByteArray}(h:S0 j D b s)(e:WriteB j D j' D' b u):S0 j' D' b s:=by
 obtain⟨h1,B,h3,A⟩:=h;exact⟨e.hd,by rw[e.hs];exact B,fun hr=>absurd e.hr hr,by rw[e.hdn,e.hD];exact A⟩
theorem S0.fill{u:ByteArray}(h:S0 j D b s)(e:FillB j D j' D' b u):False:=by
 have:=h.2.2.1 e.hr0;have:=e.hf0;omega
theorem S0.revoke(h:S0 j D b s)(e:RevokeB j D j' D' b)(hq:j.last<j.now.seq):S0 j' D' b s:=by
 obtain⟨h1,B,h3,A⟩:=h;exact⟨e.hd,by rw[e.hs];exact B,fun _=>by rw[e.hl,e.hf];exact hq,by rw[e.hdn,e.hD];exact A⟩
theorem S0.commit(h:S0 j D b s)(e:CommitB j D j' D' b):S0 j' D' b s:=by
 obtain⟨C,h2,B,A⟩:=h;exact⟨by rw[e.hn];rfl,by rw[e.hs];exact C,by rw[e.hr,e.hl,e.hf];exact B,by rw[e.hdn,e.hD];exact A⟩
theorem S0.home(h:S0 j D b s)(e:HomeB j D j' D' b):S0 j' D' b s:=by
 obtain⟨C,h2,B,A⟩:=h;exact⟨by rw[e.hn];exact C,by rw[e.hs];rfl,by rw[e.hr,e.hl,e.hf];exact B,by rw[e.hdn];exact A.home e.hh⟩
theorem S1.same(h:S1 j D b s)(e:SameB j D j' D' b):S1 j' D' b s:=by
 obtain⟨E,B,C,A⟩:=h;exact⟨e.hd.trans E,by rw[e.hs];exact B,by rw[e.hr,e.hl,e.hf];exact C,by rw[e.hs,e.hdn,e.hD];exact A⟩
theorem S1.write{u:ByteArray}(h:S1 j D b s)(e:WriteB j D j' D' b u):S1 j' D' b s:=by
 obtain⟨h1,B,h3,A⟩:=h;exact⟨e.hd,by rw[e.hs];exact B,fun hr=>absurd e.hr hr,by rw[e.hs,e.hdn,e.hD];exact A⟩
theorem S1.fill{u:ByteArray}(h:S1 j D b s)(e:FillB j D j' D' b u):False:=by
 have:=h.2.2.1 e.hr0;have:=e.hf0;omega
theorem S1.revoke(h:S1 j D b s)(e:RevokeB j D j' D' b)(hq:j.last+1<j.now.seq):S1 j' D' b s:=by
 obtain⟨h1,B,h3,A⟩:=h;exact⟨e.hd,by rw[e.hs];exact B,fun _=>by rw[e.hl,e.hf];exact hq,by rw[e.hs,e.hdn,e.hD];exact A⟩
theorem S1.through(h:S1 j D b s)(e:ThroughB j D j' D' b):S0 j' D' b s:=by
 obtain⟨E,B,C,A⟩:=h;refine⟨by rw[e.hn];exact E,by rw[e.hs];rfl,by rw[e.hr,e.hl,e.hf];exact C,?_⟩;rw[e.hdn];refine(At0.snoc A).disk ?_;rw[e.hh,B];rfl
theorem MT.seal(h:MT j D b s)(hR:RB j b)(e:CommitB j D j' D' b):S1 j' D' b s:=by
 obtain⟨A,h2⟩:=h
 have hd:zai b j.now.data=none:=by
  cases hx:zai b j.now.data with
  |none=>rfl
  |some u=>have:=hR.r2 (by rw[hx];simp);omega
 refine⟨by rw[e.hn];rfl,by rw[e.hs];exact hd,fun hr=>absurd (e.hr.trans A) hr,?_⟩;rw[e.hs,e.hdn,e.hD];rcases h2 with h2|⟨h2,_,h3⟩
 ·exact .inl h2
 ·rw[e.hz]at h3;rcases h3 with h3|⟨_,h3⟩
  ·cases h3
  ·exact .inr ⟨h2,h3⟩
theorem zms(l:List Tx)(t:Tx):zb4 (l++[t]).reverse b=if zaw t.rev b=true then 0 else if(zai b t.info).isSome=true then 1 else zb4 l.reverse b:=by
 rw[List.reverse_append];rfl
theorem zuk:∀(n:Nat) (l:List Tx),l.length=n→(∀t∈l,za9 t=true)→(newestF l b).isSome=true→zb4 l.reverse b=1:=by
 intro n
 induction n with
 |zero=>intro l A _ h;rw[List.eq_nil_of_length_eq_zero A]at h;cases h
 |succ n ih=>
  intro I A C h;obtain⟨l,t,E⟩:=(List.eq_nil_or_concat I).resolve_left (fun e=>by rw[e]at A;cases A);rw[List.concat_eq_append]at E;subst E;have D:l.length=n:=by simpa using A
  rw[zdh]at h;rw[zms]
  cases hx:zai b t.info with
  |some s=>
   have B:zaw t.rev b=false:=by
    cases hy:zaw t.rev b with
    |false=>rfl
    |true=>
     have F:=C t (by simp);exact absurd (zdv.2 hy) ((zd7 F).1 b (List.mem_map.2 ⟨_,zz7 hx,rfl⟩)).2
   rw[B];simp
  |none=>
   rw[zcg,hx]at h;simp only[Option.isSome_none,Bool.false_eq_true,if_false]at h⊢;split at h
   ·cases h
   ·rename_i B;rw[if_neg B];exact ih l D (fun u hu=>C u (by simp[hu])) h
theorem z3t:∀(n:Nat) (l:List Tx),l.length=n→unn l b→zb4 l.reverse b=1:=by
 intro n
 induction n with
 |zero=>intro l A _;rw[List.eq_nil_of_length_eq_zero A];rfl
 |succ n ih=>
  intro E A h;obtain⟨l,t,B⟩:=(List.eq_nil_or_concat E).resolve_left (fun e=>by rw[e]at A;cases A);rw[List.concat_eq_append]at B;subst B;obtain⟨D,C⟩:=h t (by simp);rw[zms,D,C];simp only[Bool.false_eq_true,if_false,Option.isSome_none];exact ih l (by simpa using A) fun u hu=>h u (by simp[hu])
theorem At0.role{l:List Tx}(h:At0 l D b s)(hg:∀t∈l,za9 t=true):zb4 l.reverse b=1:=by
 rcases h with h|⟨h,_⟩
 ·exact zuk _ l rfl hg (by rw[h];rfl)
 ·exact z3t _ l rfl h
theorem At0.told{l:List Tx}(h:At0 l D b s):At0 (l.map toldOf) D b s:=by
 rcases h with h|⟨h,h2⟩
 ·left;rw[zhc];exact h
 ·refine .inr ⟨fun u hu=>?_,h2⟩;obtain⟨t,A,rfl⟩:=List.mem_map.1 hu;exact h t A
theorem At0.eff{X:Dk}(h:At0 (fndL X) X b s):zm4 X b=s:=by
 rw[zm4];rcases h with h|⟨h,h2⟩
 ·rw[h];rfl
 ·rw[h.newest];exact h2
end
structure BkI (j:Jn)(D:Dk)(k:Bk):Prop where
 md:Md j D
 a0:0≤j.acts
 a1:j.acts≤400
 dn:k.down=j.down
 told:k.told=j.last
 up:j.down=false→(∃s0,k.states j.last=some s0∧∀b:Nat,b<12→∀s,s0 b=some s→S0 j D b s)∧(j.sealed=zct 0→k.sealed=j.last)∧
  (j.sealed.seq=j.last+1→k.sealed=j.last+1∧∃s1,k.states (j.last+1)=some s1∧∀b:Nat,b<12→∀s,s1 b=some s→S1 j D b s)∧∀b:Nat,b<12→RB j b∧∀s,k.now b=some s→MT j D b s
 off:j.down=true→j.last≤fndN D - 1∧fndN D - 1≤k.sealed∧∃st,k.states (fndN D - 1)=some st∧∀b:Nat,b<12→∀s,st b=some s→zm4 D b=s∧zb4 (fndL D).reverse b=1
def z6t (k:Bk)(a:Ac)(r:Rp)(j':Jn):Prop:=r.code=0→a.kind=8→k.down=true→j'.down=false→r.n=0∧∃st,k.states j'.last=some st∧k.told≤j'.last∧j'.last≤k.sealed∧∀b:Nat,b<12→∀s,st b=some s→zam j'.disk ((25+b:Nat):Int)=s
theorem Tells.lgood{D:Dk}{l:List Tx}{N P U:Int}(h:Tells D l N P U):∀t∈fndL D,za9 t=true:=by rw[h.tL];exact h.goods
theorem Md.lgood{j:Jn}{D:Dk}(h:Md j D):∀t∈fndL D,za9 t=true:=by
 cases h with
 |idle p hs hz hD ht hq=>exact ht.lgood
 |commit P U k p hw hk hs hD ht he hse hrh hru hq hN=>exact ht.lgood
 |check k p hw hz hk hs hD ht hq=>exact ht.lgood
 |off l N P U p hs hf hD ht=>exact ht.lgood
 |back U k p hw hk hs hD ht=>exact ht.lgood
theorem z6d{x:Int}(h:0≤x){t:Tx}(e:t=zct 0):t.seq≠x+1:=by
 rw[e];show(0:Int)≠x+1;omega
theorem BkI.do{j:Jn}{D:Dk}{k:Bk}(h:BkI j D k)(a:Ac):
  (∃D',BkI (doJ j a).1 D' (zhj k a (doJ j a).2 (doJ j a).1.last (doJ j a).1.down))∧z6t k a (doJ j a).2 (doJ j a).1:=by
 obtain⟨D',O,X,U,e⟩:=z4y h.md a h.a0 h.a1;have p:=h.md.last0;generalize (doJ j a).1=j' at *;generalize (doJ j a).2=r at *;have I:j.down=false→z6t k a r j':=fun C _ _ hk=>by rw[h.dn,C]at hk;cases hk
 have K:=fun C=>h.md.behind' C
 cases e with
 |calm hd hD all hk h8 h9=>
  have B:zhj k a r j'.last j'.down=k:=by
   have z:({k with down:=j'.down}:Bk)=k:=by rw[hd,←h.dn]
   unfold zhj;split
   ·rename_i h0;obtain⟨k2,k3,k4,k6,_⟩:=hk h0;rw[if_neg k2,if_neg k4,if_neg k6];split
    ·rename_i y;rw[if_neg (by rintro⟨Y,c⟩;rw[h.dn]at Y;rw[hd,Y]at c;cases c),if_neg (by rw[h8 y];omega)];exact z
    ·exact z
   ·exact z
  refine⟨⟨D',?_⟩,fun _ y Y c=>by rw[h.dn]at Y;rw[hd,Y]at c;cases c⟩;rw[B];have S:=all 0 (by omega);refine⟨O,X,U,h.dn.trans hd.symm,h.told.trans S.hl.symm,fun hu'=>?_,fun hd'=>?_⟩
  ·have C:=hd.symm.trans hu';obtain⟨⟨E,u1,u2⟩,u3,u4,u5⟩:=h.up C;rw[S.hl,S.hs];refine⟨⟨E,u1,fun b hb s B=>(u2 b hb s B).same (all b hb)⟩,u3,fun hq=>?_,fun b hb=>⟨(u5 b hb).1.ev (K C) (.keep (.same (all b hb))),fun s B=>((u5 b hb).2 s B).ev (u5 b hb).1 (.same (all b hb))⟩⟩;obtain⟨N,M,L,F⟩:=u4 hq;exact⟨N,M,L,fun b hb s B=>(F b hb s B).same (all b hb)⟩
  ·have:=h.off (hd.symm.trans hd');rw[S.hl,hD];exact this
 |write b hb hab hk C hu' hc here others=>
  refine⟨⟨D',?_⟩,I C⟩;have B:zhj k a r j'.last j'.down={k with now:=atK k.now a.b (fitT a.text),down:=j'.down}:=by rw[zhj,if_pos (by rw[hc];rfl),if_pos hk]
  rw[B];obtain⟨⟨E,u1,u2⟩,u3,u4,u5⟩:=h.up C;refine⟨O,X,U,rfl,h.told.trans here.hl.symm,fun _=>?_,fun hd=>by rw[hu']at hd;cases hd⟩;rw[here.hl,here.hs]
  have all:∀x:Nat,x<12→x=b∨SameB j D j' D' x:=fun x hx=>by
   by_cases e:x=b
   ·exact .inl e
   ·exact .inr (others x hx e)
  refine⟨⟨E,u1,fun x hx s B=>?_⟩,u3,fun hq=>?_,fun x hx=>⟨?_,fun s B=>?_⟩⟩
  ·rcases all x hx with rfl|e
   ·exact(u2 x hx s B).write here
   ·exact(u2 x hx s B).same e
  ·obtain⟨N,M,L,F⟩:=u4 hq;refine⟨N,M,L,fun x hx s B=>?_⟩;rcases all x hx with rfl|e
   ·exact(F x hx s B).write here
   ·exact(F x hx s B).same e
  ·rcases all x hx with rfl|e
   ·exact(u5 x hx).1.ev (K C) (.write _ here)
   ·exact(u5 x hx).1.ev (K C) (.keep (.same e))
  ·have B:atK k.now a.b (fitT a.text) x=some s:=B;by_cases e:x=b
   ·subst e;rw[zpt _ _ hab.symm]at B;cases B;exact MT.write here
   ·rw[zvl _ _ (by omega)]at B;exact((u5 x hx).2 s B).ev (u5 x hx).1 (.same (others x hx e))
 |fill b hb hab hk C hu' hc here others=>
  refine⟨⟨D',?_⟩,I C⟩;have B:zhj k a r j'.last j'.down={k with down:=j'.down}:=by rw[zhj,if_pos (by rw[hc];rfl),if_neg (by omega),if_neg (by omega),if_neg (by omega),if_neg (by omega)]
  rw[B];obtain⟨⟨E,u1,u2⟩,u3,u4,u5⟩:=h.up C;refine⟨O,X,U,rfl,h.told.trans here.hl.symm,fun _=>?_,fun hd=>by rw[hu']at hd;cases hd⟩;rw[here.hl,here.hs]
  have all:∀x:Nat,x<12→x=b∨SameB j D j' D' x:=fun x hx=>by
   by_cases e:x=b
   ·exact .inl e
   ·exact .inr (others x hx e)
  refine⟨⟨E,u1,fun x hx s B=>?_⟩,u3,fun hq=>?_,fun x hx=>⟨?_,fun s B=>?_⟩⟩
  ·rcases all x hx with rfl|e
   ·exact((u2 x hx s B).fill here).elim
   ·exact(u2 x hx s B).same e
  ·obtain⟨N,M,L,F⟩:=u4 hq;refine⟨N,M,L,fun x hx s B=>?_⟩;rcases all x hx with rfl|e
   ·exact((F x hx s B).fill here).elim
   ·exact(F x hx s B).same e
  ·rcases all x hx with rfl|e
   ·exact(u5 x hx).1.ev (K C) (.fill _ here)
   ·exact(u5 x hx).1.ev (K C) (.keep (.same e))
  ·rcases all x hx with rfl|e
   ·exact absurd ((u5 x hx).2 s B).1 here.hr0
   ·exact((u5 x hx).2 s B).ev (u5 x hx).1 (.same e)
 |revoke b hb hab hk C hu' hc here others=>
  refine⟨⟨D',?_⟩,I C⟩;have B:zhj k a r j'.last j'.down={k with now:=z1v k.now a.b,down:=j'.down}:=by rw[zhj,if_pos (by rw[hc];rfl),if_neg (by omega),if_pos hk]
  rw[B];obtain⟨⟨E,u1,u2⟩,u3,u4,u5⟩:=h.up C;obtain⟨_,_,A0⟩:=h.md.seqs C;refine⟨O,X,U,rfl,h.told.trans here.hl.symm,fun _=>?_,fun hd=>by rw[hu']at hd;cases hd⟩;rw[here.hl,here.hs]
  have all:∀x:Nat,x<12→x=b∨SameB j D j' D' x:=fun x hx=>by
   by_cases e:x=b
   ·exact .inl e
   ·exact .inr (others x hx e)
  refine⟨⟨E,u1,fun x hx s B=>?_⟩,u3,fun hq=>?_,fun x hx=>⟨?_,fun s B=>?_⟩⟩
  ·rcases all x hx with rfl|e
   ·exact(u2 x hx s B).revoke here (K C)
   ·exact(u2 x hx s B).same e
  ·obtain⟨N,M,L,F⟩:=u4 hq;refine⟨N,M,L,fun x hx s B=>?_⟩;rcases all x hx with rfl|e
   ·refine(F x hx s B).revoke here ?_;rcases A0 with⟨hz,_⟩|⟨_,hq2,_⟩
    ·exact absurd hq (z6d p hz)
    ·omega
   ·exact(F x hx s B).same e
  ·rcases all x hx with rfl|e
   ·exact(u5 x hx).1.ev (K C) (.revoke here)
   ·exact(u5 x hx).1.ev (K C) (.keep (.same e))
  ·have B:z1v k.now a.b x=some s:=B;by_cases e:x=b
   ·subst e;rw[z1i _ hab.symm]at B;cases B
   ·rw[z40 _ (by omega)]at B;exact((u5 x hx).2 s B).ev (u5 x hx).1 (.same (others x hx e))
 |commit hk C hu' hc hn all=>
  refine⟨⟨D',?_⟩,I C⟩;have B:zhj k a r j'.last j'.down={k with states:=atK k.states r.n k.now,sealed:=r.n,down:=j'.down}:=by rw[zhj,if_pos hc,if_neg (by omega),if_neg (by omega),if_pos hk]
  rw[B,hn];obtain⟨⟨E,u1,u2⟩,u3,u4,u5⟩:=h.up C;have A:=all 0;refine⟨O,X,U,rfl,h.told.trans A.hl.symm,fun _=>?_,fun hd=>by rw[hu']at hd;cases hd⟩;rw[A.hl,A.hs];refine⟨⟨E,?_,fun x hx s B=>(u2 x hx s B).commit (all x)⟩,fun hz=>?_,fun _=>⟨rfl,k.now,zpt _ _ rfl,fun x hx s B=>((u5 x hx).2 s B).seal (u5 x hx).1 (all x)⟩,fun x hx=>⟨(u5 x hx).1.ev (K C) (.keep (.commit (all x))),fun s B=>((u5 x hx).2 s B).ev (u5 x hx).1 (.commit (all x))⟩⟩
  ·show atK k.states (j.last+1) k.now j.last=some E;rw[zvl _ _ (by omega)];exact u1
  ·have:=A.hq;rw[hz]at this;have:(0:Int)=j.last+1:=this;omega
 |through hk C hu' hc hn all=>
  refine⟨⟨D',?_⟩,I C⟩
  have B:zhj k a r j'.last j'.down={k with told:=r.n,down:=j'.down}:=by
   rw[zhj,if_pos hc,if_neg (by omega),if_neg (by omega),if_neg (by omega),if_pos hk,if_neg (by rintro⟨x,_⟩;rw[h.dn,C]at x;cases x),if_pos (by omega)]
  rw[B,hn];obtain⟨_,u3,u4,u5⟩:=h.up C;have A:=all 0 (by omega);obtain⟨N,M,L,F⟩:=u4 A.hse;refine⟨O,X,U,rfl,A.hl.symm,fun _=>?_,fun hd=>by rw[hu']at hd;cases hd⟩;rw[A.hl,A.hs];exact⟨⟨M,L,fun x hx s B=>(F x hx s B).through (all x hx)⟩,fun _=>N,fun hq=>absurd hq (z6d (by omega) rfl),fun x hx=>⟨(u5 x hx).1.ev (K C) (.keep (.through (all x hx))),fun s B=>((u5 x hx).2 s B).ev (u5 x hx).1 (.through (all x hx))⟩⟩
 |home hk C hu' hc all=>
  refine⟨⟨D',?_⟩,I C⟩
  have B:zhj k a r j'.last j'.down={k with down:=j'.down}:=by
   rw[zhj,if_pos (by rw[hc];rfl),if_neg (by omega),if_neg (by omega),if_neg (by omega),if_pos hk,if_neg (by rintro⟨x,_⟩;rw[h.dn,C]at x;cases x),if_neg (by rw[hc];exact(by decide:¬(0:Int)<0))]
  rw[B];obtain⟨⟨E,u1,u2⟩,u3,u4,u5⟩:=h.up C;have A:=all 0 (by omega);refine⟨O,X,U,rfl,h.told.trans A.hl.symm,fun _=>?_,fun hd=>by rw[hu']at hd;cases hd⟩;rw[A.hl,A.hs];exact⟨⟨E,u1,fun x hx s B=>(u2 x hx s B).home (all x hx)⟩,fun _=>u3 A.hz,fun hq=>absurd hq (z6d p rfl),fun x hx=>⟨(u5 x hx).1.ev (K C) (.keep (.home (all x hx))),fun s B=>((u5 x hx).2 s B).ev (u5 x hx).1 (.home (all x hx))⟩⟩
 |on hk hd hu' hc hl B hn hdn hr hf hdk hh=>
  obtain⟨o1,o2,Z,m,q⟩:=h.off hd
  have R:zhj k a r j'.last j'.down={k with now:=Z,sealed:=j'.last,told:=j'.last,down:=j'.down}:=by
   rw[zhj,if_pos (by rw[hc];rfl),if_neg (by omega),if_neg (by omega),if_neg (by omega),if_pos hk,if_pos ⟨by rw[h.dn];exact hd,hu'⟩,hl,m];rfl
  have J:∀b:Nat,b<12→∀s,Z b=some s→At0 j'.done D' b s:=fun b hb s hs2=>by
   rw[hdn];exact .inr ⟨(fun t ht=>by cases ht),(hh b hb).trans (q b hb s hs2).1⟩
  have w:∀b:Nat,b<12→∀s,Z b=some s→j'.role b=1:=fun b hb s hs2=>(hr b).trans (q b hb s hs2).2;refine⟨⟨D',?_⟩,fun _ _ _ _=>⟨by rw[hc];rfl,Z,by rw[hl];exact m,by rw[h.told,hl];exact o1,by rw[hl];exact o2,fun b hb s hs2=>by rw[hdk,hh b hb];exact(q b hb s hs2).1⟩⟩;rw[R];refine⟨O,X,U,rfl,rfl,fun _=>⟨⟨Z,by show k.states j'.last=_;rw[hl];exact m,fun b hb s hs2=>⟨by rw[hn];rfl,by rw[B];rfl,fun hx=>absurd (w b hb s hs2) hx,J b hb s hs2⟩⟩,fun _=>rfl,fun hq=>absurd hq (z6d (by have:=O.last0;omega) B),fun b hb=>⟨RB.new B hn hdn (by rw[hr b];exact z1h _ _),fun s hs2=>⟨w b hb s hs2,.inr ⟨by rw[hn];exact zee _ b,by rw[B];rfl,.inr ⟨by rw[B];exact zee _ b,J b hb s hs2⟩⟩⟩⟩⟩,fun hd2=>by rw[hu']at hd2;cases hd2⟩
 |crash hk hu' hc hl left=>
  have B:zhj k a r j'.last j'.down={k with down:=j'.down}:=by rw[zhj,if_pos (by rw[hc];rfl),if_neg (by omega),if_neg (by omega),if_neg (by omega),if_neg (by omega)]
  refine⟨⟨D',?_⟩,fun _ h8=>by omega⟩;rw[B];refine⟨O,X,U,rfl,h.told.trans hl.symm,(fun hu2=>by rw[hu']at hu2;cases hu2),fun _=>?_⟩;rw[hl];have gd:=h.md.lgood
  cases left with
  |all cN cL ce cc=>
   have d:∀b:Nat,zb4 (fndL D).reverse b=1→zb4 (fndL D').reverse b=1:=fun b hb=>by
    rcases cL with e|e
    ·rw[e];exact hb
    ·rw[e];rfl
   by_cases C:j.down=false
   ·obtain⟨⟨E,u1,u2⟩,u3,u4,u5⟩:=h.up C;obtain⟨l,i,_⟩:=h.md.seqs C;have:=u3 (cc C);refine⟨by omega,by show fndN D' - 1≤k.sealed;omega,E,by rw[cN,i];rw[show j.last+1 - 1=j.last by omega];exact u1,fun b hb s hs2=>?_⟩;have J:=(u2 b hb s hs2).2.2.2.told;rw[←l]at J;exact⟨(ce b hb).trans J.eff,d b (J.role gd)⟩
   ·have hd:j.down=true:=by simpa using C
    obtain⟨o1,o2,Z,m,q⟩:=h.off hd;refine⟨by omega,by show fndN D' - 1≤k.sealed;omega,Z,by rw[cN];exact m,fun b hb s hs2=>?_⟩;obtain⟨Y,c⟩:=q b hb s hs2;exact⟨(ce b hb).trans Y,d b c⟩
  |without C R cN cL chh=>
   obtain⟨⟨E,u1,u2⟩,u3,u4,u5⟩:=h.up C;obtain⟨l,i,_⟩:=h.md.seqs C;obtain⟨N,_⟩:=u4 R;refine⟨by omega,by show fndN D' - 1≤k.sealed;omega,E,by rw[cN,i];rw[show j.last+1 - 1=j.last by omega];exact u1,fun b hb s hs2=>?_⟩;obtain⟨_,w2,_,w4⟩:=u2 b hb s hs2;have J:=w4.told;rw[←l]at J
   have u:zam D' ((25+b:Nat):Int)=zam D ((25+b:Nat):Int):=by
    rcases chh b hb with e|e
    ·exact e
    ·rw[w2]at e;cases e
   have Q:=J.disk u;rw[←cL]at Q;exact⟨Q.eff,by rw[cL];exact J.role gd⟩
  |whole C R cN cL chh=>
   obtain⟨_,u3,u4,u5⟩:=h.up C;obtain⟨l,i,q3⟩:=h.md.seqs C;obtain⟨N,M,L,F⟩:=u4 R
   have A2:za9 j.sealed=true:=by
    rcases q3 with⟨hz,_⟩|⟨_,_,hg⟩
    ·exact absurd R (z6d p hz)
    ·exact hg
   refine⟨by omega,by show fndN D' - 1≤k.sealed;omega,M,by rw[cN,i];rw[show j.last+1+1 - 1=j.last+1 by omega];exact L,fun b hb s hs2=>?_⟩;obtain⟨_,w2,_,w4⟩:=F b hb s hs2;have J:=(At0.snoc w4).told;rw[List.map_append,←l]at J;have u:zam D' ((25+b:Nat):Int)=zam D ((25+b:Nat):Int):=by rw[chh b hb,w2];rfl
   have Q:=J.disk u;have A1:fndL D'=fndL D++[j.sealed].map toldOf:=cL;rw[←A1]at Q;refine⟨Q.eff,Q.role ?_⟩;exact O.lgood
open Go.Proofs.Tryz
def z6g (B:Nat)(b:Nat)(off:Nat)(k:Nat)(x:Ac)(r:Rp)(look:Value)(c:Nat)(l:List Ac):Nat→Value→World→Prop
 |0,v,_=>v=look
 |1,v,_=>v=.pointer (some ⟨B,0,none⟩)
 |2,v,_=>v=.slice (some ⟨b,off,none⟩) l.length c
 |3,v,_=>v=.int .i64 k
 |4,v,_=>v=.pointer (some ⟨b,off+k*5,none⟩)
 |5,v,_=>v=.agg #[.int .i64 x.kind,.int .i64 x.h,.int .i64 x.b,.int .i64 x.n,.string x.text]
 |6,v,_=>v=.agg #[.int .i64 r.code,.int .i64 r.n,.string r.text]
 |_,_,_=>True
theorem z1o(look:Value)(g:Nat)(lk:Value→Value→Value→Array Value)
  (hent:∀(o:Oper) (ρ:Operand→Value) (w:World) (x y z:Value) (ts:Array TypeId),o.op=Op.call {callee:=.value (.tmp 28),args:=#[.tmp 29,.tmp 33,.tmp 34],argTypes:=ts}→ρ (.tmp 28)=look→ρ (.tmp 29)=x→ρ (.tmp 33)=y→ρ (.tmp 34)=z→(execOp ρ o).run prog w=.ok (.enter g (lk x y z)) w)
  (a:Option Addr) (c:Nat) (l:List Ac) (w:World) (LX:List Nat) (hA:SegA (zas w LX) a l) (hlen:l.length≤maxLen) (hok:∀x∈l,OkA x) (hLX:∀x∈LX,x<w.heap.size)
  (S:Nat→Nat→World→Prop) (hS0:∀W B,w.heap.size≤B→Below w.heap.size w W→JAt W B (B::LX) zya→S B 0 W) (hSb:∀k W W' B,S B k W→w.heap.size≤B→w.heap.size≤W.heap.size→ButL [B] W.heap.size W W'→S B k W')
  (hL:∀k W B,k<played l→w.heap.size≤B→S B k W→JAt W B (B::LX) (jOf l (k+1))→(∀x∈(B::LX),x<W.heap.size)→Calls prog g (lk (.pointer (some ⟨B,0,none⟩)) (.agg #[.int .i64 (l.getD k ac0).kind,.int .i64 (l.getD k ac0).h,.int .i64 (l.getD k ac0).b,.int .i64 (l.getD k ac0).n,.string (l.getD k ac0).text]) (.agg #[.int .i64 (rOf l k).code,.int .i64 (rOf l k).n,.string (rOf l k).text])) W fun e W'=>e=.returned (.bool true)∧S B (k+1) W'∧JAt W' B (B::LX) (jOf l (k+1))∧ButL LX w.heap.size W W'∧W.heap.size≤W'.heap.size):
  Calls prog 21 #[.slice a l.length c,look] w fun e w'=>∃B,e=.returned (.tuple #[.pointer (some ⟨B,0,none⟩),.bool true])∧w.heap.size≤B∧S B (played l) w'∧JAt w' B (B::LX) (jOf l (played l))∧ButL LX w.heap.size w w':=by
 have HA:=zaa hA;have F3:=zaa hok;have B0:=zaa hLX;have D6:=zaa hS0;have C3:=zaa hSb;have HL:=zaa hL;have C9:=zaa hent;clear hA hok hLX hS0 hSb hL hent;unfold maxLen at hlen;go_enter func21,ntmps21;go_wp2_with fail;refine(z1e _).mono ?_;rintro e w1 ⟨rfl,C⟩;have A5:=zaa C;clear C;go_wp2_with fail;refine(zvh _).mono ?_;rintro e w2 ⟨B,rfl,G5,hJ,C1⟩;have Z:w.heap.size≤w1.heap.size:=A5.o.size;have A3:=zaa (hJ LX (fun x hx=>Nat.lt_of_lt_of_le (B0.o x hx) Z));have A6:=zaa (zae A5.o C1);have R:w.heap.size≤B:=by omega
 have C7:Hid (S B 0 w2):=D6.o w2 B R A6.o A3.o;clear hJ C1;go_wp2
 go_loopw [7] (fun i wr=>∃k:Nat,k≤played l∧i=.int .i64 k∧Hid (S B k wr)∧Hid (JAt wr B (B::LX) (jOf l k))∧Hid (ButL LX w.heap.size w wr)) (fun i _=>l.length - (intOf i).toNat)
 case atStart=>exact⟨0,Nat.zero_le _,rfl,C7,by rw[zps];exact A3,ButL.of_below A6.o⟩
 case round=>
  obtain⟨k,hk,rfl,A7,A2,d⟩:=hrel;clear A3 A6 C7 A5;have E1:played l=min l.length 150:=rfl;by_cases hkp:k<played l
  ·have M:k<l.length:=by omega
   have G6:k<150:=by omega
   have i1:(k:Int)<(l.length:Int):=by omega
   have i2:(k:Int)<150:=by omega
   have i0:(0:Int)≤(k:Int):=by omega
   obtain⟨b,K,rfl,hb,hc⟩:=(HA.o.ext (Ext.butL d.o)).resolve_left (fun e=>by rw[e]at M;simp at M);obtain⟨x,hx⟩:∃x,x=l.getD k ac0:=⟨_,rfl⟩;have O:=hc k M;rw[←hx]at O;obtain⟨G4,e0⟩:=zbv O.1;have e1:=(zbv O.2.1).2;have e2:=(zbv O.2.2.1).2;have e3:=(zbv O.2.2.2.1).2;have e4:=(zbv O.2.2.2.2).2;have G2:=zaa e0;have F0:=zaa e1;have F6:=zaa e2;have D4:=zaa e3;have G0:=zaa e4;have D8:b<wr.heap.size:=by rw[zbi]at hb;exact hb
   have G7:b<w.heap.size:=by
    rcases HA.o with e|⟨I,off2,he,A,_⟩
    ·rw[e]at M;simp at M
    ·cases he;rw[zbi]at A;exact A
   have HX:=zaa hx;have B9:OkA x:=F3.o x (by rw[hx,List.getD,List.getElem?_eq_getElem M];exact List.getElem_mem M);have C2:=zaa B9;have B5:w.heap.size≤wr.heap.size:=d.o.size;clear hc O hx hb B9;go_wp2_with fail;refine(zj8 B (B::LX) (jOf l k) wr A2.o (fun y X=>?_) (zmr l k).ready x C2.o.n C2.o.text).mono ?_
   ·rcases List.mem_cons.1 X with rfl|X
    ·exact A2.o.lt
    ·have:=B0.o y X;omega
   rintro e D ⟨rfl,B1,j⟩;have B8:(doJ (jOf l k) x).2=rOf l k:=by rw[rOf,HX.o]
   have C4:(doJ (jOf l k) x).1=jOf l (k+1):=by rw[zlj M,HX.o]
   rw[C4]at B1;rw[B8];obtain⟨r,hr⟩:∃r,r=rOf l k:=⟨_,rfl⟩;rw[←hr];rw[show vRp r=.agg #[.int .i64 r.code,.int .i64 r.n,.string r.text] from rfl];have G3:=zaa hr;have G8:wr.heap.size≤D.heap.size:=j.size;have Q:D.heap[b]?=wr.heap[b]?:=j.block b D8 (by simp;omega);have E5:=zaa ((World.cell?_of_block Q).trans G2.o);have F2:=zaa ((World.cell?_of_block Q).trans F0.o);have D7:=zaa ((World.cell?_of_block Q).trans F6.o);have G1:=zaa ((World.cell?_of_block Q).trans D4.o);have E8:=zaa ((World.cell?_of_block Q).trans G0.o);have D2:=zaa (C3.o k wr D B A7.o R B5 j);have C8:Hid (ButL LX w.heap.size w D):=d.o.trans j B5 (by simp;omega);clear B8 C4 hr j Q e0 e1 e2 e3 e4;go_wp2;rename_i KK A4;obtain⟨J,A1⟩:∃J,J=D.alloc (.cells #[.int .i64 r.code,.int .i64 r.n,.string r.text] 31):=⟨_,rfl⟩;rw[←A1];have F:Below D.heap.size D J:=by rw[A1];exact zab _ _
   have A8:J.heap[D.heap.size]?=some (.cells #[.int .i64 r.code,.int .i64 r.n,.string r.text] 31 (0,0)):=by rw[A1];exact heap_alloc_new _ _
   have Q0:Hid (J.cell? ⟨D.heap.size,0,none⟩=some (.int .i64 r.code)):=(cell_of_row J _ 0 _ _ _ A8).trans rfl;have Q1:Hid (J.cell? ⟨D.heap.size,1,none⟩=some (.int .i64 r.n)):=(cell_of_row J _ 1 _ _ _ A8).trans rfl;have Q2:Hid (J.cell? ⟨D.heap.size,2,none⟩=some (.string r.text)):=(cell_of_row J _ 2 _ _ _ A8).trans rfl;have P0:=zaa (zac F (show b<D.heap.size by omega) E5.o);have P1:=zaa (zac F (show b<D.heap.size by omega) F2.o);have P2:=zaa (zac F (show b<D.heap.size by omega) D7.o);have P3:=zaa (zac F (show b<D.heap.size by omega) G1.o);have P4:=zaa (zac F (show b<D.heap.size by omega) E8.o);have Z:J.heap.size=D.heap.size+1:=by rw[A1];simp
   have A9:D.heap.size<J.heap.size:=by omega
   have D1:b<J.heap.size:=by omega
   have D9:Hid (∀W,Below J.heap.size J W→Calls prog g (lk (.pointer (some ⟨B,0,none⟩)) (.agg #[.int .i64 x.kind,.int .i64 x.h,.int .i64 x.b,.int .i64 x.n,.string x.text]) (.agg #[.int .i64 r.code,.int .i64 r.n,.string r.text])) W fun e W'=>e=.returned (.bool true)∧S B (k+1) W'∧JAt W' B (B::LX) (jOf l (k+1))∧ButL LX w.heap.size w W'∧W.heap.size≤W'.heap.size):=by
    intro W E;have u:=zae F E
    have h1:=HL.o k W B hkp R (C3.o k D W B D2.o R (by omega) (ButL.of_below u)) (B1.below u) (fun y X=>by
     have h2:=u.size;rcases List.mem_cons.1 X with rfl|X
     ·have:=B1.lt;omega
     ·have:=B0.o y X;omega)
    rw[←HX.o,←G3.o]at h1;refine h1.mono ?_;rintro e W' ⟨h3,h4,h5,h6,h7⟩;exact⟨h3,h4,h5,(C8.o.trans (Y:=[]) (ButL.of_below u) (by omega) (by simp)).trans h6 (Nat.le_refl _) (by intro y X;exact .inl X),h7⟩
   have F:=D1
   have B3:∀(g:Nat→Value) (W':World),S B (k+1) W'→JAt W' B (B::LX) (jOf l (k+1))→ButL LX w.heap.size w W'→True→KK ⟨#[.slice (some ⟨b,K,none⟩) l.length c,look,undef,undef,g 4,g 5,.pointer (some ⟨B,0,none⟩),.int .i64 (k:Int),g 8,.bool true,.bool false,.pointer (some ⟨B,0,none⟩),g 12,g 13,g 14,g 15,g 16,g 17,g 18,g 19,g 20,g 21,g 22,g 23,g 24,g 25,g 26,g 27,g 28,g 29,g 30,g 31,g 32,g 33,g 34,g 35,.bool false,g 37,undef],[]⟩ W':=by
    intro g W' C0 C5 C6 _;apply A4;clear A4;have E2:=zaa C0;have E6:=zaa C5;have E7:=zaa C6;clear C0 C5 C6;go_wp2
    go_roundw
    case rel=>exact⟨k+1,by omega,by go_num,E2,E6,E7⟩
    case measure=>first|(simp[intOf];omega)|simp[intOf]
   have B4:=zaa B3;clear B3 A4;refine(show∀A0:Act,A0=_→Code.wp prog _ _ A0 _ from fun A0 hA0=>?_) _ rfl;have N:A0.tmps.size=39:=by rw[hA0];rfl
   have F5:A0.defers=[]:=by rw[hA0]
   have v0:A0.eval (.tmp 0)=.slice (some ⟨b,K,none⟩) l.length c:=by rw[hA0];rfl
   have v1:A0.eval (.tmp 1)=look:=by rw[hA0];rfl
   have v2:A0.eval (.tmp 2)=undef:=by rw[hA0];rfl
   have v3:A0.eval (.tmp 3)=undef:=by rw[hA0];rfl
   have v6:A0.eval (.tmp 6)=.pointer (some ⟨B,0,none⟩):=by rw[hA0];rfl
   have v7:A0.eval (.tmp 7)=.int .i64 (k:Int):=by rw[hA0];rfl
   have v9:A0.eval (.tmp 9)=.bool true:=by rw[hA0];rfl
   have F1:A0.eval (.tmp 10)=.bool false:=by rw[hA0];rfl
   have E3:A0.eval (.tmp 11)=.pointer (some ⟨B,0,none⟩):=by rw[hA0];rfl
   have F8:A0.eval (.tmp 38)=undef:=by rw[hA0];rfl
   have v8:A0.eval (.tmp 8)=.pointer (some ⟨D.heap.size,0,none⟩):=by rw[hA0];rfl
   clear hA0;refine zbb 7 (fun w'=>Below J.heap.size J w') [28,29,30,31,32,33,34] (z6g B b K k x r look c l) (by kernel_rfl) (by kernel_rfl) (by kernel_rfl) (by kernel_rfl) (by decide) ((Below.refl _ _).drew) ⟨?_,?_,?_,?_,?_,?_,?_,trivial⟩ ?_
   ·exact zbd v1 N (fun _=>rfl) fun ρ w' E z=>by simp only[execOp];go_simp
   ·exact zbd v6 N (fun _=>rfl) fun ρ w' E z=>by simp only[execOp];go_simp
   ·exact zbd v0 N (fun _=>rfl) fun ρ w' E z=>by simp only[execOp];go_simp
   ·exact zbd v7 N (fun _=>rfl) fun ρ w' E z=>by simp only[execOp];go_simp
   ·intro a w' L E q;have p30:a.eval (.tmp 30)=.slice (some ⟨b,K,none⟩) l.length c:=q ⟨2,.data⟩ (by simp) rfl;have p31:a.eval (.tmp 31)=.int .i64 k:=q ⟨3,.data⟩ (by simp) rfl;exact zgm _ rfl rfl (by revert p30 p31;generalize a.eval=ρ;intro p30 p31;simp only[execOp];go_simp) L N E rfl
   ·exact zal 4 32 N (fun _ _ h=>h) (fun _=>rfl) fun ρ w' E p=>by have c0:w'.cell? ⟨b,K+k*5,none⟩=some (.int .i64 x.kind):=zac E F (P0.o);have c1:w'.cell? ⟨b,K+k*5+1,none⟩=some (.int .i64 x.h):=zac E F (P1.o);have c2:w'.cell? ⟨b,K+k*5+2,none⟩=some (.int .i64 x.b):=zac E F (P2.o);have c3:w'.cell? ⟨b,K+k*5+3,none⟩=some (.int .i64 x.n):=zac E F (P3.o);have c4:w'.cell? ⟨b,K+k*5+4,none⟩=some (.string x.text):=zac E F (P4.o);simp only[execOp];go_simp
   ·exact zbd v8 N (fun _=>rfl) fun ρ w' E z=>by have c0:w'.cell? ⟨D.heap.size,0,none⟩=some (.int .i64 r.code):=zac E A9 (Q0.o);have c1:w'.cell? ⟨D.heap.size,1,none⟩=some (.int .i64 r.n):=zac E A9 (Q1.o);have c2:w'.cell? ⟨D.heap.size,2,none⟩=some (.string r.text):=zac E A9 (Q2.o);simp only[execOp];go_simp
   ·intro U W L E q;have p28:U.eval (.tmp 28)=look:=q 0 (by decide);have p29:U.eval (.tmp 29)=.pointer (some ⟨B,0,none⟩):=q 1 (by decide);have p33:U.eval (.tmp 33)=.agg #[.int .i64 x.kind,.int .i64 x.h,.int .i64 x.b,.int .i64 x.n,.string x.text]:=q 5 (by decide);have p34:U.eval (.tmp 34)=.agg #[.int .i64 r.code,.int .i64 r.n,.string r.text]:=q 6 (by decide);have B7:U.tmps.size=39:=L.size.trans N;show wpOps prog _ _ [7,8] U W;rw[wpOps_cons];refine zbo g (lk (.pointer (some ⟨B,0,none⟩)) (.agg #[.int .i64 x.kind,.int .i64 x.h,.int .i64 x.b,.int .i64 x.n,.string x.text]) (.agg #[.int .i64 r.code,.int .i64 r.n,.string r.text])) rfl rfl (C9.o _ U.eval W _ _ _ _ rfl p28 p29 p33 p34) _ (D9.o W E) ?_;rintro e w5 ⟨rfl,F9,D5,E4,_⟩;refine⟨_,rfl,?_⟩;obtain⟨s,C⟩:∃s,s=U.put (some 35) (.bool true):=⟨_,rfl⟩;have B6:s.eval (.tmp 35)=.bool true:=by rw[C];exact Act.eval_put_same _ _ _ (by rw[B7];decide)
    have Z:s.tmps.size=39:=by rw[C,Act.size_put];exact B7
    show wpOps prog _ _ [8] (U.put (some 35) (.bool true)) w5;rw[←C,wpOps_cons];refine zay (.bool false) rfl rfl (by revert B6;generalize s.eval=ρ;intro B6;simp only[execOp];go_simp) ?_;obtain⟨I,A⟩:∃I,I=s.put (some 36) (.bool false):=⟨_,rfl⟩;have E9:I.eval (.tmp 36)=.bool false:=by rw[A];exact Act.eval_put_same _ _ _ (by rw[Z];decide)
    have f0:I.eval (.tmp 0)=.slice (some ⟨b,K,none⟩) l.length c:=by rw[A,Act.eval_put_ne _ _ _ _ (by decide),C,Act.eval_put_ne _ _ _ _ (by decide)];exact(L.other 0 rfl).trans v0
    have f1:I.eval (.tmp 1)=look:=by rw[A,Act.eval_put_ne _ _ _ _ (by decide),C,Act.eval_put_ne _ _ _ _ (by decide)];exact(L.other 1 rfl).trans v1
    have f2:I.eval (.tmp 2)=undef:=by rw[A,Act.eval_put_ne _ _ _ _ (by decide),C,Act.eval_put_ne _ _ _ _ (by decide)];exact(L.other 2 rfl).trans v2
    have f3:I.eval (.tmp 3)=undef:=by rw[A,Act.eval_put_ne _ _ _ _ (by decide),C,Act.eval_put_ne _ _ _ _ (by decide)];exact(L.other 3 rfl).trans v3
    have f6:I.eval (.tmp 6)=.pointer (some ⟨B,0,none⟩):=by rw[A,Act.eval_put_ne _ _ _ _ (by decide),C,Act.eval_put_ne _ _ _ _ (by decide)];exact(L.other 6 rfl).trans v6
    have f7:I.eval (.tmp 7)=.int .i64 (k:Int):=by rw[A,Act.eval_put_ne _ _ _ _ (by decide),C,Act.eval_put_ne _ _ _ _ (by decide)];exact(L.other 7 rfl).trans v7
    have f9:I.eval (.tmp 9)=.bool true:=by rw[A,Act.eval_put_ne _ _ _ _ (by decide),C,Act.eval_put_ne _ _ _ _ (by decide)];exact(L.other 9 rfl).trans v9
    have F4:I.eval (.tmp 10)=.bool false:=by rw[A,Act.eval_put_ne _ _ _ _ (by decide),C,Act.eval_put_ne _ _ _ _ (by decide)];exact(L.other 10 rfl).trans F1
    have E0:I.eval (.tmp 11)=.pointer (some ⟨B,0,none⟩):=by rw[A,Act.eval_put_ne _ _ _ _ (by decide),C,Act.eval_put_ne _ _ _ _ (by decide)];exact(L.other 11 rfl).trans E3
    have F7:I.eval (.tmp 38)=undef:=by rw[A,Act.eval_put_ne _ _ _ _ (by decide),C,Act.eval_put_ne _ _ _ _ (by decide)];exact(L.other 38 rfl).trans F8
    have m:I=⟨#[_,_,_,_,_,_,_,_,_,_,_,_,_,_,_,_,_,_,_,_,_,_,_,_,_,_,_,_,_,_,_,_,_,_,_,_,_,_,_],[]⟩:=zb9 I 39 (by rw[A,Act.size_put];exact Z) (by rw[A,Act.defers_put',C,Act.defers_put'];exact L.defers.trans F5);dsimp only at m;rw[f0,f1,f2,f3,f6,f7,f9,F4,E0,E9,F7]at m;show KK (s.put (some 36) (.bool false)) _;rw[←A];exact(congrArg (fun y=>KK y _) m).mpr (B4.o (fun k=>I.eval (.tmp k)) _ F9 D5 E4 trivial)
  ·have D3:k=played l:=by omega
   subst D3;have B2:¬((played l:Int)<(l.length:Int))∨¬((played l:Int)<150):=by omega
   clear E1;rcases Classical.em ((played l:Int)<(l.length:Int)) with i1|i1
   ·have i2:¬((played l:Int)<150):=by omega
    clear B2;go_wp2;refine bodyPost_ret (results_tmp2 rfl _ _ _) rfl ⟨B,rfl,R,A7.o,A2.o,d.o⟩
   ·clear B2;go_wp2;refine bodyPost_ret (results_tmp2 rfl _ _ _) rfl ⟨B,rfl,R,A7.o,A2.o,d.o⟩
theorem SegA.hideW{w:World}{a:Option Addr}{l:List Ac}(h:SegA w a l){w':World}(hb:Below w.heap.size w w'){X:List Nat}(hX:∀x∈X,w.heap.size≤x):SegA (zas w' X) a l:=by
 rcases h with h0|⟨b,off,rfl,hlt,hc⟩
 ·exact .inl h0
 ·have A:b∉X:=fun hx=>by have:=hX b hx;omega
  refine .inr ⟨b,off,rfl,by rw[zbi];have:=hb.size;omega,fun i hi=>?_⟩;obtain⟨E,C,F,B,D⟩:=hc i hi;exact⟨zbz A (zac hb hlt E),zbz A (zac hb hlt C),zbz A (zac hb hlt F),zbz A (zac hb hlt B),zbz A (zac hb hlt D)⟩
def zhk:Ac:=⟨8,0,0,0,⟨#[]⟩⟩
def crashAc (n:Int):Ac:=⟨10,0,0,n,⟨#[]⟩⟩
def backAc:Ac:=⟨11,0,0,0,⟨#[]⟩⟩
section
variable {j:Jn} {D:Dk}
theorem zpw{S:List St}{k:Nat}{s:St}{r:List St}(hok:∀s∈S,zda s)(hl:S.length≤50)(hg:za0 D=true)(hc:D.wr=[])(hs:s::r=S.drop k):doneE (runK D (S.take k)) s=0:=by
 obtain⟨B,_,e3⟩:=zep hs;have C:s∈S:=List.mem_of_getElem? B;have A:=zcn (S.take k) D (fun u hu=>hok u (List.mem_of_mem_take hu)) hg (by rw[hc,List.length_take];simp;omega);refine z4t (hok s C) A.1 ?_;have:=A.2;rw[hc,List.length_take]at this;simp at this;omega
theorem zmt{l:List Tx}{P N:Int}(hg:∀t∈l,za9 t=true)(h:checkE (newestL l) P N=0):(∀s∈checkS (newestL l) P N,zda s)∧(checkS (newestL l) P N).length≤15∧checkS (newestL l) P N≠[]:=by
 obtain⟨B,D⟩:=zd6 h;have C:zbc (encT (zbr P N))=true:=by have:=zej D;simp[zbc];omega
 have A:=zec hg;have A0:=zed A;rw[B];exact⟨zj0 A C,by simp[putR];omega,by simp[putR]⟩
theorem Md.stepE(h:Md j D){s:St}{r:List St}(hs:j.steps=s::r):doneE j.disk s=0:=by
 cases h with
 |idle p hs2 hz hD ht hq=>rw[hs2]at hs;cases hs
 |commit P U k p hw hk hs2 hD ht he hse hrh hru hq hN=>
  obtain⟨F,B⟩:=zfv he;rw[hD];exact zpw F B ht.good ht.clean (hs.symm.trans hs2)
 |check k p hw hz hk hs2 hD ht hq=>
  have C:=ht.check;have I:=ht.goods;rw[zcy]at C;have E:∀t∈j.done.map toldOf,za9 t=true:=I;have A:=zmt E (by rw[zcy];exact C);rw[zcy]at A;rw[hD];exact zpw A.1 (by omega) ht.good ht.clean (hs.symm.trans hs2)
 |off l N P U p hs2 hf hD ht=>rw[hs2]at hs;cases hs
 |back U k p hw hk hs2 hD ht=>
  have A:=zmt ht.goods ht.check;rw[hD];exact zpw A.1 (by omega) ht.good ht.clean (hs.symm.trans hs2)
theorem Md.work(h:Md j D)(hd:j.down=true)(hs:j.steps≠[]):j.work=11:=by
 cases h with
 |idle p=>rw[p.up]at hd;cases hd
 |commit P U k p=>rw[p.up]at hd;cases hd
 |check k p=>rw[p.up]at hd;cases hd
 |off l N P U p hs2=>exact absurd hs2 hs
 |back U k p hw=>exact hw
theorem Md.workUp(h:Md j D)(hu:j.down=false)(hs:j.steps≠[]):j.work=6∨j.work=7:=by
 cases h with
 |idle p hs2=>exact absurd hs2 hs
 |commit P U k p hw=>exact .inl hw
 |check k p hw=>exact .inr hw
 |off l N P U p=>rw[p.off]at hu;cases hu
 |back U k p hw=>rw[p.off]at hu;cases hu
theorem z42(h:Md j D)(ha:j.acts<400):(doJ j zhk).1.steps=j.steps.tail∧(doJ j zhk).2.code=(if j.steps=[] then 4 else 0)∧(j.steps=[]→(doJ j zhk).1={j with acts:=j.acts+1})∧(j.down=false→(doJ j zhk).1.down=false)∧(j.down=true→j.steps≠[]→j.steps.tail=[]→(doJ j zhk).1.down=false)∧(j.down=true→(j.steps=[]∨j.steps.tail≠[])→(doJ j zhk).1.down=true):=by
 obtain⟨J,C⟩:∃J:Jn,J={j with acts:=j.acts+1}:=⟨_,rfl⟩;have I:J.steps=j.steps:=by rw[C]
 have N:J.disk=j.disk:=by rw[C]
 have jw:J.work=j.work:=by rw[C]
 have B:J.down=j.down:=by rw[C]
 have e:doJ j zhk=zfj J:=by
  rw[doJ,if_neg (by omega),zim,if_neg (by decide),if_pos (show zhk.kind=8 from rfl),C]
 rw[e,←C];have Q:=fun s r hs=>h.stepE (s:=s) (r:=r) hs;have M:=h.work;have O:=h.workUp;clear e C
 have K:j.steps=[]∨∃s r,j.steps=s::r:=by
  cases j.steps with
  |nil=>exact .inl rfl
  |cons s r=>exact .inr ⟨s,r,rfl⟩
 rcases K with hs|⟨s,r,hs⟩
 ·have F:zfj J=(J,zat 4):=by unfold zfj;rw[I,hs]
  rw[F,hs];exact⟨I.trans hs,rfl,fun _=>rfl,fun A=>B.trans A,fun _ hn=>absurd rfl hn,fun hd _=>B.trans hd⟩
 ·have L:doneE J.disk s=0:=by rw[N];exact Q s r hs
  rw[hs];by_cases hr:r=[]
  ·subst hr
   have F:zfj J=zbp {J with disk:=zbf J.disk s,steps:=[]}:=by
    unfold zfj;rw[I,hs];simp only[L,if_true]
   rw[F];by_cases hd:j.down=true
   ·have hw:=M hd (by rw[hs];simp)
    have E:zbp {J with disk:=zbf J.disk s,steps:=[]}=(zjb {J with disk:=zbf J.disk s,steps:=[]},zat 0):=by
     rw[zbp,if_neg (show¬J.work=6 by omega),if_neg (show¬J.work=7 by omega),if_pos (show J.work=11 by omega)]
    rw[E];exact⟨rfl,rfl,(fun h=>by cases h),fun _=>rfl,fun _ _ _=>rfl,fun _ h=>by simp at h⟩
   ·have A:j.down=false:=by simpa using hd
    rcases O A (by rw[hs];simp) with hw|hw
    ·have E:zbp {J with disk:=zbf J.disk s,steps:=[]}=zgf {J with disk:=zbf J.disk s,steps:=[]}:=by
      rw[zbp,if_pos (show J.work=6 by omega)]
     rw[E];exact⟨rfl,rfl,(fun h=>by cases h),fun _=>B.trans A,fun _ _ _=>B.trans A,fun h _=>absurd h hd⟩
    ·have E:zbp {J with disk:=zbf J.disk s,steps:=[]}=({{J with disk:=zbf J.disk s,steps:=[]} with done:=[],ru:=0},zat 0):=by
      rw[zbp,if_neg (show¬J.work=6 by omega),if_pos (show J.work=7 by omega)]
     rw[E];exact⟨rfl,rfl,(fun h=>by cases h),fun _=>B.trans A,fun _ _ _=>B.trans A,fun h _=>absurd h hd⟩
  ·have F:zfj J=({J with disk:=zbf J.disk s,steps:=r},zat 0):=by
    unfold zfj;rw[I,hs];simp only[L,if_true,hr,if_false]
   rw[F];exact⟨rfl,rfl,(fun h=>by cases h),fun A=>B.trans A,fun _ _ ht=>absurd ht hr,fun hd _=>B.trans hd⟩
theorem z3v(h:Md j D)(ha:j.acts<400){n:Int}(hn:0≤n):(doJ j (crashAc n)).1.down=true∧(doJ j (crashAc n)).1.steps=[]∧(doJ j (crashAc n)).2.code=0:=by
 have e:doJ j (crashAc n)=zg7 {j with acts:=j.acts+1} n:=by
  rw[doJ,if_neg (by omega),zim,if_neg (by simp[crashAc]),if_neg (by simp[crashAc]),if_pos (show(crashAc n).kind=10 from rfl)];rfl
 have A:=(zn0 h.disk hn).1;rw[e,zg7,if_pos A];exact⟨rfl,rfl,rfl⟩
theorem z43(h:Md j D)(ha:j.acts<400)(hd:j.down=true)(hs:j.steps=[]):(doJ j backAc).1.down=true∧(doJ j backAc).1.steps≠[]∧(doJ j backAc).1.steps.length≤15∧(doJ j backAc).2.code=0:=by
 have e:doJ j backAc=zb3 {j with acts:=j.acts+1}:=by
  rw[doJ,if_neg (by omega),zim,if_neg (by decide),if_neg (by decide),if_neg (by decide),if_pos (show backAc.kind=11 from rfl)]
 cases h with
 |idle p=>rw[p.up]at hd;cases hd
 |commit P U k p=>rw[p.up]at hd;cases hd
 |check k p=>rw[p.up]at hd;cases hd
 |off l N P U p hs2 hf hD ht=>
  have J:scanE j.disk=0:=by rw[hD];exact ht.tE
  have F:checkE (newestL (fndL j.disk)) (fndP j.disk) (fndN j.disk)=0:=by rw[hD,ht.tL,ht.tP,ht.tN];exact ht.check
  have I:∀t∈fndL j.disk,za9 t=true:=by rw[hD,ht.tL];exact ht.goods
  have C:=zmt I F
  have B:¬(({j with acts:=j.acts+1}:Jn).down=false∨({j with acts:=j.acts+1}:Jn).steps≠[]):=by
   rintro(A|A)
   ·have E:j.down=false:=A;rw[hd]at E;cases E
   ·exact A hs
  rw[e,zb3,if_neg B,if_pos J,if_pos F];exact⟨hd,C.2.2,C.2.1,rfl⟩
 |back U k p hw hk hs2 hD ht=>
  rw[hs]at hs2;have:=congrArg List.length hs2;rw[List.length_drop]at this;simp at this;omega
end
