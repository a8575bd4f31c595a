/-
  
-/
import Derived.Test.YtjnpndfpajjihacGreatGrTopWhole43
import Derived.Test.YtjnpndfpajjihacGreatGrTopWhole47
import Derived.Test.YtjnpndfpajjihacGreatXTellsP
set_option maxRecDepth 100000
set_option maxHeartbeats 40000000
namespace Go.Proofs.YtjnpndfpajjihacGreat
open Tryz
open Go.RowKit
theorem DkFrom.lower {n m:Nat}{v:Value}(h:DkFrom n v)(hm:m≤n):DkFrom m v:=by
 obtain⟨a,l,c,B,E,C,rfl,D,A⟩:=h;exact⟨a,l,c,B,E,C,rfl,fun b o e=>Nat.le_trans hm (D b o e),fun b o e=>Nat.le_trans hm (A b o e)⟩
def okD (bs:Nat)(v0:Value)(d:Dk)(v:Value)(w:World):Prop:=IsDk w v d∧(v=v0∨DkFrom bs v)
theorem okD.below {bs:Nat}{v0:Value}{d:Dk}{v:Value}{w w':World}(h:okD bs v0 d v w)(hb:Below w.heap.size w w'):okD bs v0 d v w':=⟨h.1.below hb,h.2⟩
theorem okD.store {bs:Nat}{v0:Value}{d:Dk}{v:Value}{w:World}(h:okD bs v0 d v w){T:Nat}{a1:Option Addr}{n1 c1:Nat}{a2:Option Addr}{n2 c2:Nat}(hT:w.heap[T]?=some (.cells #[.slice a1 n1 c1,.slice a2 n2 c2] 46 (0,0)))(b1:Option Addr)(m1 k1:Nat)(b2:Option Addr)(m2 k2:Nat):okD bs v0 d v ((w.setCell ⟨T,0,none⟩ (.slice b1 m1 k1)).setCell ⟨T,1,none⟩ (.slice b2 m2 k2)):=
 ⟨(h.1.setBox hT 0 _).setBox (heap_setCell_same _ _ 0 _ _ (.slice b1 m1 k1) hT) 1 _,h.2⟩
def zh5 (B:Nat)(bs:Nat)(j:Jn)(s:St)(da:Option Addr)(dc:Nat)(db:Option Addr)(dd:Nat)(tb:Nat)(tq:Nat)(tc:Nat)(n:Nat):Nat→Value→World→Prop
 |0,v,_=>v=.pointer (some ⟨B,0,none⟩)
 |1,v,_=>v=.pointer (some ⟨B,0,none⟩)
 |2,v,_=>v=.pointer (some ⟨B,1,none⟩)
 |3,v,_=>v=.agg #[.slice da j.disk.safe.length dc,.slice db j.disk.wr.length dd]
 |4,v,_=>v=.pointer (some ⟨B,0,none⟩)
 |5,v,_=>v=.pointer (some ⟨B,0,none⟩)
 |6,v,_=>v=.pointer (some ⟨B,56,none⟩)
 |7,v,_=>v=.slice (some ⟨tb,tq,none⟩) n tc
 |8,v,_=>v=.pointer (some ⟨tb,tq,none⟩)
 |9,v,_=>v=.agg #[.int .i64 s.1,.int .i64 s.2.1,.string s.2.2]
 |10,v,w=>∃v2,v=.tuple #[v2,.int .i64 (doneE j.disk s)]∧okD bs (.agg #[.slice da j.disk.safe.length dc,.slice db j.disk.wr.length dd]) (zbi j.disk s) v2 w
 |11,v,w=>∃v2,v=.tuple #[v2,.int .i64 (doneE j.disk s)]∧okD bs (.agg #[.slice da j.disk.safe.length dc,.slice db j.disk.wr.length dd]) (zbi j.disk s) v2 w
 |12,v,w=>okD bs (.agg #[.slice da j.disk.safe.length dc,.slice db j.disk.wr.length dd]) (zbi j.disk s) v w
 |13,v,_=>v=.int .i64 (doneE j.disk s)
 |14,v,w=>∃(T:Nat) (a1:Option Addr) (n1 c1:Nat) (a2:Option Addr) (n2 c2:Nat),v=.pointer (some ⟨T,0,none⟩)∧bs≤T∧w.heap[T]?=some (.cells #[.slice a1 n1 c1,.slice a2 n2 c2] 46 (0,0))
 |15,v,w=>∃(T:Nat) (e1:Option Addr) (e2:Nat) (e3:Option Addr) (e4:Nat),v=.pointer (some ⟨T,0,none⟩)∧bs≤T∧w.heap[T]?=some (.cells #[.slice e1 (zbi j.disk s).safe.length e2,.slice e3 (zbi j.disk s).wr.length e4] 46 (0,0))∧okD bs (.agg #[.slice da j.disk.safe.length dc,.slice db j.disk.wr.length dd]) (zbi j.disk s) (.agg #[.slice e1 (zbi j.disk s).safe.length e2,.slice e3 (zbi j.disk s).wr.length e4]) w
 |_,_,_=>True
theorem zki {B:Nat}{bs:Nat}{j:Jn}{s:St}{da:Option Addr}{dc:Nat}{db:Option Addr}{dd:Nat}{tb:Nat}{tq:Nat}{tc:Nat}{n:Nat}{w w':World}(hb:Below w.heap.size w w'){i:Nat}:∀kk uu,kk≠i→zh5 B bs j s da dc db dd tb tq tc n kk uu w→zh5 B bs j s da dc db dd tb tq tc n kk uu w':=by
 intro kk uu _ h
 match kk,h with
 |0,h|1,h|2,h|3,h|4,h|5,h|6,h|7,h|8,h|9,h=>exact h
 |10,⟨v2,h1,h2⟩=>exact⟨v2,h1,h2.below hb⟩
 |11,⟨v2,h1,h2⟩=>exact⟨v2,h1,h2.below hb⟩
 |12,h=>exact h.below hb
 |13,h=>exact h
 |14,⟨T,a1,n1,c1,a2,n2,c2,h1,h2,h3⟩=>exact⟨T,a1,n1,c1,a2,n2,c2,h1,h2,zad hb (Array.getElem?_eq_some_iff.1 h3).1 h3⟩
 |15,⟨T,e1,e2,e3,e4,h1,h2,h3,h4⟩=>exact⟨T,e1,e2,e3,e4,h1,h2,zad hb (Array.getElem?_eq_some_iff.1 h3).1 h3,h4.below hb⟩
 |_+16,_=>exact trivial
theorem zrw {B:Nat}{bs:Nat}{j:Jn}{s:St}{da:Option Addr}{dc:Nat}{db:Option Addr}{dd:Nat}{tb:Nat}{tq:Nat}{tc:Nat}{n:Nat}{w:World}{T:Nat}{a1:Option Addr}{n1 c1:Nat}{a2:Option Addr}{n2 c2:Nat}(hT:w.heap[T]?=some (.cells #[.slice a1 n1 c1,.slice a2 n2 c2] 46 (0,0)))(b1:Option Addr)(m1 k1:Nat)(b2:Option Addr)(m2 k2:Nat):∀kk x,kk≠15→zh5 B bs j s da dc db dd tb tq tc n kk x w→zh5 B bs j s da dc db dd tb tq tc n kk x ((w.setCell ⟨T,0,none⟩ (.slice b1 m1 k1)).setCell ⟨T,1,none⟩ (.slice b2 m2 k2)):=by
 intro kk x A h
 match kk,h with
 |0,h|1,h|2,h|3,h|4,h|5,h|6,h|7,h|8,h|9,h=>exact h
 |10,⟨y,h1,h2⟩=>exact⟨y,h1,h2.store hT _ _ _ _ _ _⟩
 |11,⟨y,h1,h2⟩=>exact⟨y,h1,h2.store hT _ _ _ _ _ _⟩
 |12,h=>exact h.store hT _ _ _ _ _ _
 |13,h=>exact h
 |14,⟨T',u1,u2,u3,u4,u5,u6,h1,h2,h3⟩=>
  by_cases e:T'=T
  ·subst e;exact⟨T',_,_,_,_,_,_,h1,h2,zjj hT _ _⟩
  ·exact⟨T',u1,u2,u3,u4,u5,u6,h1,h2,(Below.heap_setCell _ _ _ _ e).trans ((Below.heap_setCell _ _ _ _ e).trans h3)⟩
 |15,_=>exact absurd rfl A
 |_+16,_=>exact trivial
def zme (B:Nat)(j:Jn)(X:List Nat)(d2:Dk)(e1:Option Addr)(e2:Nat)(e3:Option Addr)(e4:Nat)(tb:Nat)(tq:Nat)(tc:Nat)(n:Nat)(r:List St):Nat→Value→World→Prop
 |0,v,_=>v=.pointer (some ⟨B,0,none⟩)
 |1,v,_=>v=.pointer (some ⟨B,0,none⟩)
 |2,v,_=>v=.agg #[.slice e1 d2.safe.length e2,.slice e3 d2.wr.length e4]
 |3,v,_=>v=.pointer (some ⟨B,0,none⟩)
 |4,v,_=>v=.pointer (some ⟨B,0,none⟩)
 |5,v,_=>v=.pointer (some ⟨B,56,none⟩)
 |6,v,_=>v=.slice (some ⟨tb,tq,none⟩) n tc
 |7,v,w=>∃c a2,v=.slice a2 r.length c∧r.length≤c∧SegSt (zar w X) a2 r
 |8,v,_=>v=.pointer (some ⟨B,0,none⟩)
 |9,v,_=>v=.pointer (some ⟨B,1,none⟩)
 |10,_,w=>JAt w B X {j with disk:=d2}
 |_,_,_=>True
theorem ztz {B:Nat}{j:Jn}{X:List Nat}{d2:Dk}{e1:Option Addr}{e2:Nat}{e3:Option Addr}{e4:Nat}{tb:Nat}{tq:Nat}{tc:Nat}{n:Nat}{r:List St}{w w':World}(hs:∀a l,SegSt (zar w X) a l→SegSt (zar w' X) a l):∀kk x,kk≠10→zme B j X d2 e1 e2 e3 e4 tb tq tc n r kk x w→zme B j X d2 e1 e2 e3 e4 tb tq tc n r kk x w':=by
 intro kk x A h
 match kk,h with
 |0,h|1,h|2,h|3,h|4,h|5,h|6,h=>exact h
 |7,⟨c,a2,h1,h2,h3⟩=>exact⟨c,a2,h1,h2,hs _ _ h3⟩
 |8,h|9,h=>exact h
 |10,_=>exact absurd rfl A
 |_+11,_=>exact trivial
theorem z0p (B:Nat)(X:List Nat)(j:Jn)(w:World)(h:JAt w B X j)(hX:∀x∈X,x<w.heap.size)(hn:j.done.length≤900)(hf:j.fL.length≤maxLen)(hq:IntKind.i64.wrap (j.fN - 1)=j.fN - 1):
  Calls prog 44 #[.pointer (some ⟨B,0,none⟩)] w (zdf w B X (zi5 j)):=by
 have HJ:=zab h;have M3:=h.lt;have A1:=h.1;have HX:=zab hX;have HN:=zab hn;have HF:=zab hf;have HQ:=zab hq;clear h hX hn hf hq;have L2:¬w.heap.size=B:=by omega
 go_enter func44,ntmps44;go_wp2_with fail;obtain⟨I,A9⟩:∃I,I=w.alloc (.cells #[.int .i64 0,.int .i64 0,.string ⟨#[]⟩] 31):=⟨_,rfl⟩;have N:Hid (JAt I B (w.heap.size::X) j):=by rw[A9];exact HJ.o.more (zaa _ _) (Nat.le_refl _)
 have K:Hid (ButL [B] w.heap.size w I):=by rw[A9];exact ButL.of_below (zaa _ _)
 have KR:Hid (I.heap[w.heap.size]?=some (.cells #[.int .i64 0,.int .i64 0,.string ⟨#[]⟩] 31 (0,0))):=by rw[A9];exact heap_alloc_new _ _
 have E4:I.heap.size=w.heap.size+1:=by rw[A9];simp
 have A8:w.heap.size<I.heap.size:=by omega
 have B1:w.heap.size≠B:=by omega
 have E8:Hid (∀x∈(w.heap.size::X),x<I.heap.size):=fun x hx=>by
  rcases List.mem_cons.1 hx with rfl|hx
  ·exact A8
  ·have:=HX.o x hx;omega
 rw[←A9];clear A9;refine(zfk B (w.heap.size::X) j I N.o).mono ?_;rintro e w' ⟨rfl,rfl⟩
 cases hst:j.steps with
 |nil=>
  have HE:Hid (zi5 j=(j,zas 4)):=by rw[Hid,zi5,hst]
  have B3:decide (0<([]:List St).length)=false:=rfl;rw[B3];clear hst B3;go_wp2_with fail;refine(zat 4 _).mono ?_;rintro e w2 ⟨rfl,D⟩;have O:=zab (zad D A8 KR.o);have A3:=zab (N.o.below D);have A5:=zab (K.o.trans (Y:=[]) (ButL.of_below D) K.o.size (by simp));clear D;obtain⟨⟨y0,y1,y2⟩,yf⟩:=zbl O.o;go_wp2;exact zbf HE.o O.o A3.o A5.o B1 A1 fun W u0 u1 u2=>by simp[results,results44,go_sem,u0,u1,u2]
 |cons s r=>
  have B3:decide (0<(s::r).length)=true:=by simp
  rw[B3];clear B3;have F6:=zab hst;obtain⟨_,da,dc,db,dd,na,nc,nb,nd,ne,nf,sa,sc,sb,sd,se,sf,ca,cc,fa,fc,ta,tc,h1,hr⟩:=id N.o;have C1:Hid (w'.cell? ⟨B,1,none⟩=some (.slice da j.disk.safe.length dc)):=zak h1 1;have C2:Hid (w'.cell? ⟨B,2,none⟩=some (.slice db j.disk.wr.length dd)):=zak h1 2;obtain⟨n,B2⟩:∃n,n=j.steps.length:=⟨_,rfl⟩;have B6:=hr.2.2.2.2.2.1;have E5:=hr.2.2.2.2.2.2.2.1;rw[hst] at B6;obtain⟨Z,Q,F3,B9,E0⟩:=B6.resolve_left (by simp);have E2:Hid (w'.cell? ⟨B,56,none⟩=some (.slice (some ⟨Z,Q,none⟩) n tc)):=by rw[Hid,B2,←F3];exact zak h1 56
  have B5:=E0 0 (by simp);simp only[Nat.zero_mul,Nat.add_zero,List.getD_cons_zero] at B5;obtain⟨K1,D2⟩:=zbv B5.1;have S0:=zab D2;have S1:=zab (zbv B5.2.1).2;have S2:=zab (zbv B5.2.2).2
  have C3:Hid (SegSt (zar w' (w.heap.size::X)) (some ⟨Z,Q+3,none⟩) r):=.inr ⟨Z,Q+3,rfl,B9,fun i hi=>by
   have:=E0 (i+1) (by simp;omega);rw[show Q+(i+1)*3=Q+3+i*3 by omega] at this
   simpa using this⟩
  have D6:Z<w'.heap.size:=by rw[zbh] at B9;exact B9
  have D1:Hid (n - 1=r.length):=by rw[Hid,B2,hst];simp
  have D5:Hid (1≤n):=by rw[Hid,B2,hst];simp
  have I1:Hid (n≤tc):=by rw[Hid,B2];exact E5
  have G9:=zab (hr.1.ext (Ext.seenL w' _));have F7:=zab hr.1;have C7:B<w'.heap.size:=by omega
  clear h1 hr B6 E5 F3 B9 E0 B5 D2 K1 hst B2;have J2:(1:Int)≤(n:Int):=by have:=D5.o;omega
  go_wp2;rename_i KK D7;obtain⟨I,F5⟩:∃I,I=w':=⟨_,rfl⟩;rw[←F5];subst F5
  have D8:∀(g:Nat→Value) (q:World) (T:Nat) (S:Option Addr) (R:Nat) (b:Option Addr) (U:Nat),I.heap.size≤T→q.heap[T]?=some (.cells #[.slice S (zbi j.disk s).safe.length R,.slice b (zbi j.disk s).wr.length U] 46 (0,0))→okD I.heap.size (.agg #[.slice da j.disk.safe.length dc,.slice db j.disk.wr.length dd]) (zbi j.disk s) (.agg #[.slice S (zbi j.disk s).safe.length R,.slice b (zbi j.disk s).wr.length U]) q→Below I.heap.size I q→KK ⟨#[.pointer (some ⟨B,0,none⟩),g 1,.pointer (some ⟨w.heap.size,0,none⟩),.pointer (some ⟨T,0,none⟩),.int .i64 (doneE j.disk s),g 5,g 6,g 7,g 8,g 9,g 10,g 11,g 12,g 13,g 14,g 15,g 16,g 17,g 18,g 19,g 20,g 21,g 22,g 23,g 24,g 25,g 26,g 27,g 28,g 29,g 30,g 31,g 32,g 33,g 34,g 35,g 36,g 37,g 38,g 39,g 40,g 41,g 42,g 43],[]⟩ q:=by
   intro g q T S R b U B0 m ok A2;apply D7;clear D7;have F4:=zab (N.o.below A2);have D3:Hid (ButL [B] w.heap.size w q):=K.o.trans (Y:=[]) (ButL.of_below A2) K.o.size (by simp);have H0:=zab (zad A2 A8 KR.o);have L8:I.heap.size≤q.heap.size:=A2.size
   have H3:Hid (IsDk (zar q (w.heap.size::X)) (.agg #[.slice S (zbi j.disk s).safe.length R,.slice b (zbi j.disk s).wr.length U]) (zbi j.disk s)):=by
    rcases ok.2 with e|F
    ·have hd:=F7.o.ext (Ext.freshL A2);have G8:=ok.1;rw[Hid,e];rw[e] at G8;exact hd.asDisk G8
    ·exact ok.1.hideF F E8.o
   have H4:=zab (zac A2 C7 E2.o);have H6:=zab (C3.o.ext (Ext.freshL A2));have C8:=zab m;have F9:T<q.heap.size:=(Array.getElem?_eq_some_iff.1 m).1;have G6:¬T=B:=by omega
   have H5:w.heap.size<q.heap.size:=by omega
   clear A2 m ok C1 C2 E2 S0 S1 S2 C3 G9 F7 N K KR;obtain⟨L,E1⟩:∃L,L=(zbi j.disk s):=⟨_,rfl⟩;rw[←E1] at H3 C8;have F0:=zab E1;clear E1;by_cases he:doneE j.disk s=0
   ·have C6:Hid (zi5 j=if r=[] then zb5 ({j with disk:=L,steps:=r}:Jn) else(({j with disk:=L,steps:=r}:Jn),zas 0)):=by rw[Hid,zi5,F6.o];simp only[he,if_true,F0.o]
    rw[he];clear he F0;go_wp2;rename_i E3 B8
    have C0:∀(g:Nat→Value) (W6:World),JAt W6 B (w.heap.size::X) ({j with disk:=L,steps:=r}:Jn)→ButL [B] q.heap.size q W6→E3 ⟨#[.pointer (some ⟨B,0,none⟩),g 1,.pointer (some ⟨w.heap.size,0,none⟩),g 3,g 4,g 5,g 6,g 7,g 8,g 9,g 10,g 11,g 12,g 13,g 14,g 15,g 16,g 17,g 18,g 19,g 20,g 21,g 22,g 23,g 24,g 25,g 26,g 27,g 28,g 29,g 30,g 31,g 32,g 33,g 34,g 35,g 36,g 37,g 38,g 39,g 40,g 41,g 42,g 43],[]⟩ W6:=by
     intro g W6 G2 C4;apply B8;clear B8;have N:=zab G2;have K:Hid (ButL [B] w.heap.size w W6):=D3.o.trans C4 D3.o.size (by simp);have KR:Hid (W6.heap[w.heap.size]?=some (.cells #[.int .i64 0,.int .i64 0,.string ⟨#[]⟩] 31 (0,0))):=(C4.block _ (by omega) (by simpa using B1)).trans H0.o;have L5:q.heap.size≤W6.heap.size:=C4.size;have A8:w.heap.size<W6.heap.size:=by omega
     clear G2 C4;go_wp2_with fail;refine(zfk B (w.heap.size::X) ({j with disk:=L,steps:=r}:Jn) W6 N.o).mono ?_;rintro e w7 ⟨rfl,rfl⟩;by_cases hre:r=[]
     ·have D4:Hid (zi5 j=zb5 ({j with disk:=L,steps:=r}:Jn)):=by rw[Hid,C6.o,if_pos hre]
      have B7:decide (0<(({j with disk:=L,steps:=r}:Jn)).steps.length)=false:=by show decide (0<r.length)=false;rw[hre];rfl
      rw[B7];clear B7 C6;go_wp2_with fail;refine(ztt B (w.heap.size::X) ({j with disk:=L,steps:=r}:Jn) w7 N.o (fun x hx=>by have:=E8.o x hx;omega) HN.o HF.o HQ.o).mono ?_;rintro e w2 ⟨rfl,E9,C5⟩;have O:Hid (w2.heap[w.heap.size]?=some (.cells #[.int .i64 0,.int .i64 0,.string ⟨#[]⟩] 31 (0,0))):=(C5.block _ (by omega) (by simpa using B1)).trans KR.o;have A3:=zab E9;have A5:Hid (ButL [B] w.heap.size w w2):=K.o.trans C5 K.o.size (by simp);have M4:w7.heap.size≤w2.heap.size:=C5.size;clear E9 C5;obtain⟨P,hP⟩:∃P,P=zb5 ({j with disk:=L,steps:=r}:Jn):=⟨_,rfl⟩;rw[←hP] at D4 A3⊢;have I0:Hid (zi5 j=(P.1,⟨P.2.code,P.2.n,P.2.text⟩)):=D4.o;rw[show vRp P.2=.agg #[.int .i64 P.2.code,.int .i64 P.2.n,.string P.2.text] from rfl];clear hP D4;obtain⟨⟨y0,y1,y2⟩,yf⟩:=zbl O.o;go_wp2;exact zbf I0.o O.o A3.o A5.o B1 A1 fun W u0 u1 u2=>by simp[results,results44,go_sem,u0,u1,u2]
     ·have HE:Hid (zi5 j=(({j with disk:=L,steps:=r}:Jn),zas 0)):=by rw[Hid,C6.o,if_neg hre]
      have B7:decide (0<(({j with disk:=L,steps:=r}:Jn)).steps.length)=true:=by show decide (0<r.length)=true;simpa[List.length_pos_iff] using hre
      rw[B7];clear B7 C6 hre;go_wp2_with fail;refine(zat 0 _).mono ?_;rintro e w2 ⟨rfl,D⟩;have O:=zab (zad D A8 KR.o);have A3:=zab (N.o.below D);have A5:=zab (K.o.trans (Y:=[]) (ButL.of_below D) K.o.size (by simp));clear D;obtain⟨⟨y0,y1,y2⟩,yf⟩:=zbl O.o;go_wp2;exact zbf HE.o O.o A3.o A5.o B1 A1 fun W u0 u1 u2=>by simp[results,results44,go_sem,u0,u1,u2]
    have C9:=zab C0;clear C0 B8;have C3:=H6;refine(show∀A0:Act,A0=_→Code.wp prog _ _ A0 _ from fun A0 hA0=>?_) _ rfl;have C:A0.tmps.size=44:=by rw[hA0];rfl
    have E6:A0.defers=[]:=by rw[hA0]
    have v0:A0.eval (.tmp 0)=.pointer (some ⟨B,0,none⟩):=by rw[hA0];rfl
    have M:A0.eval (.tmp 2)=.pointer (some ⟨w.heap.size,0,none⟩):=by rw[hA0];rfl
    have v3:A0.eval (.tmp 3)=.pointer (some ⟨T,0,none⟩):=by rw[hA0];rfl
    clear hA0;refine zba 11 (fun w'=>(∃d,JAt w' B (w.heap.size::X) {j with disk:=d})∧ButL [B] q.heap.size q w'∧w'.cell? ⟨B,56,none⟩=some (.slice (some ⟨Z,Q,none⟩) n tc)) [27,28,29,30,31,32,33,34,35,36,36] (zme B j (w.heap.size::X) L S R b U Z Q tc n r) (by kernel_rfl) (by kernel_rfl) (by kernel_rfl) (by kernel_rfl) (by decide) (⟨⟨_,F4.o.below (Below.refl _ _).drew⟩,ButL.of_below (Below.refl _ _).drew,H4.o⟩) ⟨?_,?_,?_,?_,?_,?_,?_,?_,?_,?_,?_,trivial⟩ ?_
    ·exact zbc v0 C (fun _=>rfl) fun ρ w' A z=>by simp only[execOp];go_simp
    ·exact zbc v0 C (fun _=>rfl) fun ρ w' A z=>by simp only[execOp];go_simp
    ·exact zbc v3 C (fun _=>rfl) fun ρ w' A z=>by have c0:w'.cell? ⟨T,0,none⟩=some (.slice S L.safe.length R):=(zgk ((A.2.1.block _ F9 (by simpa using G6)).trans C8.o)).1.1;have c1:w'.cell? ⟨T,1,none⟩=some (.slice b L.wr.length U):=(zgk ((A.2.1.block _ F9 (by simpa using G6)).trans C8.o)).1.2;simp only[execOp];go_simp
    ·exact zbc v0 C (fun _=>rfl) fun ρ w' A z=>by simp only[execOp];go_simp
    ·exact zal 3 30 C (fun _ _ h=>h) (fun _=>rfl) fun ρ w' A p=>by simp only[execOp];go_simp
    ·exact zal 4 31 C (fun _ _ h=>h) (fun _=>rfl) fun ρ w' A p=>by simp only[execOp];go_simp
    ·exact zal 5 32 C (fun _ _ h=>h) (fun _=>rfl) fun ρ w' A p=>by have c0:w'.cell? ⟨B,56,none⟩=some (.slice (some ⟨Z,Q,none⟩) n tc):=A.2.2;simp only[execOp];go_simp
    ·intro a w' F A J;have p33:a.eval (.tmp 33)=.slice (some ⟨Z,Q,none⟩) n tc:=J ⟨6,.data⟩ (by simp) rfl;have B6:=C3.o.ext (Ext.butL (A.2.1.wider (Y:=(w.heap.size::X)) (by simp[A1])));have J2:=D5.o;have L4:=I1.o;by_cases E5:tc=1
     ·have L1:n=1:=by omega
      refine zbb (.slice (some ⟨Z,Q,none⟩) 0 0) rfl rfl (by have A4:=Act.eval_const a (.int .i64 1);revert p33 A4;generalize a.eval=ρ;intro p33 A4;simp only[execOp];go_simp) ⟨_,rfl,A,?_,fun _ _ _ h=>h⟩;show zme _ _ _ _ _ _ _ _ _ _ _ _ _ _ ((a.put (some 34) _).eval (.tmp 34)) w';rw[zav F C (by decide)];have G1:r.length=0:=by have:=D1.o;omega
      exact⟨0,_,by rw[G1],by omega,.inl (List.eq_nil_of_length_eq_zero G1)⟩
     ·refine zbb (.slice (some ⟨Z,Q+3,none⟩) (n - 1) (tc - 1)) rfl rfl (by have A4:=Act.eval_const a (.int .i64 1);revert p33 A4;generalize a.eval=ρ;intro p33 A4;simp only[execOp];go_simp) ⟨_,rfl,A,?_,fun _ _ _ h=>h⟩;show zme _ _ _ _ _ _ _ _ _ _ _ _ _ _ ((a.put (some 34) _).eval (.tmp 34)) w';rw[zav F C (by decide)];exact⟨tc - 1,_,by rw[D1.o],by have:=D1.o;omega,B6⟩
    ·exact zal 0 27 C (fun _ _ h=>h) (fun _=>rfl) fun ρ w' A p=>by simp only[execOp];go_simp
    ·exact zal 8 35 C (fun _ _ h=>h) (fun _=>rfl) fun ρ w' A p=>by simp only[execOp];go_simp
    ·intro a w' F A J;have p36:a.eval (.tmp 36)=.pointer (some ⟨B,1,none⟩):=J ⟨9,.data⟩ (by simp) rfl;have p29:a.eval (.tmp 29)=.agg #[.slice S L.safe.length R,.slice b L.wr.length U]:=J ⟨2,.data⟩ (by simp) rfl;obtain⟨⟨d,D9⟩,H2,I2⟩:=A;obtain⟨_,I3,I4,J1,I9,K5,I7,J3,K7,H7,I6,K0,J7,J0,K2,K4,K3,J4,J6,J5,H9,H8,K9,k1,_⟩:=id D9;obtain⟨x1,c1⟩:∃v,w'.cell? ⟨B,1,none⟩=some v:=⟨_,(zak k1 1).trans rfl⟩;obtain⟨x2,c2⟩:∃v,w'.cell? ⟨B,2,none⟩=some v:=⟨_,(zak k1 2).trans rfl⟩;have L3:w'.frozen? ⟨B,1,none⟩=false:=frozen_of_row w' _ _ _ _ k1;have M0:w'.frozen? ⟨B,2,none⟩=false:=frozen_of_row w' _ _ _ _ k1;clear k1;have G5:=H3.o.ext (Ext.butL (H2.wider (Y:=(w.heap.size::X)) (by simp[A1])));refine zcf rfl rfl (w':=((w'.setCell ⟨B,1,none⟩ (.slice S L.safe.length R)).setCell ⟨B,2,none⟩ (.slice b L.wr.length U))) (by revert p36 p29;generalize a.eval=ρ;intro p36 p29;simp only[execOp];go_simp) ⟨_,rfl,⟨⟨_,D9.putDisk G5⟩,?_,?_⟩,?_,ztz (fun a l h=>(h.ext (Ext.setL (by simp[A1]) 1 _)).ext (Ext.setL (by simp[A1]) 2 _))⟩
     ·exact(H2.set (.inl (by simp)) 1 _).set (.inl (by simp)) 2 _
     ·simp[go_sem,I2]
     ·exact D9.putDisk G5
    ·intro a W F A J;have G0:a.eval (.tmp 28)=.pointer (some ⟨B,0,none⟩):=J 1 (by decide);obtain⟨yc,ya,K8,J8,I5⟩:∃c u,a.eval (.tmp 34)=.slice u r.length c∧r.length≤c∧SegSt (zar W (w.heap.size::X)) u r:=J 7 (by decide);have G7:JAt W B (w.heap.size::X) {j with disk:=L}:=J 10 (by decide);obtain⟨_,I3,I4,J1,I9,K5,I7,J3,K7,H7,I6,K0,J7,J0,K2,K4,K3,J4,J6,J5,H9,H8,K9,k1,_⟩:=id G7;obtain⟨L9,M1⟩:∃v,W.cell? ⟨B,56,none⟩=some v:=⟨_,(zak k1 56).trans rfl⟩;have L0:W.frozen? ⟨B,56,none⟩=false:=frozen_of_row W _ _ _ _ k1;clear k1;have B4:a.tmps.size=44:=F.size.trans C;show wpOps prog _ _ [11,12,13] a W;rw[wpOps_cons];refine zbb (.pointer (some ⟨B,0,none⟩)) rfl rfl (by revert G0;generalize a.eval=ρ;intro G0;simp only[execOp];go_simp) ?_;obtain⟨b1,A6⟩:∃b1,b1=a.put (some 37) (.pointer (some ⟨B,0,none⟩)):=⟨_,rfl⟩;have H1:b1.eval (.tmp 37)=.pointer (some ⟨B,0,none⟩):=by rw[A6];exact Act.eval_put_same _ _ _ (by rw[B4];decide)
     have K6:b1.eval (.tmp 34)=.slice ya r.length yc:=by rw[A6,Act.eval_put_ne _ _ _ _ (by decide)];exact K8
     show wpOps prog _ _ [12,13] (a.put (some 37) (.pointer (some ⟨B,0,none⟩))) W;rw[←A6,wpOps_cons];refine zbb (.pointer (some ⟨B,56,none⟩)) rfl rfl (by revert H1;generalize b1.eval=ρ;intro H1;simp only[execOp];go_simp) ?_;obtain⟨b2,D⟩:∃b2,b2=b1.put (some 38) (.pointer (some ⟨B,56,none⟩)):=⟨_,rfl⟩;have E4:b1.tmps.size=44:=by rw[A6,Act.size_put];exact B4
     have F1:b2.eval (.tmp 38)=.pointer (some ⟨B,56,none⟩):=by rw[D];exact Act.eval_put_same _ _ _ (by rw[E4];decide)
     have G3:b2.eval (.tmp 34)=.slice ya r.length yc:=by rw[D,Act.eval_put_ne _ _ _ _ (by decide)];exact K6
     show wpOps prog _ _ [13] (b1.put (some 38) (.pointer (some ⟨B,56,none⟩))) W;rw[←D,wpOps_cons];refine zcf rfl rfl (w':=W.setCell ⟨B,56,none⟩ (.slice ya r.length yc)) (by revert F1 G3;generalize b2.eval=ρ;intro F1 G3;simp only[execOp];go_simp) ?_;have f0:b2.eval (.tmp 0)=.pointer (some ⟨B,0,none⟩):=by rw[D,Act.eval_put_ne _ _ _ _ (by decide),A6,Act.eval_put_ne _ _ _ _ (by decide)];exact(F.other 0 rfl).trans v0
     have f2:b2.eval (.tmp 2)=.pointer (some ⟨w.heap.size,0,none⟩):=by rw[D,Act.eval_put_ne _ _ _ _ (by decide),A6,Act.eval_put_ne _ _ _ _ (by decide)];exact(F.other 2 rfl).trans M
     have y:b2=⟨#[_,_,_,_,_,_,_,_,_,_,_,_,_,_,_,_,_,_,_,_,_,_,_,_,_,_,_,_,_,_,_,_,_,_,_,_,_,_,_,_,_,_,_,_],[]⟩:=zcd b2 44 (by rw[D,Act.size_put];exact E4) (by rw[D,Act.defers_put',A6,Act.defers_put'];exact F.defers.trans E6);dsimp only at y;rw[f0,f2] at y;show E3 b2 _;exact(congrArg (fun x=>E3 x _) y).mpr (C9.o (fun k=>b2.eval (.tmp k)) _ (G7.putSteps I5 J8) (A.2.1.set (.inl (by simp)) 56 _))
   ·have HE:Hid (zi5 j=(j,zas (doneE j.disk s))):=by rw[Hid,zi5,F6.o];simp only[he,if_false]
    have L6:(doneE j.disk s !=0)=true:=by simpa using he
    clear he;generalize doneE j.disk s=E at *;have N:=F4;have K:=D3;have KR:=H0;have A8:=H5;go_wp2_with fail;refine(zat E _).mono ?_;rintro e w2 ⟨rfl,D⟩;have O:=zab (zad D A8 KR.o);have A3:=zab (N.o.below D);have A5:=zab (K.o.trans (Y:=[]) (ButL.of_below D) K.o.size (by simp));clear D;obtain⟨⟨y0,y1,y2⟩,yf⟩:=zbl O.o;go_wp2;exact zbf HE.o O.o A3.o A5.o B1 A1 fun W u0 u1 u2=>by simp[results,results44,go_sem,u0,u1,u2]
  have E7:=zab D8;clear D8 D7;refine(show∀A0:Act,A0=_→Code.wp prog _ _ A0 _ from fun A0 hA0=>?_) _ rfl;have C:A0.tmps.size=44:=by rw[hA0];rfl
  have E6:A0.defers=[]:=by rw[hA0]
  have v0:A0.eval (.tmp 0)=.pointer (some ⟨B,0,none⟩):=by rw[hA0];rfl
  have M:A0.eval (.tmp 2)=.pointer (some ⟨w.heap.size,0,none⟩):=by rw[hA0];rfl
  clear hA0;refine zba 16 (fun w'=>Below I.heap.size I w') [10,11,12,13,14,15,16,17,18,19,20,9,21,22,3,3] (zh5 B I.heap.size j s da dc db dd Z Q tc n) (by kernel_rfl) (by kernel_rfl) (by kernel_rfl) (by kernel_rfl) (by decide) ((Below.refl _ _).drew) ⟨?_,?_,?_,?_,?_,?_,?_,?_,?_,?_,?_,?_,?_,?_,?_,?_,trivial⟩ ?_
  ·exact zbc v0 C (fun _=>rfl) fun ρ w' A z=>by simp only[execOp];go_simp
  ·exact zal 0 10 C (fun _ _ h=>h) (fun _=>rfl) fun ρ w' A p=>by simp only[execOp];go_simp
  ·exact zal 1 11 C (fun _ _ h=>h) (fun _=>rfl) fun ρ w' A p=>by simp only[execOp];go_simp
  ·exact zal 2 12 C (fun _ _ h=>h) (fun _=>rfl) fun ρ w' A p=>by have c0:w'.cell? ⟨B,1,none⟩=some (.slice da j.disk.safe.length dc):=zac A C7 C1.o;have c1:w'.cell? ⟨B,2,none⟩=some (.slice db j.disk.wr.length dd):=zac A C7 C2.o;simp only[execOp];go_simp
  ·exact zbc v0 C (fun _=>rfl) fun ρ w' A z=>by simp only[execOp];go_simp
  ·exact zal 4 14 C (fun _ _ h=>h) (fun _=>rfl) fun ρ w' A p=>by simp only[execOp];go_simp
  ·exact zal 5 15 C (fun _ _ h=>h) (fun _=>rfl) fun ρ w' A p=>by simp only[execOp];go_simp
  ·exact zal 6 16 C (fun _ _ h=>h) (fun _=>rfl) fun ρ w' A p=>by have c0:w'.cell? ⟨B,56,none⟩=some (.slice (some ⟨Z,Q,none⟩) n tc):=zac A C7 E2.o;simp only[execOp];go_simp
  ·intro a w' F A J;have F2:a.eval (.tmp 17)=.slice (some ⟨Z,Q,none⟩) n tc:=J ⟨7,.data⟩ (by simp) rfl;have M2:¬n=0:=by have:=D5.o;omega
   exact zgi _ rfl rfl (by have A4:=Act.eval_const a (.int .i64 0);revert F2 A4;generalize a.eval=ρ;intro F2 A4;simp only[execOp];go_simp) F C A rfl
  ·exact zal 8 18 C (fun _ _ h=>h) (fun _=>rfl) fun ρ w' A p=>by have c0:w'.cell? ⟨Z,Q,none⟩=some (.int .i64 s.1):=zac A D6 S0.o;have c1:w'.cell? ⟨Z,Q+1,none⟩=some (.int .i64 s.2.1):=zac A D6 S1.o;have c2:w'.cell? ⟨Z,Q+2,none⟩=some (.string s.2.2):=zac A D6 S2.o;simp only[execOp];go_simp
  ·intro a w' F A J;have G4:a.eval (.tmp 13)=.agg #[.slice da j.disk.safe.length dc,.slice db j.disk.wr.length dd]:=J ⟨3,.data⟩ (by simp) rfl;have F8:a.eval (.tmp 19)=.agg #[.int .i64 s.1,.int .i64 s.2.1,.string s.2.2]:=J ⟨9,.data⟩ (by simp) rfl;refine zbp 73 #[.agg #[.slice da j.disk.safe.length dc,.slice db j.disk.wr.length dd],.agg #[.int .i64 s.1,.int .i64 s.2.1,.string s.2.2]] rfl rfl (by have pf:=Act.eval_func a 73;revert G4 F8 pf;generalize a.eval=ρ;intro G4 F8 pf;simp only[execOp];go_simp) _ (z2c (.agg #[.slice da j.disk.safe.length dc,.slice db j.disk.wr.length dd]) j.disk s _ (G9.o.below A)) ?_;rintro e w2 ⟨M,rfl,I8,D,J9⟩;refine⟨_,rfl,_,rfl,zae A D,?_,zki D⟩;show zh5 _ _ _ _ _ _ _ _ _ _ _ _ _ ((a.put (some 20) _).eval (.tmp 20)) w2;rw[zav F C (by decide)];exact⟨M,rfl,I8,J9.imp id (fun h=>h.lower A.size)⟩
  ·intro a w' F A J;obtain⟨M,pc,ok⟩:∃M,a.eval (.tmp 20)=.tuple #[M,.int .i64 (doneE j.disk s)]∧okD I.heap.size (.agg #[.slice da j.disk.safe.length dc,.slice db j.disk.wr.length dd]) (zbi j.disk s) M w':=J ⟨10,.data⟩ (by simp) rfl;refine zbb (.tuple #[M,.int .i64 (doneE j.disk s)]) rfl rfl (by revert pc;generalize a.eval=ρ;intro pc;simp only[execOp];go_simp) ⟨_,rfl,A,?_,fun _ _ _ h=>h⟩;show zh5 _ _ _ _ _ _ _ _ _ _ _ _ _ ((a.put (some 9) _).eval (.tmp 9)) w';rw[zav F C (by decide)];exact⟨M,rfl,ok⟩
  ·intro a w' F A J;obtain⟨M,pm,ok⟩:∃M,a.eval (.tmp 9)=.tuple #[M,.int .i64 (doneE j.disk s)]∧okD I.heap.size (.agg #[.slice da j.disk.safe.length dc,.slice db j.disk.wr.length dd]) (zbi j.disk s) M w':=J ⟨11,.data⟩ (by simp) rfl;refine zbb (M) rfl rfl (by revert pm;generalize a.eval=ρ;intro pm;simp only[execOp];go_simp) ⟨_,rfl,A,?_,fun _ _ _ h=>h⟩;show zh5 _ _ _ _ _ _ _ _ _ _ _ _ _ ((a.put (some 21) _).eval (.tmp 21)) w';rw[zav F C (by decide)];exact ok
  ·intro a w' F A J;obtain⟨M,pm,ok⟩:∃M,a.eval (.tmp 9)=.tuple #[M,.int .i64 (doneE j.disk s)]∧okD I.heap.size (.agg #[.slice da j.disk.safe.length dc,.slice db j.disk.wr.length dd]) (zbi j.disk s) M w':=J ⟨11,.data⟩ (by simp) rfl;exact zgi _ rfl rfl (by revert pm;generalize a.eval=ρ;intro pm;simp only[execOp];go_simp) F C A rfl
  ·intro a w' F A J;refine zfj (.pointer (some ⟨w'.heap.size,0,none⟩)) rfl rfl (w':=w'.alloc (.cells #[.slice none 0 0,.slice none 0 0] 46)) (by simp only[execOp];go_simp) ⟨_,rfl,A.alloc A.size _,?_,zki (zaa _ _)⟩;show zh5 _ _ _ _ _ _ _ _ _ _ _ _ _ ((a.put (some 3) _).eval (.tmp 3)) _;rw[zav F C (by decide)];exact⟨_,_,_,_,_,_,_,rfl,A.size,heap_alloc_new _ _⟩
  ·intro a w' F A J;obtain⟨T,a1,n1,c1,u,n2,c2,pT,B0,m⟩:∃(T:Nat) (a1:Option Addr) (n1 c1:Nat) (u:Option Addr) (n2 c2:Nat),a.eval (.tmp 3)=.pointer (some ⟨T,0,none⟩)∧I.heap.size≤T∧w'.heap[T]?=some (.cells #[.slice a1 n1 c1,.slice u n2 c2] 46 (0,0)):=J ⟨14,.data⟩ (by simp) rfl;have ok:okD I.heap.size (.agg #[.slice da j.disk.safe.length dc,.slice db j.disk.wr.length dd]) (zbi j.disk s) (a.eval (.tmp 21)) w':=J ⟨12,.data⟩ (by simp) rfl;obtain⟨S,R,b,U,hv,_⟩:=id ok.1;rw[hv] at ok;obtain⟨⟨t0,t1⟩,tf⟩:=zgk m;refine zcf rfl rfl (w':=((w'.setCell ⟨T,0,none⟩ (.slice S (zbi j.disk s).safe.length R)).setCell ⟨T,1,none⟩ (.slice b (zbi j.disk s).wr.length U))) (by revert pT hv;generalize a.eval=ρ;intro pT hv;simp only[execOp];go_simp) ⟨_,rfl,?_,?_,zrw m _ _ _ _ _ _⟩
   ·exact(A.setCell (p:=⟨T,0,none⟩) B0 _).setCell (p:=⟨T,1,none⟩) B0 _
   ·show zh5 _ _ _ _ _ _ _ _ _ _ _ _ _ (a.eval (.tmp 3)) _;exact⟨T,S,R,b,U,pT,B0,zjj m _ _,ok.store m _ _ _ _ _ _⟩
  ·intro a W F A J;obtain⟨T,S,R,b,U,pT,B0,m,ok⟩:∃(T:Nat) (S:Option Addr) (R:Nat) (b:Option Addr) (U:Nat),a.eval (.tmp 3)=.pointer (some ⟨T,0,none⟩)∧I.heap.size≤T∧W.heap[T]?=some (.cells #[.slice S (zbi j.disk s).safe.length R,.slice b (zbi j.disk s).wr.length U] 46 (0,0))∧okD I.heap.size (.agg #[.slice da j.disk.safe.length dc,.slice db j.disk.wr.length dd]) (zbi j.disk s) (.agg #[.slice S (zbi j.disk s).safe.length R,.slice b (zbi j.disk s).wr.length U]) W:=J 15 (by decide);have pE:a.eval (.tmp 22)=.int .i64 (doneE j.disk s):=J 13 (by decide);show wpOps prog _ _ [16] a W;rw[wpOps_cons];refine zbb (.int .i64 (doneE j.disk s)) rfl rfl (by revert pE;generalize a.eval=ρ;intro pE;simp only[execOp];go_simp) ?_;have B4:a.tmps.size=44:=F.size.trans C;obtain⟨u,A7⟩:∃u,u=a.put (some 4) (.int .i64 (doneE j.disk s)):=⟨_,rfl⟩;have f4:u.eval (.tmp 4)=.int .i64 (doneE j.disk s):=by rw[A7];exact Act.eval_put_same _ _ _ (by rw[B4];decide)
   have f0:u.eval (.tmp 0)=.pointer (some ⟨B,0,none⟩):=by rw[A7,Act.eval_put_ne _ _ _ _ (by decide)];exact(F.other 0 rfl).trans v0
   have f2:u.eval (.tmp 2)=.pointer (some ⟨w.heap.size,0,none⟩):=by rw[A7,Act.eval_put_ne _ _ _ _ (by decide)];exact(F.other 2 rfl).trans M
   have f3:u.eval (.tmp 3)=.pointer (some ⟨T,0,none⟩):=by rw[A7,Act.eval_put_ne _ _ _ _ (by decide)];exact pT
   have y:u=⟨#[_,_,_,_,_,_,_,_,_,_,_,_,_,_,_,_,_,_,_,_,_,_,_,_,_,_,_,_,_,_,_,_,_,_,_,_,_,_,_,_,_,_,_,_],[]⟩:=zcd u 44 (by rw[A7,Act.size_put];exact B4) (by rw[A7,Act.defers_put'];exact F.defers.trans E6);dsimp only at y;rw[f0,f2,f3,f4] at y;show KK (a.put (some 4) (.int .i64 (doneE j.disk s))) _;rw[←A7];exact(congrArg (fun x=>KK x _) y).mpr (E7.o (fun k=>u.eval (.tmp k)) _ T S R b U B0 m ok A)
open Go.RowKit
structure Ready (j:Jn):Prop where
 done:j.done.length≤900
 found:j.fL.length≤maxLen
 next:IntKind.i64.wrap (j.fN - 1)=j.fN - 1
 seq:IntKind.i64.wrap (j.now.seq+1)=j.now.seq+1
 last:IntKind.i64.wrap (j.last+1)=j.last+1
 info:j.now.info.length*24≤140737488355328
 data:j.now.data.length*24≤140737488355328
 few:j.down=true→j.steps=[]→∀t∈fndL j.disk,Few t
 used0:0≤j.ru
 used1:j.ru≤24
 acts0:0≤j.acts
 acts1:j.acts≤400
def zn4 (B:Nat)(D:Nat)(j:Jn)(X:List Nat)(na:Option Addr)(nc:Nat)(nb:Option Addr)(nd:Nat)(ne:Option Addr)(nf:Nat)(ah:Int)(an:Int):Nat→Value→World→Prop
 |0,v,_=>v=.pointer (some ⟨B,0,none⟩)
 |1,v,_=>v=.pointer (some ⟨B,0,none⟩)
 |2,v,_=>v=.pointer (some ⟨B,0,none⟩)
 |3,v,_=>v=.pointer (some ⟨B,31,none⟩)
 |4,v,_=>v=.agg #[.int .i64 j.now.seq,.slice na j.now.info.length nc,.slice nb j.now.data.length nd,.slice ne j.now.rev.length nf,.bool j.now.h0.on,.int .i64 j.now.h0.left,.bool j.now.h1.on,.int .i64 j.now.h1.left,.bool j.now.h2.on,.int .i64 j.now.h2.left]
 |5,v,_=>v=.pointer (some ⟨D,1,none⟩)
 |6,v,_=>v=.int .i64 ah
 |7,v,_=>v=.pointer (some ⟨D,3,none⟩)
 |8,v,_=>v=.int .i64 an
 |9,v,_=>v=.pointer (some ⟨B,0,none⟩)
 |10,v,_=>v=.pointer (some ⟨B,0,none⟩)
 |11,v,_=>v=.pointer (some ⟨B,3,none⟩)
 |12,v,_=>v=.agg #[.int .i64 j.rh,.int .i64 j.ru]
 |13,v,_=>v=.int .i64 (24 - j.ru)
 |14,v,w=>∃v2,v=.tuple #[v2,.int .i64 (zbe j.now ah an (24 - j.ru))]∧okTx X (zau j.now ah an (24 - j.ru)) v2 undef w
 |15,v,w=>okTx X (zau j.now ah an (24 - j.ru)) v undef w
 |16,v,_=>v=.int .i64 (zbe j.now ah an (24 - j.ru))
 |_,_,_=>True
theorem zkj {B:Nat}{D:Nat}{j:Jn}{X:List Nat}{na:Option Addr}{nc:Nat}{nb:Option Addr}{nd:Nat}{ne:Option Addr}{nf:Nat}{ah:Int}{an:Int}{w w':World}(hb:Below w.heap.size w w'){i:Nat}:∀kk uu,kk≠i→zn4 B D j X na nc nb nd ne nf ah an kk uu w→zn4 B D j X na nc nb nd ne nf ah an kk uu w':=by
 intro kk uu _ h
 match kk,h with
 |0,h|1,h|2,h|3,h|4,h|5,h|6,h|7,h|8,h|9,h|10,h|11,h|12,h|13,h=>exact h
 |14,⟨v2,h1,h2⟩=>exact⟨v2,h1,h2.below hb⟩
 |15,h=>exact h.below hb
 |16,h=>exact h
 |_+17,_=>exact trivial
def zmh (B:Nat)(D:Nat)(j:Jn)(X:List Nat)(na:Option Addr)(nc:Nat)(nb:Option Addr)(nd:Nat)(ne:Option Addr)(nf:Nat)(ah:Int):Nat→Value→World→Prop
 |0,v,_=>v=.pointer (some ⟨B,0,none⟩)
 |1,v,_=>v=.pointer (some ⟨B,0,none⟩)
 |2,v,_=>v=.pointer (some ⟨B,0,none⟩)
 |3,v,_=>v=.pointer (some ⟨B,31,none⟩)
 |4,v,_=>v=.agg #[.int .i64 j.now.seq,.slice na j.now.info.length nc,.slice nb j.now.data.length nd,.slice ne j.now.rev.length nf,.bool j.now.h0.on,.int .i64 j.now.h0.left,.bool j.now.h1.on,.int .i64 j.now.h1.left,.bool j.now.h2.on,.int .i64 j.now.h2.left]
 |5,v,_=>v=.pointer (some ⟨D,1,none⟩)
 |6,v,_=>v=.int .i64 ah
 |7,v,w=>∃v2,v=.tuple #[v2,.int .i64 (zc7 j.now ah)]∧okTx X (zb4 j.now ah) v2 undef w
 |8,v,w=>okTx X (zb4 j.now ah) v undef w
 |9,v,_=>v=.int .i64 (zc7 j.now ah)
 |_,_,_=>True
theorem zpk {B:Nat}{D:Nat}{j:Jn}{X:List Nat}{na:Option Addr}{nc:Nat}{nb:Option Addr}{nd:Nat}{ne:Option Addr}{nf:Nat}{ah:Int}{w w':World}(hb:Below w.heap.size w w'){i:Nat}:∀kk uu,kk≠i→zmh B D j X na nc nb nd ne nf ah kk uu w→zmh B D j X na nc nb nd ne nf ah kk uu w':=by
 intro kk uu _ h
 match kk,h with
 |0,h|1,h|2,h|3,h|4,h|5,h|6,h=>exact h
 |7,⟨v2,h1,h2⟩=>exact⟨v2,h1,h2.below hb⟩
 |8,h=>exact h.below hb
 |9,h=>exact h
 |_+10,_=>exact trivial
theorem z0v (B:Nat)(X:List Nat)(j:Jn)(w:World)(h:JAt w B X j)(hX:∀x∈X,x<w.heap.size)(hK:Ready j)(ah ab an:Int)(at0:ByteArray)(ht:at0.size≤maxLen):
  Calls prog 47 #[.pointer (some ⟨B,0,none⟩),.agg #[.int .i64 1,.int .i64 ah,.int .i64 ab,.int .i64 an,.string at0]] w (zdf w B X (za3 j ⟨1,ah,ab,an,at0⟩)):=by
 have HJ:=zab h;have F0:=h.lt;have C7:=h.1;have HX:=zab hX;have D8:=zab hK.used0;have D2:=zab hK.used1;have C5:=zab hK.info;have D4:=zab hK.data;have E8:=zab hK.seq;have E7:=zab hK.last;have F1:=zab ht;have E5:Hid (j.done.length≤maxLen):=Nat.le_trans hK.done (by unfold maxLen;omega);clear h hX hK ht;have E6:¬w.heap.size=B:=by omega
 have E4:¬w.heap.size+1=B:=by omega
 have E1:Hid (za3 j ⟨1,ah,ab,an,at0⟩=zmt j (zau j.now ah an (24 - j.ru)) (zbe j.now ah an (24 - j.ru))):=by rw[Hid,za3];simp[]
 obtain⟨P,y⟩:∃P,P=zmt j (zau j.now ah an (24 - j.ru)) (zbe j.now ah an (24 - j.ru)):=⟨_,rfl⟩;have HE:Hid (za3 j ⟨1,ah,ab,an,at0⟩=(P.1,P.2)):=by rw[Hid,E1.o,←y]
 have D1:=zab y;clear y;go_enter func47,ntmps47;go_wp2;obtain⟨C,O⟩:∃C,C=(w.alloc (.cells #[.int .i64 1,.int .i64 ah,.int .i64 ab,.int .i64 an,.string at0] 23)).alloc (.cells #[.int .i64 0,.int .i64 0,.string ⟨#[]⟩] 31):=⟨_,rfl⟩;have A7:(w.alloc (.cells #[.int .i64 1,.int .i64 ah,.int .i64 ab,.int .i64 an,.string at0] 23)).heap.size=w.heap.size+1:=by simp
 have A6:Below w.heap.size w C:=by rw[O];exact zae (zaa _ _) (zaa _ _)
 have A4:Hid (JAt C B ((w.heap.size+1)::X) j):=HJ.o.more A6 (by omega);have A5:Hid (ButL [B] w.heap.size w C):=ButL.of_below A6;have KR:Hid (C.heap[w.heap.size+1]?=some (.cells #[.int .i64 0,.int .i64 0,.string ⟨#[]⟩] 31 (0,0))):=by rw[O,←A7];exact heap_alloc_new _ _
 have KA:Hid (C.heap[w.heap.size]?=some (.cells #[.int .i64 1,.int .i64 ah,.int .i64 ab,.int .i64 an,.string at0] 23 (0,0))):=by rw[O];exact zad (zaa _ _) (by omega) (heap_alloc_new _ _)
 have E9:C.heap.size=w.heap.size+2:=by rw[O];simp
 have B5:w.heap.size+1<C.heap.size:=by omega
 have B6:w.heap.size+1≠B:=by omega
 have B7:Hid (∀x∈((w.heap.size+1)::X),x<C.heap.size):=fun x hx=>by
  rcases List.mem_cons.1 hx with rfl|hx
  ·exact B5
  ·have:=HX.o x hx;omega
 rw[←O];clear O A7;rename_i KK q;obtain⟨_,da,dc,db,dd,c,i,m,l,ne,d,sa,sc,sb,sd,se,sf,ca,cc,fa,fc,ta,tc,I,hr⟩:=id A4.o;have C3:Hid (C.cell? ⟨B,3,none⟩=some (.int .i64 j.rh)):=zak I 3;have C4:Hid (C.cell? ⟨B,4,none⟩=some (.int .i64 j.ru)):=zak I 4;have B9:Hid (C.cell? ⟨B,31,none⟩=some (.int .i64 j.now.seq)):=zak I 31;have B8:Hid (C.cell? ⟨B,32,none⟩=some (.slice c j.now.info.length i)):=zak I 32;have C0:Hid (C.cell? ⟨B,33,none⟩=some (.slice m j.now.data.length l)):=zak I 33;have D6:Hid (C.cell? ⟨B,34,none⟩=some (.slice ne j.now.rev.length d)):=zak I 34;have D3:Hid (C.cell? ⟨B,35,none⟩=some (.bool j.now.h0.on)):=zak I 35;have C1:Hid (C.cell? ⟨B,36,none⟩=some (.int .i64 j.now.h0.left)):=zak I 36;have E0:Hid (C.cell? ⟨B,37,none⟩=some (.bool j.now.h1.on)):=zak I 37;have C9:Hid (C.cell? ⟨B,38,none⟩=some (.int .i64 j.now.h1.left)):=zak I 38;have D5:Hid (C.cell? ⟨B,39,none⟩=some (.bool j.now.h2.on)):=zak I 39;have E2:Hid (C.cell? ⟨B,40,none⟩=some (.int .i64 j.now.h2.left)):=zak I 40;have B1:Hid (IsTx (zar C ((w.heap.size+1)::X)) (.agg #[.int .i64 j.now.seq,.slice c j.now.info.length i,.slice m j.now.data.length l,.slice ne j.now.rev.length d,.bool j.now.h0.on,.int .i64 j.now.h0.left,.bool j.now.h1.on,.int .i64 j.now.h1.left,.bool j.now.h2.on,.int .i64 j.now.h2.left]) j.now):=hr.2.1;have C2:=zab hr.2.2.2.2.2.2.1;clear I hr;obtain⟨⟨z0,z1,z2,z3,z4⟩,_⟩:=zhy KA.o;have A1:=zab z1;have A3:=zab z3;clear z0 z1 z2 z3 z4;have E:B<C.heap.size:=by omega
 have B3:w.heap.size<C.heap.size:=by omega
 have r:∀(g:Nat→Value) (W3 M:World),zmt j (zau j.now ah an (24 - j.ru)) (zbe j.now ah an (24 - j.ru))=P→W3=(((M.setCell ⟨(w.heap.size+1),0,none⟩ (.int .i64 P.2.code)).setCell ⟨(w.heap.size+1),1,none⟩ (.int .i64 P.2.n)).setCell ⟨(w.heap.size+1),2,none⟩ (.string P.2.text))→M.heap[w.heap.size+1]?=some (.cells #[.int .i64 0,.int .i64 0,.string ⟨#[]⟩] 31 (0,0))→JAt M B ((w.heap.size+1)::X) P.1→ButL [B] w.heap.size w M→KK ⟨#[.pointer (some ⟨B,0,none⟩),g 1,g 2,.pointer (some ⟨w.heap.size,0,none⟩),.pointer (some ⟨w.heap.size+1,0,none⟩),g 5,g 6,g 7,g 8,g 9,g 10,g 11,g 12,g 13,g 14,g 15,g 16,g 17,g 18,g 19,g 20,g 21,g 22,g 23,g 24,g 25,g 26,g 27,g 28,g 29,g 30,g 31,g 32,g 33,g 34,g 35,g 36,g 37,g 38,g 39,g 40,g 41,g 42,g 43,g 44,g 45,g 46,g 47,g 48,g 49,g 50,g 51,g 52,g 53,g 54,g 55,g 56,g 57,g 58,g 59,g 60,g 61,g 62,g 63,g 64,g 65,g 66],[]⟩ W3:=by
  intro g W3 M _ hW Z b U;apply q;clear q;have hX:=zf9 Z (.int .i64 P.2.code) (.int .i64 P.2.n) (.string P.2.text);rw[←hW] at hX;obtain⟨⟨u0,u1,u2⟩,_⟩:=zbl hX;have HW:=zab hW;clear hW hX;go_wp2;refine bodyPost_ret (v:=.agg #[.int .i64 P.2.code,.int .i64 P.2.n,.string P.2.text]) (by simp[results,results47,go_sem,u0,u1,u2]) rfl ⟨by rw[HE.o];rfl,?_,?_⟩
  ·rw[HE.o,HW.o];exact zw0 b B6 C7 _ _ _
  ·rw[HW.o];exact((U.set (.inr (by omega)) 0 _).set (.inr (by omega)) 1 _).set (.inr (by omega)) 2 _
 have A2:=zab r;clear r q;refine(show∀A0:Act,A0=_→Code.wp prog _ _ A0 _ from fun A0 hA0=>?_) _ rfl;have D:A0.tmps.size=67:=by rw[hA0];rfl
 have E3:A0.defers=[]:=by rw[hA0]
 have v0:A0.eval (.tmp 0)=.pointer (some ⟨B,0,none⟩):=by rw[hA0];rfl
 have v3:A0.eval (.tmp 3)=.pointer (some ⟨w.heap.size,0,none⟩):=by rw[hA0];rfl
 have v4:A0.eval (.tmp 4)=.pointer (some ⟨w.heap.size+1,0,none⟩):=by rw[hA0];rfl
 clear hA0;refine zba 17 (fun w'=>Below C.heap.size C w') [13,14,15,16,17,18,19,20,21,22,23,24,25,26,27,28,29] (zn4 B w.heap.size j ((w.heap.size+1)::X) c i m l ne d ah an) (by kernel_rfl) (by kernel_rfl) (by kernel_rfl) (by kernel_rfl) (by decide) ((Below.refl _ _).drew) ⟨?_,?_,?_,?_,?_,?_,?_,?_,?_,?_,?_,?_,?_,?_,?_,?_,?_,trivial⟩ ?_
 ·exact zbc v0 D (fun _=>rfl) fun ρ w' A z=>by simp only[execOp];go_simp
 ·exact zbc v0 D (fun _=>rfl) fun ρ w' A z=>by simp only[execOp];go_simp
 ·exact zal 1 14 D (fun _ _ h=>h) (fun _=>rfl) fun ρ w' A p=>by simp only[execOp];go_simp
 ·exact zal 2 15 D (fun _ _ h=>h) (fun _=>rfl) fun ρ w' A p=>by simp only[execOp];go_simp
 ·exact zal 3 16 D (fun _ _ h=>h) (fun _=>rfl) fun ρ w' A p=>by have c0:w'.cell? ⟨B,31,none⟩=some (.int .i64 j.now.seq):=zac A E B9.o;have c1:w'.cell? ⟨B,32,none⟩=some (.slice c j.now.info.length i):=zac A E B8.o;have c2:w'.cell? ⟨B,33,none⟩=some (.slice m j.now.data.length l):=zac A E C0.o;have c3:w'.cell? ⟨B,34,none⟩=some (.slice ne j.now.rev.length d):=zac A E D6.o;have c4:w'.cell? ⟨B,35,none⟩=some (.bool j.now.h0.on):=zac A E D3.o;have c5:w'.cell? ⟨B,36,none⟩=some (.int .i64 j.now.h0.left):=zac A E C1.o;have c6:w'.cell? ⟨B,37,none⟩=some (.bool j.now.h1.on):=zac A E E0.o;have c7:w'.cell? ⟨B,38,none⟩=some (.int .i64 j.now.h1.left):=zac A E C9.o;have c8:w'.cell? ⟨B,39,none⟩=some (.bool j.now.h2.on):=zac A E D5.o;have c9:w'.cell? ⟨B,40,none⟩=some (.int .i64 j.now.h2.left):=zac A E E2.o;simp only[execOp];go_simp
 ·exact zbc v3 D (fun _=>rfl) fun ρ w' A z=>by simp only[execOp];go_simp
 ·exact zal 5 18 D (fun _ _ h=>h) (fun _=>rfl) fun ρ w' A p=>by have c0:w'.cell? ⟨w.heap.size,1,none⟩=some (.int .i64 ah):=zac A B3 A1.o;simp only[execOp];go_simp
 ·exact zbc v3 D (fun _=>rfl) fun ρ w' A z=>by simp only[execOp];go_simp
 ·exact zal 7 20 D (fun _ _ h=>h) (fun _=>rfl) fun ρ w' A p=>by have c0:w'.cell? ⟨w.heap.size,3,none⟩=some (.int .i64 an):=zac A B3 A3.o;simp only[execOp];go_simp
 ·exact zbc v0 D (fun _=>rfl) fun ρ w' A z=>by simp only[execOp];go_simp
 ·exact zal 9 22 D (fun _ _ h=>h) (fun _=>rfl) fun ρ w' A p=>by simp only[execOp];go_simp
 ·exact zal 10 23 D (fun _ _ h=>h) (fun _=>rfl) fun ρ w' A p=>by simp only[execOp];go_simp
 ·exact zal 11 24 D (fun _ _ h=>h) (fun _=>rfl) fun ρ w' A p=>by have c0:w'.cell? ⟨B,3,none⟩=some (.int .i64 j.rh):=zac A E C3.o;have c1:w'.cell? ⟨B,4,none⟩=some (.int .i64 j.ru):=zac A E C4.o;simp only[execOp];go_simp
 ·intro a w' J A F;have p25:a.eval (.tmp 25)=.agg #[.int .i64 j.rh,.int .i64 j.ru]:=F ⟨12,.data⟩ (by simp) rfl;refine zbp 34 #[.agg #[.int .i64 j.rh,.int .i64 j.ru]] rfl rfl (by have R:=Act.eval_func a 34;revert p25 R;generalize a.eval=ρ;intro p25 R;simp only[execOp];go_simp) _ (zj8 j.rh j.ru _ D8.o D2.o) ?_;rintro e w2 ⟨rfl,Q⟩;refine⟨_,rfl,_,rfl,zae A Q,?_,zkj Q⟩;show zn4 _ _ _ _ _ _ _ _ _ _ _ _ _ ((a.put (some 26) _).eval (.tmp 26)) w2;rw[zav J D (by decide)];exact rfl
 ·intro a w' J A F;have A8:a.eval (.tmp 17)=.agg #[.int .i64 j.now.seq,.slice c j.now.info.length i,.slice m j.now.data.length l,.slice ne j.now.rev.length d,.bool j.now.h0.on,.int .i64 j.now.h0.left,.bool j.now.h1.on,.int .i64 j.now.h1.left,.bool j.now.h2.on,.int .i64 j.now.h2.left]:=F ⟨4,.data⟩ (by simp) rfl;have B2:a.eval (.tmp 19)=.int .i64 ah:=F ⟨6,.data⟩ (by simp) rfl;have B4:a.eval (.tmp 21)=.int .i64 an:=F ⟨8,.data⟩ (by simp) rfl;have p26:a.eval (.tmp 26)=.int .i64 (24 - j.ru):=F ⟨13,.data⟩ (by simp) rfl;refine zbp 80 #[.agg #[.int .i64 j.now.seq,.slice c j.now.info.length i,.slice m j.now.data.length l,.slice ne j.now.rev.length d,.bool j.now.h0.on,.int .i64 j.now.h0.left,.bool j.now.h1.on,.int .i64 j.now.h1.left,.bool j.now.h2.on,.int .i64 j.now.h2.left],.int .i64 ah,.int .i64 an,.int .i64 (24 - j.ru)] rfl rfl (by have R:=Act.eval_func a 80;revert A8 B2 B4 p26 R;generalize a.eval=ρ;intro A8 B2 B4 p26 R;simp only[execOp];go_simp) _ (ztk _ j.now ah an (24 - j.ru) _ ((B1.o.ext (Ext.seenL C _)).below A) C5.o D4.o) ?_;rintro e w2 ⟨N,rfl,C8,Q,D7⟩;refine⟨_,rfl,_,rfl,zae A Q,?_,zkj Q⟩;show zn4 _ _ _ _ _ _ _ _ _ _ _ _ _ ((a.put (some 27) _).eval (.tmp 27)) w2;rw[zav J D (by decide)];exact⟨N,rfl,okTx.made B7.o B1.o C2.o ⟨A,.inl rfl⟩ C8 Q D7⟩
 ·intro a w' J A F;obtain⟨N,s,ok⟩:∃N,a.eval (.tmp 27)=.tuple #[N,.int .i64 (zbe j.now ah an (24 - j.ru))]∧okTx ((w.heap.size+1)::X) (zau j.now ah an (24 - j.ru)) N undef w':=F ⟨14,.data⟩ (by simp) rfl;refine zbb (N) rfl rfl (by revert s;generalize a.eval=ρ;intro s;simp only[execOp];go_simp) ⟨_,rfl,A,?_,fun _ _ _ h=>h⟩;show zn4 _ _ _ _ _ _ _ _ _ _ _ _ _ ((a.put (some 28) _).eval (.tmp 28)) w';rw[zav J D (by decide)];exact ok
 ·intro a w' J A F;obtain⟨N,s,ok⟩:∃N,a.eval (.tmp 27)=.tuple #[N,.int .i64 (zbe j.now ah an (24 - j.ru))]∧okTx ((w.heap.size+1)::X) (zau j.now ah an (24 - j.ru)) N undef w':=F ⟨14,.data⟩ (by simp) rfl;exact zgi _ rfl rfl (by revert s;generalize a.eval=ρ;intro s;simp only[execOp];go_simp) J D A rfl
 ·intro a W J A F;have ok:okTx ((w.heap.size+1)::X) (zau j.now ah an (24 - j.ru)) (a.eval (.tmp 28)) undef W:=F 15 (by decide);have pE:a.eval (.tmp 29)=.int .i64 (zbe j.now ah an (24 - j.ru)):=F 16 (by decide);have pB:a.eval (.tmp 13)=.pointer (some ⟨B,0,none⟩):=F 0 (by decide);have B0:a.tmps.size=67:=J.size.trans D;have D9:=A4.o.below A;obtain⟨u,A9,_⟩:=ok;obtain⟨ua,uc,ub,ud,ue,uf,hv,_⟩:=id u;rw[hv] at u A9;show wpOps prog _ _ [17,18] a W;rw[wpOps_cons];refine zbp 79 #[.pointer (some ⟨B,0,none⟩),.agg #[.int .i64 (zau j.now ah an (24 - j.ru)).seq,.slice ua (zau j.now ah an (24 - j.ru)).info.length uc,.slice ub (zau j.now ah an (24 - j.ru)).data.length ud,.slice ue (zau j.now ah an (24 - j.ru)).rev.length uf,.bool (zau j.now ah an (24 - j.ru)).h0.on,.int .i64 (zau j.now ah an (24 - j.ru)).h0.left,.bool (zau j.now ah an (24 - j.ru)).h1.on,.int .i64 (zau j.now ah an (24 - j.ru)).h1.left,.bool (zau j.now ah an (24 - j.ru)).h2.on,.int .i64 (zau j.now ah an (24 - j.ru)).h2.left],.int .i64 (zbe j.now ah an (24 - j.ru))] rfl rfl (by have R:=Act.eval_func a 79;revert hv pE pB R;generalize a.eval=ρ;intro hv pE pB R;simp only[execOp];go_simp) _ (zje B ((w.heap.size+1)::X) j W D9 (zau j.now ah an (24 - j.ru)) ua uc ub ud ue uf u A9 (zbe j.now ah an (24 - j.ru))) ?_;rintro e M ⟨rfl,b,U⟩;refine⟨_,rfl,?_⟩;obtain⟨P0,hP⟩:∃P0,P0=zmt j (zau j.now ah an (24 - j.ru)) (zbe j.now ah an (24 - j.ru)):=⟨_,rfl⟩;rw[←hP] at b⊢;have C6:P=P0:=D1.o.trans hP.symm;subst C6;obtain⟨K,L⟩:∃K,K=a.put (some 30) (vRp P.2):=⟨_,rfl⟩;have rr:K.eval (.tmp 30)=.agg #[.int .i64 P.2.code,.int .i64 P.2.n,.string P.2.text]:=by rw[L];exact Act.eval_put_same _ _ _ (by rw[B0];decide)
  have r4:K.eval (.tmp 4)=.pointer (some ⟨w.heap.size+1,0,none⟩):=by rw[L,Act.eval_put_ne _ _ _ _ (by decide)];exact(J.other 4 rfl).trans v4
  have r0:K.eval (.tmp 0)=.pointer (some ⟨B,0,none⟩):=by rw[L,Act.eval_put_ne _ _ _ _ (by decide)];exact(J.other 0 rfl).trans v0
  have r3:K.eval (.tmp 3)=.pointer (some ⟨w.heap.size,0,none⟩):=by rw[L,Act.eval_put_ne _ _ _ _ (by decide)];exact(J.other 3 rfl).trans v3
  have Z:M.heap[w.heap.size+1]?=some (.cells #[.int .i64 0,.int .i64 0,.string ⟨#[]⟩] 31 (0,0)):=(U.block _ (by have:=A.size;omega) (by simpa using B6)).trans (zad A B5 KR.o);obtain⟨⟨y0,y1,y2⟩,yf⟩:=zbl Z;show wpOps prog _ _ [18] (a.put (some 30) (vRp P.2)) M;rw[←L,wpOps_cons];refine zcf rfl rfl (w':=(((M.setCell ⟨(w.heap.size+1),0,none⟩ (.int .i64 P.2.code)).setCell ⟨(w.heap.size+1),1,none⟩ (.int .i64 P.2.n)).setCell ⟨(w.heap.size+1),2,none⟩ (.string P.2.text))) (by revert rr r4;generalize K.eval=ρ;intro rr r4;simp only[execOp];go_simp) ?_;have S:K=⟨#[_,_,_,_,_,_,_,_,_,_,_,_,_,_,_,_,_,_,_,_,_,_,_,_,_,_,_,_,_,_,_,_,_,_,_,_,_,_,_,_,_,_,_,_,_,_,_,_,_,_,_,_,_,_,_,_,_,_,_,_,_,_,_,_,_,_,_],[]⟩:=zcd K 67 (by rw[L,Act.size_put];exact B0) (by rw[L,Act.defers_put'];exact J.defers.trans E3);dsimp only at S;rw[r0,r3,r4] at S;show KK K _;exact(congrArg (fun x=>KK x _) S).mpr (A2.o (fun k=>K.eval (.tmp k)) _ M hP.symm rfl Z b (A5.o.trans (Y:=[B]) ((ButL.of_below A).trans U A.size (by simp)) A5.o.size (by simp)))
theorem z0w (B:Nat)(X:List Nat)(j:Jn)(w:World)(h:JAt w B X j)(hX:∀x∈X,x<w.heap.size)(hK:Ready j)(ah ab an:Int)(at0:ByteArray)(ht:at0.size≤maxLen):
  Calls prog 47 #[.pointer (some ⟨B,0,none⟩),.agg #[.int .i64 5,.int .i64 ah,.int .i64 ab,.int .i64 an,.string at0]] w (zdf w B X (za3 j ⟨5,ah,ab,an,at0⟩)):=by
 have HJ:=zab h;have E4:=h.lt;have C0:=h.1;have HX:=zab hX;have E2:=zab hK.used0;have E1:=zab hK.used1;have B8:=zab hK.info;have C6:=zab hK.data;have E0:=zab hK.seq;have D9:=zab hK.last;have E5:=zab ht;have D7:Hid (j.done.length≤maxLen):=Nat.le_trans hK.done (by unfold maxLen;omega);clear h hX hK ht;have D8:¬w.heap.size=B:=by omega
 have D6:¬w.heap.size+1=B:=by omega
 have D3:Hid (za3 j ⟨5,ah,ab,an,at0⟩=zmt j (zb4 j.now ah) (zc7 j.now ah)):=by rw[Hid,za3];simp[]
 obtain⟨P,y⟩:∃P,P=zmt j (zb4 j.now ah) (zc7 j.now ah):=⟨_,rfl⟩;have HE:Hid (za3 j ⟨5,ah,ab,an,at0⟩=(P.1,P.2)):=by rw[Hid,D3.o,←y]
 have C3:=zab y;clear y;go_enter func47,ntmps47;go_wp2;obtain⟨C,O⟩:∃C,C=(w.alloc (.cells #[.int .i64 5,.int .i64 ah,.int .i64 ab,.int .i64 an,.string at0] 23)).alloc (.cells #[.int .i64 0,.int .i64 0,.string ⟨#[]⟩] 31):=⟨_,rfl⟩;have A6:(w.alloc (.cells #[.int .i64 5,.int .i64 ah,.int .i64 ab,.int .i64 an,.string at0] 23)).heap.size=w.heap.size+1:=by simp
 have A5:Below w.heap.size w C:=by rw[O];exact zae (zaa _ _) (zaa _ _)
 have A3:Hid (JAt C B ((w.heap.size+1)::X) j):=HJ.o.more A5 (by omega);have A4:Hid (ButL [B] w.heap.size w C):=ButL.of_below A5;have KR:Hid (C.heap[w.heap.size+1]?=some (.cells #[.int .i64 0,.int .i64 0,.string ⟨#[]⟩] 31 (0,0))):=by rw[O,←A6];exact heap_alloc_new _ _
 have KA:Hid (C.heap[w.heap.size]?=some (.cells #[.int .i64 5,.int .i64 ah,.int .i64 ab,.int .i64 an,.string at0] 23 (0,0))):=by rw[O];exact zad (zaa _ _) (by omega) (heap_alloc_new _ _)
 have E3:C.heap.size=w.heap.size+2:=by rw[O];simp
 have B0:w.heap.size+1<C.heap.size:=by omega
 have B1:w.heap.size+1≠B:=by omega
 have B2:Hid (∀x∈((w.heap.size+1)::X),x<C.heap.size):=fun x hx=>by
  rcases List.mem_cons.1 hx with rfl|hx
  ·exact B0
  ·have:=HX.o x hx;omega
 rw[←O];clear O A6;rename_i KK m;obtain⟨_,da,dc,db,dd,Z,c,i,d,ne,b,sa,sc,sb,sd,se,sf,ca,cc,fa,fc,ta,tc,I,hr⟩:=id A3.o;have B4:Hid (C.cell? ⟨B,31,none⟩=some (.int .i64 j.now.seq)):=zak I 31;have B3:Hid (C.cell? ⟨B,32,none⟩=some (.slice Z j.now.info.length c)):=zak I 32;have B5:Hid (C.cell? ⟨B,33,none⟩=some (.slice i j.now.data.length d)):=zak I 33;have C8:Hid (C.cell? ⟨B,34,none⟩=some (.slice ne j.now.rev.length b)):=zak I 34;have C4:Hid (C.cell? ⟨B,35,none⟩=some (.bool j.now.h0.on)):=zak I 35;have B6:Hid (C.cell? ⟨B,36,none⟩=some (.int .i64 j.now.h0.left)):=zak I 36;have D2:Hid (C.cell? ⟨B,37,none⟩=some (.bool j.now.h1.on)):=zak I 37;have C2:Hid (C.cell? ⟨B,38,none⟩=some (.int .i64 j.now.h1.left)):=zak I 38;have C7:Hid (C.cell? ⟨B,39,none⟩=some (.bool j.now.h2.on)):=zak I 39;have D4:Hid (C.cell? ⟨B,40,none⟩=some (.int .i64 j.now.h2.left)):=zak I 40;have A9:Hid (IsTx (zar C ((w.heap.size+1)::X)) (.agg #[.int .i64 j.now.seq,.slice Z j.now.info.length c,.slice i j.now.data.length d,.slice ne j.now.rev.length b,.bool j.now.h0.on,.int .i64 j.now.h0.left,.bool j.now.h1.on,.int .i64 j.now.h1.left,.bool j.now.h2.on,.int .i64 j.now.h2.left]) j.now):=hr.2.1;have B7:=zab hr.2.2.2.2.2.2.1;clear I hr;obtain⟨⟨z0,z1,z2,z3,z4⟩,_⟩:=zhy KA.o;have A1:=zab z1;clear z0 z1 z2 z3 z4;have E:B<C.heap.size:=by omega
 have C5:w.heap.size<C.heap.size:=by omega
 have r:∀(g:Nat→Value) (W3 L:World),zmt j (zb4 j.now ah) (zc7 j.now ah)=P→W3=(((L.setCell ⟨(w.heap.size+1),0,none⟩ (.int .i64 P.2.code)).setCell ⟨(w.heap.size+1),1,none⟩ (.int .i64 P.2.n)).setCell ⟨(w.heap.size+1),2,none⟩ (.string P.2.text))→L.heap[w.heap.size+1]?=some (.cells #[.int .i64 0,.int .i64 0,.string ⟨#[]⟩] 31 (0,0))→JAt L B ((w.heap.size+1)::X) P.1→ButL [B] w.heap.size w L→KK ⟨#[.pointer (some ⟨B,0,none⟩),g 1,g 2,.pointer (some ⟨w.heap.size,0,none⟩),.pointer (some ⟨w.heap.size+1,0,none⟩),g 5,g 6,g 7,g 8,g 9,g 10,g 11,g 12,g 13,g 14,g 15,g 16,g 17,g 18,g 19,g 20,g 21,g 22,g 23,g 24,g 25,g 26,g 27,g 28,g 29,g 30,g 31,g 32,g 33,g 34,g 35,g 36,g 37,g 38,g 39,g 40,g 41,g 42,g 43,g 44,g 45,g 46,g 47,g 48,g 49,g 50,g 51,g 52,g 53,g 54,g 55,g 56,g 57,g 58,g 59,g 60,g 61,g 62,g 63,g 64,g 65,g 66],[]⟩ W3:=by
  intro g W3 L _ hW S U R;apply m;clear m;have hX:=zf9 S (.int .i64 P.2.code) (.int .i64 P.2.n) (.string P.2.text);rw[←hW] at hX;obtain⟨⟨u0,u1,u2⟩,_⟩:=zbl hX;have HW:=zab hW;clear hW hX;go_wp2;refine bodyPost_ret (v:=.agg #[.int .i64 P.2.code,.int .i64 P.2.n,.string P.2.text]) (by simp[results,results47,go_sem,u0,u1,u2]) rfl ⟨by rw[HE.o];rfl,?_,?_⟩
  ·rw[HE.o,HW.o];exact zw0 U B1 C0 _ _ _
  ·rw[HW.o];exact((R.set (.inr (by omega)) 0 _).set (.inr (by omega)) 1 _).set (.inr (by omega)) 2 _
 have A2:=zab r;clear r m;refine(show∀A0:Act,A0=_→Code.wp prog _ _ A0 _ from fun A0 hA0=>?_) _ rfl;have D:A0.tmps.size=67:=by rw[hA0];rfl
 have D5:A0.defers=[]:=by rw[hA0]
 have v0:A0.eval (.tmp 0)=.pointer (some ⟨B,0,none⟩):=by rw[hA0];rfl
 have v3:A0.eval (.tmp 3)=.pointer (some ⟨w.heap.size,0,none⟩):=by rw[hA0];rfl
 have v4:A0.eval (.tmp 4)=.pointer (some ⟨w.heap.size+1,0,none⟩):=by rw[hA0];rfl
 clear hA0;refine zba 10 (fun w'=>Below C.heap.size C w') [33,34,35,36,37,38,39,40,41,42] (zmh B w.heap.size j ((w.heap.size+1)::X) Z c i d ne b ah) (by kernel_rfl) (by kernel_rfl) (by kernel_rfl) (by kernel_rfl) (by decide) ((Below.refl _ _).drew) ⟨?_,?_,?_,?_,?_,?_,?_,?_,?_,?_,trivial⟩ ?_
 ·exact zbc v0 D (fun _=>rfl) fun ρ w' A z=>by simp only[execOp];go_simp
 ·exact zbc v0 D (fun _=>rfl) fun ρ w' A z=>by simp only[execOp];go_simp
 ·exact zal 1 34 D (fun _ _ h=>h) (fun _=>rfl) fun ρ w' A p=>by simp only[execOp];go_simp
 ·exact zal 2 35 D (fun _ _ h=>h) (fun _=>rfl) fun ρ w' A p=>by simp only[execOp];go_simp
 ·exact zal 3 36 D (fun _ _ h=>h) (fun _=>rfl) fun ρ w' A p=>by have c0:w'.cell? ⟨B,31,none⟩=some (.int .i64 j.now.seq):=zac A E B4.o;have c1:w'.cell? ⟨B,32,none⟩=some (.slice Z j.now.info.length c):=zac A E B3.o;have c2:w'.cell? ⟨B,33,none⟩=some (.slice i j.now.data.length d):=zac A E B5.o;have c3:w'.cell? ⟨B,34,none⟩=some (.slice ne j.now.rev.length b):=zac A E C8.o;have c4:w'.cell? ⟨B,35,none⟩=some (.bool j.now.h0.on):=zac A E C4.o;have c5:w'.cell? ⟨B,36,none⟩=some (.int .i64 j.now.h0.left):=zac A E B6.o;have c6:w'.cell? ⟨B,37,none⟩=some (.bool j.now.h1.on):=zac A E D2.o;have c7:w'.cell? ⟨B,38,none⟩=some (.int .i64 j.now.h1.left):=zac A E C2.o;have c8:w'.cell? ⟨B,39,none⟩=some (.bool j.now.h2.on):=zac A E C7.o;have c9:w'.cell? ⟨B,40,none⟩=some (.int .i64 j.now.h2.left):=zac A E D4.o;simp only[execOp];go_simp
 ·exact zbc v3 D (fun _=>rfl) fun ρ w' A z=>by simp only[execOp];go_simp
 ·exact zal 5 38 D (fun _ _ h=>h) (fun _=>rfl) fun ρ w' A p=>by have c0:w'.cell? ⟨w.heap.size,1,none⟩=some (.int .i64 ah):=zac A C5 A1.o;simp only[execOp];go_simp
 ·intro a w' K A M;have p37:a.eval (.tmp 37)=.agg #[.int .i64 j.now.seq,.slice Z j.now.info.length c,.slice i j.now.data.length d,.slice ne j.now.rev.length b,.bool j.now.h0.on,.int .i64 j.now.h0.left,.bool j.now.h1.on,.int .i64 j.now.h1.left,.bool j.now.h2.on,.int .i64 j.now.h2.left]:=M ⟨4,.data⟩ (by simp) rfl;have p39:a.eval (.tmp 39)=.int .i64 ah:=M ⟨6,.data⟩ (by simp) rfl;refine zbp 81 #[.agg #[.int .i64 j.now.seq,.slice Z j.now.info.length c,.slice i j.now.data.length d,.slice ne j.now.rev.length b,.bool j.now.h0.on,.int .i64 j.now.h0.left,.bool j.now.h1.on,.int .i64 j.now.h1.left,.bool j.now.h2.on,.int .i64 j.now.h2.left],.int .i64 ah] rfl rfl (by have l:=Act.eval_func a 81;revert p37 p39 l;generalize a.eval=ρ;intro p37 p39 l;simp only[execOp];go_simp) _ (zxy _ j.now ah _ ((A9.o.ext (Ext.seenL C _)).below A) B8.o C6.o) ?_;rintro e w2 ⟨N,rfl,C1,q,C9⟩;refine⟨_,rfl,_,rfl,zae A q,?_,zpk q⟩;show zmh _ _ _ _ _ _ _ _ _ _ _ _ ((a.put (some 40) _).eval (.tmp 40)) w2;rw[zav K D (by decide)];exact⟨N,rfl,okTx.made B2.o A9.o B7.o ⟨A,.inl rfl⟩ C1 q C9⟩
 ·intro a w' K A M;obtain⟨N,s,ok⟩:∃N,a.eval (.tmp 40)=.tuple #[N,.int .i64 (zc7 j.now ah)]∧okTx ((w.heap.size+1)::X) (zb4 j.now ah) N undef w':=M ⟨7,.data⟩ (by simp) rfl;refine zbb (N) rfl rfl (by revert s;generalize a.eval=ρ;intro s;simp only[execOp];go_simp) ⟨_,rfl,A,?_,fun _ _ _ h=>h⟩;show zmh _ _ _ _ _ _ _ _ _ _ _ _ ((a.put (some 41) _).eval (.tmp 41)) w';rw[zav K D (by decide)];exact ok
 ·intro a w' K A M;obtain⟨N,s,ok⟩:∃N,a.eval (.tmp 40)=.tuple #[N,.int .i64 (zc7 j.now ah)]∧okTx ((w.heap.size+1)::X) (zb4 j.now ah) N undef w':=M ⟨7,.data⟩ (by simp) rfl;exact zgi _ rfl rfl (by revert s;generalize a.eval=ρ;intro s;simp only[execOp];go_simp) K D A rfl
 ·intro a W K A M;have ok:okTx ((w.heap.size+1)::X) (zb4 j.now ah) (a.eval (.tmp 41)) undef W:=M 8 (by decide);have pE:a.eval (.tmp 42)=.int .i64 (zc7 j.now ah):=M 9 (by decide);have pB:a.eval (.tmp 33)=.pointer (some ⟨B,0,none⟩):=M 0 (by decide);have A8:a.tmps.size=67:=K.size.trans D;have D1:=A3.o.below A;obtain⟨u,A7,_⟩:=ok;obtain⟨ua,uc,ub,ud,ue,uf,hv,_⟩:=id u;rw[hv] at u A7;show wpOps prog _ _ [10,11] a W;rw[wpOps_cons];refine zbp 79 #[.pointer (some ⟨B,0,none⟩),.agg #[.int .i64 (zb4 j.now ah).seq,.slice ua (zb4 j.now ah).info.length uc,.slice ub (zb4 j.now ah).data.length ud,.slice ue (zb4 j.now ah).rev.length uf,.bool (zb4 j.now ah).h0.on,.int .i64 (zb4 j.now ah).h0.left,.bool (zb4 j.now ah).h1.on,.int .i64 (zb4 j.now ah).h1.left,.bool (zb4 j.now ah).h2.on,.int .i64 (zb4 j.now ah).h2.left],.int .i64 (zc7 j.now ah)] rfl rfl (by have l:=Act.eval_func a 79;revert hv pE pB l;generalize a.eval=ρ;intro hv pE pB l;simp only[execOp];go_simp) _ (zje B ((w.heap.size+1)::X) j W D1 (zb4 j.now ah) ua uc ub ud ue uf u A7 (zc7 j.now ah)) ?_;rintro e L ⟨rfl,U,R⟩;refine⟨_,rfl,?_⟩;obtain⟨P0,hP⟩:∃P0,P0=zmt j (zb4 j.now ah) (zc7 j.now ah):=⟨_,rfl⟩;rw[←hP] at U⊢;have B9:P=P0:=C3.o.trans hP.symm;subst B9;obtain⟨F,J⟩:∃F,F=a.put (some 43) (vRp P.2):=⟨_,rfl⟩;have rr:F.eval (.tmp 43)=.agg #[.int .i64 P.2.code,.int .i64 P.2.n,.string P.2.text]:=by rw[J];exact Act.eval_put_same _ _ _ (by rw[A8];decide)
  have r4:F.eval (.tmp 4)=.pointer (some ⟨w.heap.size+1,0,none⟩):=by rw[J,Act.eval_put_ne _ _ _ _ (by decide)];exact(K.other 4 rfl).trans v4
  have r0:F.eval (.tmp 0)=.pointer (some ⟨B,0,none⟩):=by rw[J,Act.eval_put_ne _ _ _ _ (by decide)];exact(K.other 0 rfl).trans v0
  have r3:F.eval (.tmp 3)=.pointer (some ⟨w.heap.size,0,none⟩):=by rw[J,Act.eval_put_ne _ _ _ _ (by decide)];exact(K.other 3 rfl).trans v3
  have S:L.heap[w.heap.size+1]?=some (.cells #[.int .i64 0,.int .i64 0,.string ⟨#[]⟩] 31 (0,0)):=(R.block _ (by have:=A.size;omega) (by simpa using B1)).trans (zad A B0 KR.o);obtain⟨⟨y0,y1,y2⟩,yf⟩:=zbl S;show wpOps prog _ _ [11] (a.put (some 43) (vRp P.2)) L;rw[←J,wpOps_cons];refine zcf rfl rfl (w':=(((L.setCell ⟨(w.heap.size+1),0,none⟩ (.int .i64 P.2.code)).setCell ⟨(w.heap.size+1),1,none⟩ (.int .i64 P.2.n)).setCell ⟨(w.heap.size+1),2,none⟩ (.string P.2.text))) (by revert rr r4;generalize F.eval=ρ;intro rr r4;simp only[execOp];go_simp) ?_;have Q:F=⟨#[_,_,_,_,_,_,_,_,_,_,_,_,_,_,_,_,_,_,_,_,_,_,_,_,_,_,_,_,_,_,_,_,_,_,_,_,_,_,_,_,_,_,_,_,_,_,_,_,_,_,_,_,_,_,_,_,_,_,_,_,_,_,_,_,_,_,_],[]⟩:=zcd F 67 (by rw[J,Act.size_put];exact A8) (by rw[J,Act.defers_put'];exact K.defers.trans D5);dsimp only at Q;rw[r0,r3,r4] at Q;show KK F _;exact(congrArg (fun x=>KK x _) Q).mpr (A2.o (fun k=>F.eval (.tmp k)) _ L hP.symm rfl S U (A4.o.trans (Y:=[B]) ((ButL.of_below A).trans R A.size (by simp)) A4.o.size (by simp)))
theorem z0x (B:Nat)(X:List Nat)(j:Jn)(w:World)(h:JAt w B X j)(hX:∀x∈X,x<w.heap.size)(hK:Ready j)(ah ab an:Int)(at0:ByteArray)(ht:at0.size≤maxLen):
  Calls prog 47 #[.pointer (some ⟨B,0,none⟩),.agg #[.int .i64 2,.int .i64 ah,.int .i64 ab,.int .i64 an,.string at0]] w (zdf w B X (za3 j ⟨2,ah,ab,an,at0⟩)):=by
 have i:=zab h;have A5:=h.lt;have c:=h.1;have l:=zab hX;have A6:=zab hK.used0;have A1:=zab hK.used1;have R:=zab hK.info;have Y:=zab hK.data;have A4:=zab hK.seq;have A2:=zab hK.last;have b:=zab ht;have A7:Hid (j.done.length≤maxLen):=Nat.le_trans hK.done (by unfold maxLen;omega);clear h hX hK ht;have A9:¬w.heap.size=B:=by omega
 have A0:¬w.heap.size+1=B:=by omega
 have O:Hid (za3 j ⟨2,ah,ab,an,at0⟩=zg1 j ⟨2,ah,ab,an,at0⟩):=by rw[Hid,za3];simp[]
 go_enter func47,ntmps47;go_wp2_with fail;obtain⟨A,C⟩:∃A,A=(w.alloc (.cells #[.int .i64 2,.int .i64 ah,.int .i64 ab,.int .i64 an,.string at0] 23)).alloc (.cells #[.int .i64 0,.int .i64 0,.string ⟨#[]⟩] 31):=⟨_,rfl⟩;have J:(w.alloc (.cells #[.int .i64 2,.int .i64 ah,.int .i64 ab,.int .i64 an,.string at0] 23)).heap.size=w.heap.size+1:=by simp
 have F:Below w.heap.size w A:=by rw[C];exact zae (zaa _ _) (zaa _ _)
 have U:Hid (JAt A B ((w.heap.size+1)::X) j):=i.o.more F (by omega);have E:Hid (ButL [B] w.heap.size w A):=ButL.of_below F;have k:Hid (A.heap[w.heap.size+1]?=some (.cells #[.int .i64 0,.int .i64 0,.string ⟨#[]⟩] 31 (0,0))):=by rw[C,←J];exact heap_alloc_new _ _
 have KA:Hid (A.heap[w.heap.size]?=some (.cells #[.int .i64 2,.int .i64 ah,.int .i64 ab,.int .i64 an,.string at0] 23 (0,0))):=by rw[C];exact zad (zaa _ _) (by omega) (heap_alloc_new _ _)
 have A3:A.heap.size=w.heap.size+2:=by rw[C];simp
 have d:w.heap.size+1<A.heap.size:=by omega
 have L:w.heap.size+1≠B:=by omega
 have Q:Hid (∀x∈((w.heap.size+1)::X),x<A.heap.size):=fun x hx=>by
  rcases List.mem_cons.1 hx with rfl|hx
  ·exact d
  ·have:=l.o x hx;omega
 rw[←C];clear C J;refine(zxw B ((w.heap.size+1)::X) j A U.o Q.o ⟨2,ah,ab,an,at0⟩ b.o R.o Y.o).mono ?_;rintro e N ⟨rfl,I,D⟩;have K:Hid (N.heap[w.heap.size+1]?=some (.cells #[.int .i64 0,.int .i64 0,.string ⟨#[]⟩] 31 (0,0))):=(D.block _ (by omega) (by simpa using L)).trans k.o;have M:=zab I;have S:Hid (ButL [B] w.heap.size w N):=E.o.trans D E.o.size (by simp);have A8:A.heap.size≤N.heap.size:=D.size;clear I D;obtain⟨P,Z⟩:∃P,P=zg1 j ⟨2,ah,ab,an,at0⟩:=⟨_,rfl⟩;rw[←Z] at O M⊢;have a:Hid (za3 j ⟨2,ah,ab,an,at0⟩=(P.1,⟨P.2.code,P.2.n,P.2.text⟩)):=O.o;rw[show vRp P.2=.agg #[.int .i64 P.2.code,.int .i64 P.2.n,.string P.2.text] from rfl];clear Z O;obtain⟨⟨y0,y1,y2⟩,yf⟩:=zbl K.o;go_wp2;exact zbf a.o K.o M.o S.o L c fun W u0 u1 u2=>by simp[results,results47,go_sem,u0,u1,u2]
theorem z0y (B:Nat)(X:List Nat)(j:Jn)(w:World)(h:JAt w B X j)(hX:∀x∈X,x<w.heap.size)(hK:Ready j)(ah ab an:Int)(at0:ByteArray)(ht:at0.size≤maxLen):
  Calls prog 47 #[.pointer (some ⟨B,0,none⟩),.agg #[.int .i64 3,.int .i64 ah,.int .i64 ab,.int .i64 an,.string at0]] w (zdf w B X (za3 j ⟨3,ah,ab,an,at0⟩)):=by
 have i:=zab h;have A5:=h.lt;have c:=h.1;have l:=zab hX;have A6:=zab hK.used0;have A1:=zab hK.used1;have R:=zab hK.info;have Y:=zab hK.data;have A4:=zab hK.seq;have A2:=zab hK.last;have b:=zab ht;have A7:Hid (j.done.length≤maxLen):=Nat.le_trans hK.done (by unfold maxLen;omega);clear h hX hK ht;have A9:¬w.heap.size=B:=by omega
 have A0:¬w.heap.size+1=B:=by omega
 have O:Hid (za3 j ⟨3,ah,ab,an,at0⟩=zjq j ⟨3,ah,ab,an,at0⟩):=by rw[Hid,za3];simp[]
 go_enter func47,ntmps47;go_wp2_with fail;obtain⟨A,C⟩:∃A,A=(w.alloc (.cells #[.int .i64 3,.int .i64 ah,.int .i64 ab,.int .i64 an,.string at0] 23)).alloc (.cells #[.int .i64 0,.int .i64 0,.string ⟨#[]⟩] 31):=⟨_,rfl⟩;have J:(w.alloc (.cells #[.int .i64 3,.int .i64 ah,.int .i64 ab,.int .i64 an,.string at0] 23)).heap.size=w.heap.size+1:=by simp
 have F:Below w.heap.size w A:=by rw[C];exact zae (zaa _ _) (zaa _ _)
 have U:Hid (JAt A B ((w.heap.size+1)::X) j):=i.o.more F (by omega);have E:Hid (ButL [B] w.heap.size w A):=ButL.of_below F;have k:Hid (A.heap[w.heap.size+1]?=some (.cells #[.int .i64 0,.int .i64 0,.string ⟨#[]⟩] 31 (0,0))):=by rw[C,←J];exact heap_alloc_new _ _
 have KA:Hid (A.heap[w.heap.size]?=some (.cells #[.int .i64 3,.int .i64 ah,.int .i64 ab,.int .i64 an,.string at0] 23 (0,0))):=by rw[C];exact zad (zaa _ _) (by omega) (heap_alloc_new _ _)
 have A3:A.heap.size=w.heap.size+2:=by rw[C];simp
 have d:w.heap.size+1<A.heap.size:=by omega
 have L:w.heap.size+1≠B:=by omega
 have Q:Hid (∀x∈((w.heap.size+1)::X),x<A.heap.size):=fun x hx=>by
  rcases List.mem_cons.1 hx with rfl|hx
  ·exact d
  ·have:=l.o x hx;omega
 rw[←C];clear C J;refine(z0q B ((w.heap.size+1)::X) j A U.o Q.o ⟨3,ah,ab,an,at0⟩ b.o R.o Y.o).mono ?_;rintro e N ⟨rfl,I,D⟩;have K:Hid (N.heap[w.heap.size+1]?=some (.cells #[.int .i64 0,.int .i64 0,.string ⟨#[]⟩] 31 (0,0))):=(D.block _ (by omega) (by simpa using L)).trans k.o;have M:=zab I;have S:Hid (ButL [B] w.heap.size w N):=E.o.trans D E.o.size (by simp);have A8:A.heap.size≤N.heap.size:=D.size;clear I D;obtain⟨P,Z⟩:∃P,P=zjq j ⟨3,ah,ab,an,at0⟩:=⟨_,rfl⟩;rw[←Z] at O M⊢;have a:Hid (za3 j ⟨3,ah,ab,an,at0⟩=(P.1,⟨P.2.code,P.2.n,P.2.text⟩)):=O.o;rw[show vRp P.2=.agg #[.int .i64 P.2.code,.int .i64 P.2.n,.string P.2.text] from rfl];clear Z O;obtain⟨⟨y0,y1,y2⟩,yf⟩:=zbl K.o;go_wp2;exact zbf a.o K.o M.o S.o L c fun W u0 u1 u2=>by simp[results,results47,go_sem,u0,u1,u2]
theorem z0z (B:Nat)(X:List Nat)(j:Jn)(w:World)(h:JAt w B X j)(hX:∀x∈X,x<w.heap.size)(hK:Ready j)(ah ab an:Int)(at0:ByteArray)(ht:at0.size≤maxLen):
  Calls prog 47 #[.pointer (some ⟨B,0,none⟩),.agg #[.int .i64 4,.int .i64 ah,.int .i64 ab,.int .i64 an,.string at0]] w (zdf w B X (za3 j ⟨4,ah,ab,an,at0⟩)):=by
 have d:=zab h;have A5:=h.lt;have b:=h.1;have k:=zab hX;have A7:=zab hK.used0;have A1:=zab hK.used1;have R:=zab hK.info;have Y:=zab hK.data;have A4:=zab hK.seq;have A2:=zab hK.last;have A6:=zab ht;have A8:Hid (j.done.length≤maxLen):=Nat.le_trans hK.done (by unfold maxLen;omega);clear h hX hK ht;have B0:¬w.heap.size=B:=by omega
 have A0:¬w.heap.size+1=B:=by omega
 have O:Hid (za3 j ⟨4,ah,ab,an,at0⟩=zew j ⟨4,ah,ab,an,at0⟩):=by rw[Hid,za3];simp[]
 go_enter func47,ntmps47;go_wp2_with fail;obtain⟨A,C⟩:∃A,A=(w.alloc (.cells #[.int .i64 4,.int .i64 ah,.int .i64 ab,.int .i64 an,.string at0] 23)).alloc (.cells #[.int .i64 0,.int .i64 0,.string ⟨#[]⟩] 31):=⟨_,rfl⟩;have J:(w.alloc (.cells #[.int .i64 4,.int .i64 ah,.int .i64 ab,.int .i64 an,.string at0] 23)).heap.size=w.heap.size+1:=by simp
 have F:Below w.heap.size w A:=by rw[C];exact zae (zaa _ _) (zaa _ _)
 have U:Hid (JAt A B ((w.heap.size+1)::X) j):=d.o.more F (by omega);have E:Hid (ButL [B] w.heap.size w A):=ButL.of_below F;have i:Hid (A.heap[w.heap.size+1]?=some (.cells #[.int .i64 0,.int .i64 0,.string ⟨#[]⟩] 31 (0,0))):=by rw[C,←J];exact heap_alloc_new _ _
 have KA:Hid (A.heap[w.heap.size]?=some (.cells #[.int .i64 4,.int .i64 ah,.int .i64 ab,.int .i64 an,.string at0] 23 (0,0))):=by rw[C];exact zad (zaa _ _) (by omega) (heap_alloc_new _ _)
 have A3:A.heap.size=w.heap.size+2:=by rw[C];simp
 have c:w.heap.size+1<A.heap.size:=by omega
 have L:w.heap.size+1≠B:=by omega
 have Q:Hid (∀x∈((w.heap.size+1)::X),x<A.heap.size):=fun x hx=>by
  rcases List.mem_cons.1 hx with rfl|hx
  ·exact c
  ·have:=k.o x hx;omega
 rw[←C];clear C J;refine(zua B ((w.heap.size+1)::X) j A U.o Q.o ⟨4,ah,ab,an,at0⟩ R.o Y.o).mono ?_;rintro e N ⟨rfl,I,D⟩;have K:Hid (N.heap[w.heap.size+1]?=some (.cells #[.int .i64 0,.int .i64 0,.string ⟨#[]⟩] 31 (0,0))):=(D.block _ (by omega) (by simpa using L)).trans i.o;have M:=zab I;have S:Hid (ButL [B] w.heap.size w N):=E.o.trans D E.o.size (by simp);have A9:A.heap.size≤N.heap.size:=D.size;clear I D;obtain⟨P,Z⟩:∃P,P=zew j ⟨4,ah,ab,an,at0⟩:=⟨_,rfl⟩;rw[←Z] at O M⊢;have a:Hid (za3 j ⟨4,ah,ab,an,at0⟩=(P.1,⟨P.2.code,P.2.n,P.2.text⟩)):=O.o;rw[show vRp P.2=.agg #[.int .i64 P.2.code,.int .i64 P.2.n,.string P.2.text] from rfl];clear Z O;obtain⟨⟨y0,y1,y2⟩,yf⟩:=zbl K.o;go_wp2;exact zbf a.o K.o M.o S.o L b fun W u0 u1 u2=>by simp[results,results47,go_sem,u0,u1,u2]
theorem z00 (B:Nat)(X:List Nat)(j:Jn)(w:World)(h:JAt w B X j)(hX:∀x∈X,x<w.heap.size)(hK:Ready j)(ah ab an:Int)(at0:ByteArray)(ht:at0.size≤maxLen):
  Calls prog 47 #[.pointer (some ⟨B,0,none⟩),.agg #[.int .i64 6,.int .i64 ah,.int .i64 ab,.int .i64 an,.string at0]] w (zdf w B X (za3 j ⟨6,ah,ab,an,at0⟩)):=by
 have i:=zab h;have A4:=h.lt;have c:=h.1;have l:=zab hX;have A6:=zab hK.used0;have A1:=zab hK.used1;have R:=zab hK.info;have Y:=zab hK.data;have a:=zab hK.seq;have A2:=zab hK.last;have A5:=zab ht;have A7:Hid (j.done.length≤maxLen):=Nat.le_trans hK.done (by unfold maxLen;omega);clear h hX hK ht;have A9:¬w.heap.size=B:=by omega
 have A0:¬w.heap.size+1=B:=by omega
 have O:Hid (za3 j ⟨6,ah,ab,an,at0⟩=zcw j):=by rw[Hid,za3];simp[]
 go_enter func47,ntmps47;go_wp2_with fail;obtain⟨A,C⟩:∃A,A=(w.alloc (.cells #[.int .i64 6,.int .i64 ah,.int .i64 ab,.int .i64 an,.string at0] 23)).alloc (.cells #[.int .i64 0,.int .i64 0,.string ⟨#[]⟩] 31):=⟨_,rfl⟩;have J:(w.alloc (.cells #[.int .i64 6,.int .i64 ah,.int .i64 ab,.int .i64 an,.string at0] 23)).heap.size=w.heap.size+1:=by simp
 have F:Below w.heap.size w A:=by rw[C];exact zae (zaa _ _) (zaa _ _)
 have U:Hid (JAt A B ((w.heap.size+1)::X) j):=i.o.more F (by omega);have E:Hid (ButL [B] w.heap.size w A):=ButL.of_below F;have k:Hid (A.heap[w.heap.size+1]?=some (.cells #[.int .i64 0,.int .i64 0,.string ⟨#[]⟩] 31 (0,0))):=by rw[C,←J];exact heap_alloc_new _ _
 have KA:Hid (A.heap[w.heap.size]?=some (.cells #[.int .i64 6,.int .i64 ah,.int .i64 ab,.int .i64 an,.string at0] 23 (0,0))):=by rw[C];exact zad (zaa _ _) (by omega) (heap_alloc_new _ _)
 have A3:A.heap.size=w.heap.size+2:=by rw[C];simp
 have d:w.heap.size+1<A.heap.size:=by omega
 have L:w.heap.size+1≠B:=by omega
 have Q:Hid (∀x∈((w.heap.size+1)::X),x<A.heap.size):=fun x hx=>by
  rcases List.mem_cons.1 hx with rfl|hx
  ·exact d
  ·have:=l.o x hx;omega
 rw[←C];clear C J;refine(zt2 B ((w.heap.size+1)::X) j A U.o Q.o R.o Y.o a.o).mono ?_;rintro e N ⟨rfl,I,D⟩;have K:Hid (N.heap[w.heap.size+1]?=some (.cells #[.int .i64 0,.int .i64 0,.string ⟨#[]⟩] 31 (0,0))):=(D.block _ (by omega) (by simpa using L)).trans k.o;have M:=zab I;have S:Hid (ButL [B] w.heap.size w N):=E.o.trans D E.o.size (by simp);have A8:A.heap.size≤N.heap.size:=D.size;clear I D;obtain⟨P,Z⟩:∃P,P=zcw j:=⟨_,rfl⟩;rw[←Z] at O M⊢;have b:Hid (za3 j ⟨6,ah,ab,an,at0⟩=(P.1,⟨P.2.code,P.2.n,P.2.text⟩)):=O.o;rw[show vRp P.2=.agg #[.int .i64 P.2.code,.int .i64 P.2.n,.string P.2.text] from rfl];clear Z O;obtain⟨⟨y0,y1,y2⟩,yf⟩:=zbl K.o;go_wp2;exact zbf b.o K.o M.o S.o L c fun W u0 u1 u2=>by simp[results,results47,go_sem,u0,u1,u2]
theorem z01 (B:Nat)(X:List Nat)(j:Jn)(w:World)(h:JAt w B X j)(hX:∀x∈X,x<w.heap.size)(hK:Ready j)(ah ab an:Int)(at0:ByteArray)(ht:at0.size≤maxLen):
  Calls prog 47 #[.pointer (some ⟨B,0,none⟩),.agg #[.int .i64 7,.int .i64 ah,.int .i64 ab,.int .i64 an,.string at0]] w (zdf w B X (za3 j ⟨7,ah,ab,an,at0⟩)):=by
 have d:=zab h;have A6:=h.lt;have a:=h.1;have k:=zab hX;have A8:=zab hK.used0;have A2:=zab hK.used1;have A1:=zab hK.info;have A4:=zab hK.data;have A5:=zab hK.seq;have S:=zab hK.last;have A7:=zab ht;have b:Hid (j.done.length≤maxLen):=Nat.le_trans hK.done (by unfold maxLen;omega);clear h hX hK ht;have B0:¬w.heap.size=B:=by omega
 have A0:¬w.heap.size+1=B:=by omega
 have O:Hid (za3 j ⟨7,ah,ab,an,at0⟩=zg2 j):=by rw[Hid,za3];simp[]
 go_enter func47,ntmps47;go_wp2_with fail;obtain⟨A,C⟩:∃A,A=(w.alloc (.cells #[.int .i64 7,.int .i64 ah,.int .i64 ab,.int .i64 an,.string at0] 23)).alloc (.cells #[.int .i64 0,.int .i64 0,.string ⟨#[]⟩] 31):=⟨_,rfl⟩;have J:(w.alloc (.cells #[.int .i64 7,.int .i64 ah,.int .i64 ab,.int .i64 an,.string at0] 23)).heap.size=w.heap.size+1:=by simp
 have F:Below w.heap.size w A:=by rw[C];exact zae (zaa _ _) (zaa _ _)
 have U:Hid (JAt A B ((w.heap.size+1)::X) j):=d.o.more F (by omega);have E:Hid (ButL [B] w.heap.size w A):=ButL.of_below F;have i:Hid (A.heap[w.heap.size+1]?=some (.cells #[.int .i64 0,.int .i64 0,.string ⟨#[]⟩] 31 (0,0))):=by rw[C,←J];exact heap_alloc_new _ _
 have KA:Hid (A.heap[w.heap.size]?=some (.cells #[.int .i64 7,.int .i64 ah,.int .i64 ab,.int .i64 an,.string at0] 23 (0,0))):=by rw[C];exact zad (zaa _ _) (by omega) (heap_alloc_new _ _)
 have A3:A.heap.size=w.heap.size+2:=by rw[C];simp
 have c:w.heap.size+1<A.heap.size:=by omega
 have L:w.heap.size+1≠B:=by omega
 have Q:Hid (∀x∈((w.heap.size+1)::X),x<A.heap.size):=fun x hx=>by
  rcases List.mem_cons.1 hx with rfl|hx
  ·exact c
  ·have:=k.o x hx;omega
 rw[←C];clear C J;refine(zxv B ((w.heap.size+1)::X) j A U.o Q.o b.o S.o).mono ?_;rintro e N ⟨rfl,I,D⟩;have K:Hid (N.heap[w.heap.size+1]?=some (.cells #[.int .i64 0,.int .i64 0,.string ⟨#[]⟩] 31 (0,0))):=(D.block _ (by omega) (by simpa using L)).trans i.o;have M:=zab I;have R:Hid (ButL [B] w.heap.size w N):=E.o.trans D E.o.size (by simp);have A9:A.heap.size≤N.heap.size:=D.size;clear I D;obtain⟨P,Y⟩:∃P,P=zg2 j:=⟨_,rfl⟩;rw[←Y] at O M⊢;have Z:Hid (za3 j ⟨7,ah,ab,an,at0⟩=(P.1,⟨P.2.code,P.2.n,P.2.text⟩)):=O.o;rw[show vRp P.2=.agg #[.int .i64 P.2.code,.int .i64 P.2.n,.string P.2.text] from rfl];clear Y O;obtain⟨⟨y0,y1,y2⟩,yf⟩:=zbl K.o;go_wp2;exact zbf Z.o K.o M.o R.o L a fun W u0 u1 u2=>by simp[results,results47,go_sem,u0,u1,u2]
theorem z02 (B:Nat)(X:List Nat)(j:Jn)(w:World)(h:JAt w B X j)(hX:∀x∈X,x<w.heap.size)(hK:Ready j)(ak ah ab an:Int)(at0:ByteArray)(ht:at0.size≤maxLen)(k1:¬ak=1)(k5:¬ak=5)(k2:¬ak=2)(k3:¬ak=3)(k4:¬ak=4)(k6:¬ak=6)(k7:¬ak=7):
  Calls prog 47 #[.pointer (some ⟨B,0,none⟩),.agg #[.int .i64 ak,.int .i64 ah,.int .i64 ab,.int .i64 an,.string at0]] w (zdf w B X (za3 j ⟨ak,ah,ab,an,at0⟩)):=by
 have b:=zab h;have A8:=h.lt;have Y:=h.1;have d:=zab hX;have B0:=zab hK.used0;have A3:=zab hK.used1;have A2:=zab hK.info;have A6:=zab hK.data;have A7:=zab hK.seq;have A4:=zab hK.last;have A9:=zab ht;have Z:Hid (j.done.length≤maxLen):=Nat.le_trans hK.done (by unfold maxLen;omega);clear h hX hK ht;have B2:¬w.heap.size=B:=by omega
 have A0:¬w.heap.size+1=B:=by omega
 have b1:(ak==1)=false:=by simpa using k1
 have b5:(ak==5)=false:=by simpa using k5
 have b2:(ak==2)=false:=by simpa using k2
 have b3:(ak==3)=false:=by simpa using k3
 have b4:(ak==4)=false:=by simpa using k4
 have b6:(ak==6)=false:=by simpa using k6
 have b7:(ak==7)=false:=by simpa using k7
 have O:Hid (za3 j ⟨ak,ah,ab,an,at0⟩=(j,zjr j ab)):=by rw[Hid,za3];simp[k1,k5,k2,k3,k4,k6,k7]
 clear k1 k5 k2 k3 k4 k6 k7;go_enter func47,ntmps47;go_wp2_with fail;obtain⟨A,C⟩:∃A,A=(w.alloc (.cells #[.int .i64 ak,.int .i64 ah,.int .i64 ab,.int .i64 an,.string at0] 23)).alloc (.cells #[.int .i64 0,.int .i64 0,.string ⟨#[]⟩] 31):=⟨_,rfl⟩;have J:(w.alloc (.cells #[.int .i64 ak,.int .i64 ah,.int .i64 ab,.int .i64 an,.string at0] 23)).heap.size=w.heap.size+1:=by simp
 have E:Below w.heap.size w A:=by rw[C];exact zae (zaa _ _) (zaa _ _)
 have R:Hid (JAt A B ((w.heap.size+1)::X) j):=b.o.more E (by omega);have F:Hid (ButL [B] w.heap.size w A):=ButL.of_below E;have c:Hid (A.heap[w.heap.size+1]?=some (.cells #[.int .i64 0,.int .i64 0,.string ⟨#[]⟩] 31 (0,0))):=by rw[C,←J];exact heap_alloc_new _ _
 have KA:Hid (A.heap[w.heap.size]?=some (.cells #[.int .i64 ak,.int .i64 ah,.int .i64 ab,.int .i64 an,.string at0] 23 (0,0))):=by rw[C];exact zad (zaa _ _) (by omega) (heap_alloc_new _ _)
 have A5:A.heap.size=w.heap.size+2:=by rw[C];simp
 have a:w.heap.size+1<A.heap.size:=by omega
 have L:w.heap.size+1≠B:=by omega
 have A1:Hid (∀x∈((w.heap.size+1)::X),x<A.heap.size):=fun x hx=>by
  rcases List.mem_cons.1 hx with rfl|hx
  ·exact a
  ·have:=d.o x hx;omega
 rw[←C];clear C J;refine(z0d B ((w.heap.size+1)::X) j A ab R.o Z.o).mono ?_;rintro e N ⟨rfl,I,D⟩;have K:Hid (N.heap[w.heap.size+1]?=some (.cells #[.int .i64 0,.int .i64 0,.string ⟨#[]⟩] 31 (0,0))):=(D.block _ (by omega) (by simpa using L)).trans c.o;have M:=zab I;have Q:Hid (ButL [B] w.heap.size w N):=F.o.trans D F.o.size (by simp);have B1:A.heap.size≤N.heap.size:=D.size;clear I D;obtain⟨P,S⟩:∃P,P=(j,zjr j ab):=⟨_,rfl⟩;rw[←S] at O M⊢;have U:Hid (za3 j ⟨ak,ah,ab,an,at0⟩=(P.1,⟨P.2.code,P.2.n,P.2.text⟩)):=O.o;rw[show vRp P.2=.agg #[.int .i64 P.2.code,.int .i64 P.2.n,.string P.2.text] from rfl];clear S O;obtain⟨⟨y0,y1,y2⟩,yf⟩:=zbl K.o;go_wp2;exact zbf U.o K.o M.o Q.o L Y fun W u0 u1 u2=>by simp[results,results47,go_sem,u0,u1,u2]
theorem zr1 (B:Nat)(X:List Nat)(j:Jn)(w:World)(h:JAt w B X j)(hX:∀x∈X,x<w.heap.size)(hK:Ready j)(ac:Ac)(ht:ac.text.size≤maxLen):
  Calls prog 47 #[.pointer (some ⟨B,0,none⟩),.agg #[.int .i64 ac.kind,.int .i64 ac.h,.int .i64 ac.b,.int .i64 ac.n,.string ac.text]] w (zdf w B X (za3 j ac)):=by
 obtain⟨C,E,D,an,A⟩:=ac;by_cases k1:C=1
 ·subst k1;exact z0v B X j w h hX hK E D an A ht
 by_cases k5:C=5
 ·subst k5;exact z0w B X j w h hX hK E D an A ht
 by_cases k2:C=2
 ·subst k2;exact z0x B X j w h hX hK E D an A ht
 by_cases k3:C=3
 ·subst k3;exact z0y B X j w h hX hK E D an A ht
 by_cases k4:C=4
 ·subst k4;exact z0z B X j w h hX hK E D an A ht
 by_cases k6:C=6
 ·subst k6;exact z00 B X j w h hX hK E D an A ht
 by_cases k7:C=7
 ·subst k7;exact z01 B X j w h hX hK E D an A ht
 exact z02 B X j w h hX hK C E D an A ht k1 k5 k2 k3 k4 k6 k7
open Go.RowKit
theorem Ready.bump {j:Jn}(h:Ready j)(x:Int)(h0:0≤x)(h1:x≤400):Ready {j with acts:=x}:=⟨h.done,h.found,h.next,h.seq,h.last,h.info,h.data,h.few,h.used0,h.used1,h0,h1⟩
theorem zub (B:Nat)(X:List Nat)(j:Jn)(w:World)(h:JAt w B X j)(hX:∀x∈X,x<w.heap.size)(hK:Ready j)(ak ah ab an:Int)(at0:ByteArray)(hn:an≤9223372036854775807)(ht:at0.size≤maxLen)(hf:400≤j.acts):
  Calls prog 15 #[.pointer (some ⟨B,0,none⟩),.agg #[.int .i64 ak,.int .i64 ah,.int .i64 ab,.int .i64 an,.string at0]] w (zdf w B X (doJ j ⟨ak,ah,ab,an,at0⟩)):=by
 have a:=zab h;have A6:=h.lt;have Q:=h.1;have c:=zab hX;have HK:=zab hK;have A7:=zab ht;have A4:=zab hn;have A3:=hK.acts0;have B1:=hK.acts1;have B0:IntKind.i64.wrap (j.acts+1)=j.acts+1:=by rw[IntKind.wrap_i64];omega
 obtain⟨_,da,dc,db,dd,na,nc,nb,nd,ne,nf,sa,sc,sb,sd,se,sf,ca,cc,fa,fc,ta,tc,E,_⟩:=id h;have c0:w.cell? ⟨B,0,none⟩=some (.int .i64 j.acts):=zak E 0;have A8:w.frozen? ⟨B,0,none⟩=false:=frozen_of_row w _ _ _ _ E;have c6:w.cell? ⟨B,6,none⟩=some (.bool j.down):=zak E 6;have A5:w.frozen? ⟨B,6,none⟩=false:=frozen_of_row w _ _ _ _ E;clear h hX hK hn ht E;have A9:¬w.heap.size=B:=by omega
 have A0:¬w.heap.size+1=B:=by omega
 have d:Hid (doJ j ⟨ak,ah,ab,an,at0⟩=(j,zas 11)):=by rw[Hid,doJ,if_pos hf]
 have S:(400:Int)≤j.acts:=hf;go_enter func15,ntmps15;go_wp2_with fail;have B2:w.heap.size=w.heap.size:=rfl;have O:=a;have R:Hid (ButL [B] w.heap.size w w):=ButL.refl _ _ _;obtain⟨A,C⟩:∃A,A=(w.alloc (.cells #[.int .i64 ak,.int .i64 ah,.int .i64 ab,.int .i64 an,.string at0] 23)).alloc (.cells #[.int .i64 0,.int .i64 0,.string ⟨#[]⟩] 31):=⟨_,rfl⟩;have J:(w.alloc (.cells #[.int .i64 ak,.int .i64 ah,.int .i64 ab,.int .i64 an,.string at0] 23)).heap.size=w.heap.size+1:=by simp
 have F:Below w.heap.size w A:=by rw[C];exact zae (zaa _ _) (zaa _ _)
 have N:Hid (JAt A B ((w.heap.size+1)::X) j):=O.o.more F (by omega);have I:Hid (ButL [B] w.heap.size w A):=R.o.trans (Y:=[]) (ButL.of_below F) (by omega) (by simp);have b:Hid (A.heap[w.heap.size+1]?=some (.cells #[.int .i64 0,.int .i64 0,.string ⟨#[]⟩] 31 (0,0))):=by rw[C,←J];exact heap_alloc_new _ _
 have A2:A.heap.size=w.heap.size+2:=by rw[C];simp
 have L:w.heap.size+1<A.heap.size:=by omega
 have U:w.heap.size+1≠B:=by omega
 have A1:Hid (∀x∈((w.heap.size+1)::X),x<A.heap.size):=fun x hx=>by
  rcases List.mem_cons.1 hx with rfl|hx
  ·exact L
  ·have:=c.o x hx;omega
 rw[←C];clear C J;clear hf S;refine(zat 11 _).mono ?_;rintro e w2 ⟨rfl,D⟩;have K:=zab (zad D L b.o);have Z:=zab (N.o.below D);have M:=zab (I.o.trans (Y:=[]) (ButL.of_below D) I.o.size (by simp));clear D;obtain⟨⟨y0,y1,y2⟩,yf⟩:=zbl K.o;go_wp2;exact zbf d.o K.o Z.o M.o U Q fun W u0 u1 u2=>by simp[results,results15,go_sem,u0,u1,u2]
theorem zx0 (B:Nat)(X:List Nat)(j:Jn)(w:World)(h:JAt w B X j)(hX:∀x∈X,x<w.heap.size)(hK:Ready j)(ak ah ab an:Int)(at0:ByteArray)(hn:an≤9223372036854775807)(ht:at0.size≤maxLen)(hf:¬400≤j.acts)(hk:ak<1):
  Calls prog 15 #[.pointer (some ⟨B,0,none⟩),.agg #[.int .i64 ak,.int .i64 ah,.int .i64 ab,.int .i64 an,.string at0]] w (zdf w B X (doJ j ⟨ak,ah,ab,an,at0⟩)):=by
 have d:=zab h;have A6:=h.lt;have U:=h.1;have k:=zab hX;have HK:=zab hK;have A7:=zab ht;have A4:=zab hn;have A3:=hK.acts0;have B1:=hK.acts1;have B0:IntKind.i64.wrap (j.acts+1)=j.acts+1:=by rw[IntKind.wrap_i64];omega
 obtain⟨_,da,dc,db,dd,na,nc,nb,nd,ne,nf,sa,sc,sb,sd,se,sf,ca,cc,fa,fc,ta,tc,I,_⟩:=id h;have c0:w.cell? ⟨B,0,none⟩=some (.int .i64 j.acts):=zak I 0;have A8:w.frozen? ⟨B,0,none⟩=false:=frozen_of_row w _ _ _ _ I;have c6:w.cell? ⟨B,6,none⟩=some (.bool j.down):=zak I 6;have A5:w.frozen? ⟨B,6,none⟩=false:=frozen_of_row w _ _ _ _ I;clear h hX hK hn ht I;have A9:¬w.heap.size=B:=by omega
 have A0:¬w.heap.size+1=B:=by omega
 have l:Hid (doJ j ⟨ak,ah,ab,an,at0⟩=(({j with acts:=j.acts+1}:Jn),zas 3)):=by rw[Hid,doJ,if_neg hf,zkr,if_pos (.inl hk)]
 have a:¬(j.acts≥400):=hf;go_enter func15,ntmps15;go_wp2_with fail;obtain⟨A,E⟩:∃A,A=w.setCell ⟨B,0,none⟩ (.int .i64 (j.acts+1)):=⟨_,rfl⟩;rw[←E];have O:A.heap.size=w.heap.size:=by rw[E];simp[World.setCell]
 have S:Hid (JAt A B X ({j with acts:=j.acts+1}:Jn)):=by rw[E];exact d.o.putActs _
 have Z:Hid (ButL [B] w.heap.size w A):=by rw[E];exact(ButL.refl _ _ _).set (.inl (by simp)) 0 _
 clear E;obtain⟨C,D⟩:∃C,C=(A.alloc (.cells #[.int .i64 ak,.int .i64 ah,.int .i64 ab,.int .i64 an,.string at0] 23)).alloc (.cells #[.int .i64 0,.int .i64 0,.string ⟨#[]⟩] 31):=⟨_,rfl⟩;have L:(A.alloc (.cells #[.int .i64 ak,.int .i64 ah,.int .i64 ab,.int .i64 an,.string at0] 23)).heap.size=w.heap.size+1:=by simp[O]
 have J:Below A.heap.size A C:=by rw[D];exact zae (zaa _ _) (zaa _ _)
 have R:Hid (JAt C B ((w.heap.size+1)::X) ({j with acts:=j.acts+1}:Jn)):=S.o.more J (by omega);have K:Hid (ButL [B] w.heap.size w C):=Z.o.trans (Y:=[]) (ButL.of_below J) (by omega) (by simp);have i:Hid (C.heap[w.heap.size+1]?=some (.cells #[.int .i64 0,.int .i64 0,.string ⟨#[]⟩] 31 (0,0))):=by rw[D,←L];exact heap_alloc_new _ _
 have A2:C.heap.size=w.heap.size+2:=by rw[D];simp[O]
 have N:w.heap.size+1<C.heap.size:=by omega
 have b:w.heap.size+1≠B:=by omega
 have A1:Hid (∀x∈((w.heap.size+1)::X),x<C.heap.size):=fun x hx=>by
  rcases List.mem_cons.1 hx with rfl|hx
  ·exact N
  ·have:=k.o x hx;omega
 rw[←D];clear D L;clear hf a hk;refine(zat 3 _).mono ?_;rintro e w2 ⟨rfl,F⟩;have M:=zab (zad F N i.o);have c:=zab (R.o.below F);have Q:=zab (K.o.trans (Y:=[]) (ButL.of_below F) K.o.size (by simp));clear F;obtain⟨⟨y0,y1,y2⟩,yf⟩:=zbl M.o;go_wp2;exact zbf l.o M.o c.o Q.o b U fun W u0 u1 u2=>by simp[results,results15,go_sem,u0,u1,u2]
theorem zuc (B:Nat)(X:List Nat)(j:Jn)(w:World)(h:JAt w B X j)(hX:∀x∈X,x<w.heap.size)(hK:Ready j)(ak ah ab an:Int)(at0:ByteArray)(hn:an≤9223372036854775807)(ht:at0.size≤maxLen)(hf:¬400≤j.acts)(hk:11<ak):
  Calls prog 15 #[.pointer (some ⟨B,0,none⟩),.agg #[.int .i64 ak,.int .i64 ah,.int .i64 ab,.int .i64 an,.string at0]] w (zdf w B X (doJ j ⟨ak,ah,ab,an,at0⟩)):=by
 have i:=zab h;have A6:=h.lt;have Z:=h.1;have l:=zab hX;have HK:=zab hK;have A7:=zab ht;have A4:=zab hn;have A3:=hK.acts0;have B1:=hK.acts1;have B0:IntKind.i64.wrap (j.acts+1)=j.acts+1:=by rw[IntKind.wrap_i64];omega
 obtain⟨_,da,dc,db,dd,na,nc,nb,nd,ne,nf,sa,sc,sb,sd,se,sf,ca,cc,fa,fc,ta,tc,I,_⟩:=id h;have c0:w.cell? ⟨B,0,none⟩=some (.int .i64 j.acts):=zak I 0;have A8:w.frozen? ⟨B,0,none⟩=false:=frozen_of_row w _ _ _ _ I;have c6:w.cell? ⟨B,6,none⟩=some (.bool j.down):=zak I 6;have A5:w.frozen? ⟨B,6,none⟩=false:=frozen_of_row w _ _ _ _ I;clear h hX hK hn ht I;have A9:¬w.heap.size=B:=by omega
 have A0:¬w.heap.size+1=B:=by omega
 have m:Hid (doJ j ⟨ak,ah,ab,an,at0⟩=(({j with acts:=j.acts+1}:Jn),zas 3)):=by rw[Hid,doJ,if_neg hf,zkr,if_pos (.inr hk)]
 have b:¬(j.acts≥400):=hf;have S:¬ak<1:=by omega
 go_enter func15,ntmps15;go_wp2_with fail;obtain⟨A,E⟩:∃A,A=w.setCell ⟨B,0,none⟩ (.int .i64 (j.acts+1)):=⟨_,rfl⟩;rw[←E];have O:A.heap.size=w.heap.size:=by rw[E];simp[World.setCell]
 have U:Hid (JAt A B X ({j with acts:=j.acts+1}:Jn)):=by rw[E];exact i.o.putActs _
 have a:Hid (ButL [B] w.heap.size w A):=by rw[E];exact(ButL.refl _ _ _).set (.inl (by simp)) 0 _
 clear E;obtain⟨C,D⟩:∃C,C=(A.alloc (.cells #[.int .i64 ak,.int .i64 ah,.int .i64 ab,.int .i64 an,.string at0] 23)).alloc (.cells #[.int .i64 0,.int .i64 0,.string ⟨#[]⟩] 31):=⟨_,rfl⟩;have L:(A.alloc (.cells #[.int .i64 ak,.int .i64 ah,.int .i64 ab,.int .i64 an,.string at0] 23)).heap.size=w.heap.size+1:=by simp[O]
 have J:Below A.heap.size A C:=by rw[D];exact zae (zaa _ _) (zaa _ _)
 have R:Hid (JAt C B ((w.heap.size+1)::X) ({j with acts:=j.acts+1}:Jn)):=U.o.more J (by omega);have K:Hid (ButL [B] w.heap.size w C):=a.o.trans (Y:=[]) (ButL.of_below J) (by omega) (by simp);have k:Hid (C.heap[w.heap.size+1]?=some (.cells #[.int .i64 0,.int .i64 0,.string ⟨#[]⟩] 31 (0,0))):=by rw[D,←L];exact heap_alloc_new _ _
 have A2:C.heap.size=w.heap.size+2:=by rw[D];simp[O]
 have N:w.heap.size+1<C.heap.size:=by omega
 have c:w.heap.size+1≠B:=by omega
 have A1:Hid (∀x∈((w.heap.size+1)::X),x<C.heap.size):=fun x hx=>by
  rcases List.mem_cons.1 hx with rfl|hx
  ·exact N
  ·have:=l.o x hx;omega
 rw[←D];clear D L;clear hf b hk S;refine(zat 3 _).mono ?_;rintro e w2 ⟨rfl,F⟩;have M:=zab (zad F N k.o);have d:=zab (R.o.below F);have Q:=zab (K.o.trans (Y:=[]) (ButL.of_below F) K.o.size (by simp));clear F;obtain⟨⟨y0,y1,y2⟩,yf⟩:=zbl M.o;go_wp2;exact zbf m.o M.o d.o Q.o c Z fun W u0 u1 u2=>by simp[results,results15,go_sem,u0,u1,u2]
theorem z3j (B:Nat)(X:List Nat)(j:Jn)(w:World)(h:JAt w B X j)(hX:∀x∈X,x<w.heap.size)(hK:Ready j)(ah ab an:Int)(at0:ByteArray)(hn:an≤9223372036854775807)(ht:at0.size≤maxLen)(hf:¬400≤j.acts):
  Calls prog 15 #[.pointer (some ⟨B,0,none⟩),.agg #[.int .i64 8,.int .i64 ah,.int .i64 ab,.int .i64 an,.string at0]] w (zdf w B X (doJ j ⟨8,ah,ab,an,at0⟩)):=by
 have r:=zab h;have A5:=h.lt;have l:=h.1;have u:=zab hX;have S:=zab hK;have A6:=zab ht;have A3:=zab hn;have A2:=hK.acts0;have B1:=hK.acts1;have B0:IntKind.i64.wrap (j.acts+1)=j.acts+1:=by rw[IntKind.wrap_i64];omega
 obtain⟨_,da,dc,db,dd,na,nc,nb,nd,ne,nf,sa,sc,sb,sd,se,sf,ca,cc,fa,fc,ta,tc,I,_⟩:=id h;have c0:w.cell? ⟨B,0,none⟩=some (.int .i64 j.acts):=zak I 0;have A7:w.frozen? ⟨B,0,none⟩=false:=frozen_of_row w _ _ _ _ I;have c6:w.cell? ⟨B,6,none⟩=some (.bool j.down):=zak I 6;have A4:w.frozen? ⟨B,6,none⟩=false:=frozen_of_row w _ _ _ _ I;clear h hX hK hn ht I;have A9:¬w.heap.size=B:=by omega
 have A0:¬w.heap.size+1=B:=by omega
 have Z:Hid (doJ j ⟨8,ah,ab,an,at0⟩=zi5 ({j with acts:=j.acts+1}:Jn)):=by rw[Hid,doJ,if_neg hf,zkr];simp
 have q:¬(j.acts≥400):=hf;go_enter func15,ntmps15;go_wp2_with fail;obtain⟨C,E⟩:∃C,C=w.setCell ⟨B,0,none⟩ (.int .i64 (j.acts+1)):=⟨_,rfl⟩;rw[←E];have O:C.heap.size=w.heap.size:=by rw[E];simp[World.setCell]
 have k:Hid (JAt C B X ({j with acts:=j.acts+1}:Jn)):=by rw[E];exact r.o.putActs _
 have m:Hid (ButL [B] w.heap.size w C):=by rw[E];exact(ButL.refl _ _ _).set (.inl (by simp)) 0 _
 clear E;obtain⟨A,D⟩:∃A,A=(C.alloc (.cells #[.int .i64 8,.int .i64 ah,.int .i64 ab,.int .i64 an,.string at0] 23)).alloc (.cells #[.int .i64 0,.int .i64 0,.string ⟨#[]⟩] 31):=⟨_,rfl⟩;have M:(C.alloc (.cells #[.int .i64 8,.int .i64 ah,.int .i64 ab,.int .i64 an,.string at0] 23)).heap.size=w.heap.size+1:=by simp[O]
 have J:Below C.heap.size C A:=by rw[D];exact zae (zaa _ _) (zaa _ _)
 have c:Hid (JAt A B ((w.heap.size+1)::X) ({j with acts:=j.acts+1}:Jn)):=k.o.more J (by omega);have K:Hid (ButL [B] w.heap.size w A):=m.o.trans (Y:=[]) (ButL.of_below J) (by omega) (by simp);have s:Hid (A.heap[w.heap.size+1]?=some (.cells #[.int .i64 0,.int .i64 0,.string ⟨#[]⟩] 31 (0,0))):=by rw[D,←M];exact heap_alloc_new _ _
 have A1:A.heap.size=w.heap.size+2:=by rw[D];simp[O]
 have p:w.heap.size+1<A.heap.size:=by omega
 have Q:w.heap.size+1≠B:=by omega
 have a:Hid (∀x∈((w.heap.size+1)::X),x<A.heap.size):=fun x hx=>by
  rcases List.mem_cons.1 hx with rfl|hx
  ·exact p
  ·have:=u.o x hx;omega
 rw[←D];clear D M;clear hf q;refine(z0p B ((w.heap.size+1)::X) ({j with acts:=j.acts+1}:Jn) A c.o a.o S.o.done S.o.found S.o.next).mono ?_;rintro e U ⟨rfl,L,F⟩;have N:Hid (U.heap[w.heap.size+1]?=some (.cells #[.int .i64 0,.int .i64 0,.string ⟨#[]⟩] 31 (0,0))):=(F.block _ (by omega) (by simpa using Q)).trans s.o;have R:=zab L;have b:Hid (ButL [B] w.heap.size w U):=K.o.trans F K.o.size (by simp);have A8:A.heap.size≤U.heap.size:=F.size;clear L F;obtain⟨P,d⟩:∃P,P=zi5 ({j with acts:=j.acts+1}:Jn):=⟨_,rfl⟩;rw[←d] at Z R⊢;have i:Hid (doJ j ⟨8,ah,ab,an,at0⟩=(P.1,⟨P.2.code,P.2.n,P.2.text⟩)):=Z.o;rw[show vRp P.2=.agg #[.int .i64 P.2.code,.int .i64 P.2.n,.string P.2.text] from rfl];clear d Z;obtain⟨⟨y0,y1,y2⟩,yf⟩:=zbl N.o;go_wp2;exact zbf i.o N.o R.o b.o Q l fun W u0 u1 u2=>by simp[results,results15,go_sem,u0,u1,u2]
theorem z03 (B:Nat)(X:List Nat)(j:Jn)(w:World)(h:JAt w B X j)(hX:∀x∈X,x<w.heap.size)(hK:Ready j)(ah ab an:Int)(at0:ByteArray)(hn:an≤9223372036854775807)(ht:at0.size≤maxLen)(hf:¬400≤j.acts):
  Calls prog 15 #[.pointer (some ⟨B,0,none⟩),.agg #[.int .i64 10,.int .i64 ah,.int .i64 ab,.int .i64 an,.string at0]] w (zdf w B X (doJ j ⟨10,ah,ab,an,at0⟩)):=by
 have r:=zab h;have A4:=h.lt;have l:=h.1;have u:=zab hX;have HK:=zab hK;have A5:=zab ht;have c:=zab hn;have A2:=hK.acts0;have B0:=hK.acts1;have A9:IntKind.i64.wrap (j.acts+1)=j.acts+1:=by rw[IntKind.wrap_i64];omega
 obtain⟨_,da,dc,db,dd,na,nc,nb,nd,ne,nf,sa,sc,sb,sd,se,sf,ca,cc,fa,fc,ta,tc,I,_⟩:=id h;have c0:w.cell? ⟨B,0,none⟩=some (.int .i64 j.acts):=zak I 0;have A6:w.frozen? ⟨B,0,none⟩=false:=frozen_of_row w _ _ _ _ I;have c6:w.cell? ⟨B,6,none⟩=some (.bool j.down):=zak I 6;have A3:w.frozen? ⟨B,6,none⟩=false:=frozen_of_row w _ _ _ _ I;clear h hX hK hn ht I;have A8:¬w.heap.size=B:=by omega
 have A0:¬w.heap.size+1=B:=by omega
 have U:Hid (doJ j ⟨10,ah,ab,an,at0⟩=zi6 ({j with acts:=j.acts+1}:Jn) an):=by rw[Hid,doJ,if_neg hf,zkr];simp
 have q:¬(j.acts≥400):=hf;go_enter func15,ntmps15;go_wp2_with fail;obtain⟨C,E⟩:∃C,C=w.setCell ⟨B,0,none⟩ (.int .i64 (j.acts+1)):=⟨_,rfl⟩;rw[←E];have O:C.heap.size=w.heap.size:=by rw[E];simp[World.setCell]
 have k:Hid (JAt C B X ({j with acts:=j.acts+1}:Jn)):=by rw[E];exact r.o.putActs _
 have m:Hid (ButL [B] w.heap.size w C):=by rw[E];exact(ButL.refl _ _ _).set (.inl (by simp)) 0 _
 clear E;obtain⟨A,D⟩:∃A,A=(C.alloc (.cells #[.int .i64 10,.int .i64 ah,.int .i64 ab,.int .i64 an,.string at0] 23)).alloc (.cells #[.int .i64 0,.int .i64 0,.string ⟨#[]⟩] 31):=⟨_,rfl⟩;have M:(C.alloc (.cells #[.int .i64 10,.int .i64 ah,.int .i64 ab,.int .i64 an,.string at0] 23)).heap.size=w.heap.size+1:=by simp[O]
 have J:Below C.heap.size C A:=by rw[D];exact zae (zaa _ _) (zaa _ _)
 have b:Hid (JAt A B ((w.heap.size+1)::X) ({j with acts:=j.acts+1}:Jn)):=k.o.more J (by omega);have K:Hid (ButL [B] w.heap.size w A):=m.o.trans (Y:=[]) (ButL.of_below J) (by omega) (by simp);have s:Hid (A.heap[w.heap.size+1]?=some (.cells #[.int .i64 0,.int .i64 0,.string ⟨#[]⟩] 31 (0,0))):=by rw[D,←M];exact heap_alloc_new _ _
 have A1:A.heap.size=w.heap.size+2:=by rw[D];simp[O]
 have p:w.heap.size+1<A.heap.size:=by omega
 have Q:w.heap.size+1≠B:=by omega
 have Z:Hid (∀x∈((w.heap.size+1)::X),x<A.heap.size):=fun x hx=>by
  rcases List.mem_cons.1 hx with rfl|hx
  ·exact p
  ·have:=u.o x hx;omega
 rw[←D];clear D M;clear hf q;refine(zxz B ((w.heap.size+1)::X) ({j with acts:=j.acts+1}:Jn) A b.o Z.o an c.o).mono ?_;rintro e S ⟨rfl,L,F⟩;have N:Hid (S.heap[w.heap.size+1]?=some (.cells #[.int .i64 0,.int .i64 0,.string ⟨#[]⟩] 31 (0,0))):=(F.block _ (by omega) (by simpa using Q)).trans s.o;have R:=zab L;have a:Hid (ButL [B] w.heap.size w S):=K.o.trans F K.o.size (by simp);have A7:A.heap.size≤S.heap.size:=F.size;clear L F;obtain⟨P,d⟩:∃P,P=zi6 ({j with acts:=j.acts+1}:Jn) an:=⟨_,rfl⟩;rw[←d] at U R⊢;have i:Hid (doJ j ⟨10,ah,ab,an,at0⟩=(P.1,⟨P.2.code,P.2.n,P.2.text⟩)):=U.o;rw[show vRp P.2=.agg #[.int .i64 P.2.code,.int .i64 P.2.n,.string P.2.text] from rfl];clear d U;obtain⟨⟨y0,y1,y2⟩,yf⟩:=zbl N.o;go_wp2;exact zbf i.o N.o R.o a.o Q l fun W u0 u1 u2=>by simp[results,results15,go_sem,u0,u1,u2]
theorem z04 (B:Nat)(X:List Nat)(j:Jn)(w:World)(h:JAt w B X j)(hX:∀x∈X,x<w.heap.size)(hK:Ready j)(ah ab an:Int)(at0:ByteArray)(hn:an≤9223372036854775807)(ht:at0.size≤maxLen)(hf:¬400≤j.acts):
  Calls prog 15 #[.pointer (some ⟨B,0,none⟩),.agg #[.int .i64 11,.int .i64 ah,.int .i64 ab,.int .i64 an,.string at0]] w (zdf w B X (doJ j ⟨11,ah,ab,an,at0⟩)):=by
 have q:=zab h;have A5:=h.lt;have k:=h.1;have u:=zab hX;have r:=zab hK;have A6:=zab ht;have A3:=zab hn;have A2:=hK.acts0;have B1:=hK.acts1;have B0:IntKind.i64.wrap (j.acts+1)=j.acts+1:=by rw[IntKind.wrap_i64];omega
 obtain⟨_,da,dc,db,dd,na,nc,nb,nd,ne,nf,sa,sc,sb,sd,se,sf,ca,cc,fa,fc,ta,tc,I,_⟩:=id h;have c0:w.cell? ⟨B,0,none⟩=some (.int .i64 j.acts):=zak I 0;have A7:w.frozen? ⟨B,0,none⟩=false:=frozen_of_row w _ _ _ _ I;have c6:w.cell? ⟨B,6,none⟩=some (.bool j.down):=zak I 6;have A4:w.frozen? ⟨B,6,none⟩=false:=frozen_of_row w _ _ _ _ I;clear h hX hK hn ht I;have A9:¬w.heap.size=B:=by omega
 have A0:¬w.heap.size+1=B:=by omega
 have U:Hid (doJ j ⟨11,ah,ab,an,at0⟩=zb9 ({j with acts:=j.acts+1}:Jn)):=by rw[Hid,doJ,if_neg hf,zkr];simp
 have p:¬(j.acts≥400):=hf;go_enter func15,ntmps15;go_wp2_with fail;obtain⟨C,E⟩:∃C,C=w.setCell ⟨B,0,none⟩ (.int .i64 (j.acts+1)):=⟨_,rfl⟩;rw[←E];have O:C.heap.size=w.heap.size:=by rw[E];simp[World.setCell]
 have i:Hid (JAt C B X ({j with acts:=j.acts+1}:Jn)):=by rw[E];exact q.o.putActs _
 have l:Hid (ButL [B] w.heap.size w C):=by rw[E];exact(ButL.refl _ _ _).set (.inl (by simp)) 0 _
 clear E;obtain⟨A,D⟩:∃A,A=(C.alloc (.cells #[.int .i64 11,.int .i64 ah,.int .i64 ab,.int .i64 an,.string at0] 23)).alloc (.cells #[.int .i64 0,.int .i64 0,.string ⟨#[]⟩] 31):=⟨_,rfl⟩;have M:(C.alloc (.cells #[.int .i64 11,.int .i64 ah,.int .i64 ab,.int .i64 an,.string at0] 23)).heap.size=w.heap.size+1:=by simp[O]
 have J:Below C.heap.size C A:=by rw[D];exact zae (zaa _ _) (zaa _ _)
 have b:Hid (JAt A B ((w.heap.size+1)::X) ({j with acts:=j.acts+1}:Jn)):=i.o.more J (by omega);have K:Hid (ButL [B] w.heap.size w A):=l.o.trans (Y:=[]) (ButL.of_below J) (by omega) (by simp);have s:Hid (A.heap[w.heap.size+1]?=some (.cells #[.int .i64 0,.int .i64 0,.string ⟨#[]⟩] 31 (0,0))):=by rw[D,←M];exact heap_alloc_new _ _
 have A1:A.heap.size=w.heap.size+2:=by rw[D];simp[O]
 have m:w.heap.size+1<A.heap.size:=by omega
 have Q:w.heap.size+1≠B:=by omega
 have Z:Hid (∀x∈((w.heap.size+1)::X),x<A.heap.size):=fun x hx=>by
  rcases List.mem_cons.1 hx with rfl|hx
  ·exact m
  ·have:=u.o x hx;omega
 rw[←D];clear D M;clear hf p;refine(z0g B ((w.heap.size+1)::X) ({j with acts:=j.acts+1}:Jn) A b.o Z.o r.o.few).mono ?_;rintro e S ⟨rfl,L,F⟩;have N:Hid (S.heap[w.heap.size+1]?=some (.cells #[.int .i64 0,.int .i64 0,.string ⟨#[]⟩] 31 (0,0))):=(F.block _ (by omega) (by simpa using Q)).trans s.o;have R:=zab L;have a:Hid (ButL [B] w.heap.size w S):=K.o.trans F K.o.size (by simp);have A8:A.heap.size≤S.heap.size:=F.size;clear L F;obtain⟨P,c⟩:∃P,P=zb9 ({j with acts:=j.acts+1}:Jn):=⟨_,rfl⟩;rw[←c] at U R⊢;have d:Hid (doJ j ⟨11,ah,ab,an,at0⟩=(P.1,⟨P.2.code,P.2.n,P.2.text⟩)):=U.o;rw[show vRp P.2=.agg #[.int .i64 P.2.code,.int .i64 P.2.n,.string P.2.text] from rfl];clear c U;obtain⟨⟨y0,y1,y2⟩,yf⟩:=zbl N.o;go_wp2;exact zbf d.o N.o R.o a.o Q k fun W u0 u1 u2=>by simp[results,results15,go_sem,u0,u1,u2]
theorem zud (B:Nat)(X:List Nat)(j:Jn)(w:World)(h:JAt w B X j)(hX:∀x∈X,x<w.heap.size)(hK:Ready j)(ak ah ab an:Int)(at0:ByteArray)(hn:an≤9223372036854775807)(ht:at0.size≤maxLen)(hf:¬400≤j.acts)(h0:1≤ak)(h11:ak≤11)(k8:¬ak=8)(k10:¬ak=10)(k11:¬ak=11)(hd:j.down=true):
  Calls prog 15 #[.pointer (some ⟨B,0,none⟩),.agg #[.int .i64 ak,.int .i64 ah,.int .i64 ab,.int .i64 an,.string at0]] w (zdf w B X (doJ j ⟨ak,ah,ab,an,at0⟩)):=by
 have k:=zab h;have A6:=h.lt;have Z:=h.1;have q:=zab hX;have HK:=zab hK;have A7:=zab ht;have A4:=zab hn;have A3:=hK.acts0;have B1:=hK.acts1;have B0:IntKind.i64.wrap (j.acts+1)=j.acts+1:=by rw[IntKind.wrap_i64];omega
 obtain⟨_,da,dc,db,dd,na,nc,nb,nd,ne,nf,sa,sc,sb,sd,se,sf,ca,cc,fa,fc,ta,tc,I,_⟩:=id h;have c0:w.cell? ⟨B,0,none⟩=some (.int .i64 j.acts):=zak I 0;have A8:w.frozen? ⟨B,0,none⟩=false:=frozen_of_row w _ _ _ _ I;have m:w.cell? ⟨B,6,none⟩=some (.bool j.down):=zak I 6;have A5:w.frozen? ⟨B,6,none⟩=false:=frozen_of_row w _ _ _ _ I;clear h hX hK hn ht I;have A9:¬w.heap.size=B:=by omega
 have A0:¬w.heap.size+1=B:=by omega
 have s:Hid (doJ j ⟨ak,ah,ab,an,at0⟩=(({j with acts:=j.acts+1}:Jn),zas 10)):=by rw[Hid,doJ,if_neg hf,zkr,if_neg (by simp only;omega),if_neg k8,if_neg k10,if_neg k11,if_pos hd]
 have b:¬(j.acts≥400):=hf;have r:(ak==8)=false:=by simpa using k8
 have c:(ak==10)=false:=by simpa using k10
 have Q:(ak==11)=false:=by simpa using k11
 have n:¬ak<1:=by omega
 have l:¬ak>11:=by omega
 rw[hd] at m;go_enter func15,ntmps15;go_wp2_with fail;obtain⟨A,E⟩:∃A,A=w.setCell ⟨B,0,none⟩ (.int .i64 (j.acts+1)):=⟨_,rfl⟩;rw[←E];have O:A.heap.size=w.heap.size:=by rw[E];simp[World.setCell]
 have U:Hid (JAt A B X ({j with acts:=j.acts+1}:Jn)):=by rw[E];exact k.o.putActs _
 have a:Hid (ButL [B] w.heap.size w A):=by rw[E];exact(ButL.refl _ _ _).set (.inl (by simp)) 0 _
 clear E;obtain⟨C,D⟩:∃C,C=(A.alloc (.cells #[.int .i64 ak,.int .i64 ah,.int .i64 ab,.int .i64 an,.string at0] 23)).alloc (.cells #[.int .i64 0,.int .i64 0,.string ⟨#[]⟩] 31):=⟨_,rfl⟩;have L:(A.alloc (.cells #[.int .i64 ak,.int .i64 ah,.int .i64 ab,.int .i64 an,.string at0] 23)).heap.size=w.heap.size+1:=by simp[O]
 have J:Below A.heap.size A C:=by rw[D];exact zae (zaa _ _) (zaa _ _)
 have S:Hid (JAt C B ((w.heap.size+1)::X) ({j with acts:=j.acts+1}:Jn)):=U.o.more J (by omega);have K:Hid (ButL [B] w.heap.size w C):=a.o.trans (Y:=[]) (ButL.of_below J) (by omega) (by simp);have p:Hid (C.heap[w.heap.size+1]?=some (.cells #[.int .i64 0,.int .i64 0,.string ⟨#[]⟩] 31 (0,0))):=by rw[D,←L];exact heap_alloc_new _ _
 have A2:C.heap.size=w.heap.size+2:=by rw[D];simp[O]
 have N:w.heap.size+1<C.heap.size:=by omega
 have d:w.heap.size+1≠B:=by omega
 have A1:Hid (∀x∈((w.heap.size+1)::X),x<C.heap.size):=fun x hx=>by
  rcases List.mem_cons.1 hx with rfl|hx
  ·exact N
  ·have:=q.o x hx;omega
 rw[←D];clear D L;clear hf b k8 r k10 c k11 Q n l h0 h11;refine(zat 10 _).mono ?_;rintro e w2 ⟨rfl,F⟩;have M:=zab (zad F N p.o);have i:=zab (S.o.below F);have R:=zab (K.o.trans (Y:=[]) (ButL.of_below F) K.o.size (by simp));clear F;obtain⟨⟨y0,y1,y2⟩,yf⟩:=zbl M.o;go_wp2;exact zbf s.o M.o i.o R.o d Z fun W u0 u1 u2=>by simp[results,results15,go_sem,u0,u1,u2]
theorem z05 (B:Nat)(X:List Nat)(j:Jn)(w:World)(h:JAt w B X j)(hX:∀x∈X,x<w.heap.size)(hK:Ready j)(ak ah ab an:Int)(at0:ByteArray)(hn:an≤9223372036854775807)(ht:at0.size≤maxLen)(hf:¬400≤j.acts)(h0:1≤ak)(h11:ak≤11)(k8:¬ak=8)(k10:¬ak=10)(k11:¬ak=11)(hd:j.down=false):
  Calls prog 15 #[.pointer (some ⟨B,0,none⟩),.agg #[.int .i64 ak,.int .i64 ah,.int .i64 ab,.int .i64 an,.string at0]] w (zdf w B X (doJ j ⟨ak,ah,ab,an,at0⟩)):=by
 have HJ:=zab h;have A8:=h.lt;have r:=h.1;have HX:=zab hX;have HK:=zab hK;have q:=zab ht;have A6:=zab hn;have A1:=hK.acts0;have B0:=hK.acts1;have A4:IntKind.i64.wrap (j.acts+1)=j.acts+1:=by rw[IntKind.wrap_i64];omega
 obtain⟨_,da,dc,db,dd,na,nc,nb,nd,ne,nf,sa,sc,sb,sd,se,sf,ca,cc,fa,fc,ta,tc,I,_⟩:=id h;have c0:w.cell? ⟨B,0,none⟩=some (.int .i64 j.acts):=zak I 0;have A2:w.frozen? ⟨B,0,none⟩=false:=frozen_of_row w _ _ _ _ I;have y:w.cell? ⟨B,6,none⟩=some (.bool j.down):=zak I 6;have A7:w.frozen? ⟨B,6,none⟩=false:=frozen_of_row w _ _ _ _ I;clear h hX hK hn ht I;have A3:¬w.heap.size=B:=by omega
 have A0:¬w.heap.size+1=B:=by omega
 have U:Hid (doJ j ⟨ak,ah,ab,an,at0⟩=za3 ({j with acts:=j.acts+1}:Jn) ⟨ak,ah,ab,an,at0⟩):=by rw[Hid,doJ,if_neg hf,zkr,if_neg (by simp only;omega),if_neg k8,if_neg k10,if_neg k11,if_neg (by simp[hd])]
 have d:Hid (Ready ({j with acts:=j.acts+1}:Jn)):=HK.o.bump _ (by omega) (by omega);have l:¬(j.acts≥400):=hf;have b8:(ak==8)=false:=by simpa using k8
 have u:(ak==10)=false:=by simpa using k10
 have m:(ak==11)=false:=by simpa using k11
 have z:¬ak<1:=by omega
 have r2:¬ak>11:=by omega
 rw[hd] at y;go_enter func15,ntmps15;go_wp2_with fail;obtain⟨C,E⟩:∃C,C=w.setCell ⟨B,0,none⟩ (.int .i64 (j.acts+1)):=⟨_,rfl⟩;rw[←E];have O:C.heap.size=w.heap.size:=by rw[E];simp[World.setCell]
 have i:Hid (JAt C B X ({j with acts:=j.acts+1}:Jn)):=by rw[E];exact HJ.o.putActs _
 have k:Hid (ButL [B] w.heap.size w C):=by rw[E];exact(ButL.refl _ _ _).set (.inl (by simp)) 0 _
 clear E;obtain⟨A,D⟩:∃A,A=(C.alloc (.cells #[.int .i64 ak,.int .i64 ah,.int .i64 ab,.int .i64 an,.string at0] 23)).alloc (.cells #[.int .i64 0,.int .i64 0,.string ⟨#[]⟩] 31):=⟨_,rfl⟩;have M:(C.alloc (.cells #[.int .i64 ak,.int .i64 ah,.int .i64 ab,.int .i64 an,.string at0] 23)).heap.size=w.heap.size+1:=by simp[O]
 have J:Below C.heap.size C A:=by rw[D];exact zae (zaa _ _) (zaa _ _)
 have b:Hid (JAt A B ((w.heap.size+1)::X) ({j with acts:=j.acts+1}:Jn)):=i.o.more J (by omega);have K:Hid (ButL [B] w.heap.size w A):=k.o.trans (Y:=[]) (ButL.of_below J) (by omega) (by simp);have KR:Hid (A.heap[w.heap.size+1]?=some (.cells #[.int .i64 0,.int .i64 0,.string ⟨#[]⟩] 31 (0,0))):=by rw[D,←M];exact heap_alloc_new _ _
 have A5:A.heap.size=w.heap.size+2:=by rw[D];simp[O]
 have s:w.heap.size+1<A.heap.size:=by omega
 have R:w.heap.size+1≠B:=by omega
 have Z:Hid (∀x∈((w.heap.size+1)::X),x<A.heap.size):=fun x hx=>by
  rcases List.mem_cons.1 hx with rfl|hx
  ·exact s
  ·have:=HX.o x hx;omega
 rw[←D];clear D M;clear hf l k8 b8 k10 u k11 m z r2 h0 h11;refine(zr1 B ((w.heap.size+1)::X) ({j with acts:=j.acts+1}:Jn) A b.o Z.o d.o ⟨ak,ah,ab,an,at0⟩ q.o).mono ?_;rintro e S ⟨rfl,L,F⟩;have N:Hid (S.heap[w.heap.size+1]?=some (.cells #[.int .i64 0,.int .i64 0,.string ⟨#[]⟩] 31 (0,0))):=(F.block _ (by omega) (by simpa using R)).trans KR.o;have Q:=zab L;have a:Hid (ButL [B] w.heap.size w S):=K.o.trans F K.o.size (by simp);have A9:A.heap.size≤S.heap.size:=F.size;clear L F;obtain⟨P,p⟩:∃P,P=za3 ({j with acts:=j.acts+1}:Jn) ⟨ak,ah,ab,an,at0⟩:=⟨_,rfl⟩;rw[←p] at U Q⊢;have c:Hid (doJ j ⟨ak,ah,ab,an,at0⟩=(P.1,⟨P.2.code,P.2.n,P.2.text⟩)):=U.o;rw[show vRp P.2=.agg #[.int .i64 P.2.code,.int .i64 P.2.n,.string P.2.text] from rfl];clear p U;obtain⟨⟨y0,y1,y2⟩,yf⟩:=zbl N.o;go_wp2;exact zbf c.o N.o Q.o a.o R r fun W u0 u1 u2=>by simp[results,results15,go_sem,u0,u1,u2]
theorem zmi (B:Nat)(X:List Nat)(j:Jn)(w:World)(h:JAt w B X j)(hX:∀x∈X,x<w.heap.size)(hK:Ready j)(ac:Ac)(hn:ac.n≤9223372036854775807)(ht:ac.text.size≤maxLen):
  Calls prog 15 #[.pointer (some ⟨B,0,none⟩),vAc ac] w (zdf w B X (doJ j ac)):=by
 obtain⟨C,E,D,an,A⟩:=ac;by_cases hf:400≤j.acts
 ·exact zub B X j w h hX hK C E D an A hn ht hf
 by_cases hl:C<1
 ·exact zx0 B X j w h hX hK C E D an A hn ht hf hl
 by_cases hh:11<C
 ·exact zuc B X j w h hX hK C E D an A hn ht hf hh
 by_cases k8:C=8
 ·subst k8;exact z3j B X j w h hX hK E D an A hn ht hf
 by_cases k10:C=10
 ·subst k10;exact z03 B X j w h hX hK E D an A hn ht hf
 by_cases k11:C=11
 ·subst k11;exact z04 B X j w h hX hK E D an A hn ht hf
 cases hd:j.down with
 |true=>exact zud B X j w h hX hK C E D an A hn ht hf (by omega) (by omega) k8 k10 k11 hd
 |false=>exact z05 B X j w h hX hK C E D an A hn ht hf (by omega) (by omega) k8 k10 k11 hd
open Go.RowKit
theorem z3v:goodM (zbq 0 1)=0:=by kernel_rfl
def z07:Dk:=⟨encT (zbq 0 1)::List.replicate 36 (fitT ⟨#[]⟩),[]⟩
theorem z4m:zx5=zfb z07 0 1:=rfl
def zmj (bs:Nat)(D:Nat)(g:Nat)(c:Nat)(s:ByteArray):Nat→Value→World→Prop
 |0,v,_=>v=.pointer (some ⟨D,0,none⟩)
 |1,v,_=>v=.slice (some ⟨g,0,none⟩) 37 c
 |2,v,_=>v=.agg #[.int .i64 1,.int .i64 1,.int .i64 0,.slice none 0 0,.slice none 0 0]
 |3,v,_=>v=.tuple #[.string s,.int .i64 0]
 |4,v,_=>v=.tuple #[.string s,.int .i64 0]
 |5,v,_=>v=.string s
 |6,v,_=>v=.int .i64 0
 |7,v,_=>v=.pointer (some ⟨g,0,none⟩)
 |8,_,w=>w.ownsRow bs 9 1 (.slice (some ⟨g,0,none⟩) 37 c) 37 (cellsS (s::List.replicate 36 (fitT ⟨#[]⟩)))
 |_,_,_=>True
theorem zr2 {bs:Nat}{D:Nat}{g:Nat}{c:Nat}{s:ByteArray}{w w':World}(hb:Below w.heap.size w w'){i:Nat}:∀kk uu,kk≠i→zmj bs D g c s kk uu w→zmj bs D g c s kk uu w':=by
 intro kk uu _ h
 match kk,h with
 |0,h|1,h|2,h|3,h|4,h|5,h|6,h|7,h=>exact h
 |8,h=>exact zah h hb
 |_+9,_=>exact trivial
theorem zx1 {bs:Nat}{D:Nat}{g:Nat}{c:Nat}{s:ByteArray}{w w':World}:∀kk x,kk≠8→zmj bs D g c s kk x w→zmj bs D g c s kk x w':=by
 intro kk x A h
 match kk,h with
 |0,h|1,h|2,h|3,h|4,h|5,h|6,h|7,h=>exact h
 |8,_=>exact absurd rfl A
 |_+9,_=>exact trivial
def newR (w:World)(D g c:Nat)(w':World):Prop:=Below w.heap.size w w'∧w'.heap[D]?=some (.cells #[.slice (some ⟨g,0,none⟩) 37 c,.slice none 0 0] 46 (0,0))∧∃t,w'.ownsRow w.heap.size 9 1 (.slice (some ⟨g,0,none⟩) 37 c) 37 (cellsS (t::List.replicate 36 (fitT ⟨#[]⟩)))
theorem newR.below {w:World}{D g c:Nat}{w' w2:World}(h:newR w D g c w')(hb:Below w'.heap.size w' w2):newR w D g c w2:=⟨zae h.1 hb,zad hb (Array.getElem?_eq_some_iff.1 h.2.1).1 h.2.1,h.2.2.imp fun _ ho=>zah ho hb⟩
theorem zvb (w:World):
  Calls prog 41 #[] w fun e w'=>∃B,e=.returned (.pointer (some ⟨B,0,none⟩))∧w.heap.size≤B∧(∀X:List Nat,(∀x∈X,x<w.heap.size)→JAt w' B (B::X) zx5)∧Below w.heap.size w w':=by
 obtain⟨s,hs⟩:∃s,s=encT (zbq 0 1):=⟨_,rfl⟩;have HS:=zab hs;clear hs;go_enter func41,ntmps41;go_wp2_with fail;refine(z4l _).mono ?_;rintro e C ⟨g,c,rfl,M,j⟩;have q:=M.lt g rfl;have A9:w.heap.size≤g:=q.1;have C4:g<C.heap.size:=q.2;go_wp2;rename_i KK m;obtain⟨U,J⟩:∃U,U=C.alloc (.cells #[.slice (some ⟨g,0,none⟩) 37 c,.slice none 0 0] 46):=⟨_,rfl⟩;have O:Below C.heap.size C U:=by rw[J];exact zaa _ _
 have A8:=zab (zah M O);have A7:=zab (zae j O);have KD:Hid (U.heap[C.heap.size]?=some (.cells #[.slice (some ⟨g,0,none⟩) 37 c,.slice none 0 0] 46 (0,0))):=by rw[J];exact heap_alloc_new _ _
 have C6:U.heap.size=C.heap.size+1:=by rw[J];simp
 have C1:w.heap.size≤C.heap.size:=j.size;rw[←J];clear J O M j q;have B2:Hid (newR w C.heap.size g c U):=⟨A7.o,KD.o,fitT ⟨#[]⟩,A8.o⟩
 have Z:∀(g0 g2 g3 g4 g5 g6 g7 g8 g9 A4 A5 A3 u:Value) (W:World),W.ownsRow w.heap.size 9 1 (.slice (some ⟨g,0,none⟩) 37 c) 37 (cellsS (s::List.replicate 36 (fitT ⟨#[]⟩)))→Below w.heap.size w W→W.heap[C.heap.size]?=some (.cells #[.slice (some ⟨g,0,none⟩) 37 c,.slice none 0 0] 46 (0,0))→KK ⟨#[g0,.pointer (some ⟨C.heap.size,0,none⟩),g2,g3,g4,g5,g6,g7,g8,g9,A4,A5,A3,u],[]⟩ W:=by
  intro g0 g2 g3 g4 g5 g6 g7 g8 g9 A4 A5 A3 u W3 F y A2;apply m;clear m;have B8:=zab F;have B0:=zab y;have C0:=zab A2;obtain⟨⟨y0,y1⟩,_⟩:=zgk C0.o;clear F y A2;go_wp2_with fail;refine(zrq z07 (some ⟨g,0,none⟩) c none 0 0 1 W3 (by decide+kernel)).mono ?_;rintro e Y ⟨rfl,Q⟩;have k:=zab (zah B8.o Q);have R:=zab (zae B0.o Q);have C7:W3.heap.size≤Y.heap.size:=Q.size;clear y0 y1 Q;obtain⟨L,n⟩:∃L,L=zbs (zfb z07 0 1) (some ⟨g,0,none⟩) c none 0 none 0 none 0 none 0 none 0 none 0 none 0 none 0 none 0 none 0:=⟨_,rfl⟩;rw[←n];have S:=zab n;have B5:Hid ((prog.info? 93).map (·.size)=some L.size):=by rw[Hid,S.o];exact z3c _ _ _ _ _ _ _ _ _ _ _ _ _ _ _ _ _ _ _ _ _ _ _
  have B1:Hid (L.all (·.oneCell')=true):=by rw[Hid,S.o];exact zhv _ _ _ _ _ _ _ _ _ _ _ _ _ _ _ _ _ _ _ _ _ _ _
  have B6:Hid (57=L.size):=by rw[Hid,S.o];kernel_rfl
  clear n;dsimp only
  repeat (first|(refine wpList_store_rowTo rfl _ _ _ rfl rfl Y.heap.size L rfl rfl _ _ (heap_alloc_new _ _) B5.o B6.o B1.o ?_)|go_step)
  refine bodyPost_ret (results_tmp rfl _ _ _) rfl ⟨Y.heap.size,rfl,R.o.size,fun X hX=>?_,?_⟩
  ·rw[S.o,z4m];refine JAt.putAll (by simp) (heap_alloc_new Y _) (some ⟨g,0,none⟩) c none 0 none 0 none 0 none 0 none 0 none 0 none 0 none 0 none 0 none 0 ⟨?_,zq8 _ _,zq8 _ _,.inl rfl,.inl rfl,.inl rfl,z3b _,Nat.le_refl _,Nat.le_refl _,Nat.le_refl _⟩;have C3:g<Y.heap.size:=(k.o.lt g rfl).2;obtain⟨a2,c2,hv,hS,_⟩:=SegS.of_owns (zah k.o (zaa Y _));simp only[Value.slice.injEq] at hv;obtain⟨rfl,_,rfl⟩:=hv;rw[HS.o] at hS;refine⟨some ⟨g,0,none⟩,c,none,0,rfl,?_,.inl rfl,by decide+kernel,by decide+kernel⟩;rcases hS with h0|⟨b,off,he,hlt,hc⟩
   ·cases h0
   ·cases he;refine .inr ⟨g,0,rfl,by rw[zbh];exact hlt,fun i hi=>zbz ?_ (hc i hi)⟩;simp only[List.mem_cons,not_or];exact⟨by omega,fun hx=>by have:=hX g hx;omega⟩
  ·exact((ButL.of_below (X:=[]) (R.o.alloc R.o.size _)).setRow (.inr R.o.size) L).below
 have r:=zab Z;clear Z m;refine(show∀A0:Act,A0=_→Code.wp prog _ _ A0 _ from fun A0 hA0=>?_) _ rfl;have D:A0.tmps.size=14:=by rw[hA0];rfl
 have B9:A0.defers=[]:=by rw[hA0]
 have v1:A0.eval (.tmp 1)=.pointer (some ⟨C.heap.size,0,none⟩):=by rw[hA0];rfl
 clear hA0;refine zez (fun w'=>newR w C.heap.size g c w') [5,6,7,8,4,9,10,11,11] (zmj w.heap.size C.heap.size g c s) (by kernel_rfl) (by kernel_rfl) (by kernel_rfl) (B2.o.below (Below.refl _ _).drew) ⟨?_,?_,?_,?_,?_,?_,?_,?_,?_,trivial⟩ ?_
 ·exact zbc v1 D (fun _=>rfl) fun ρ w' A z=>by simp only[execOp];go_simp
 ·exact zal 0 5 D (fun _ _ h=>h) (fun _=>rfl) fun ρ w' A p=>by have c0:w'.cell? ⟨C.heap.size,0,none⟩=some (.slice (some ⟨g,0,none⟩) 37 c):=(zgk A.2.1).1.1;simp only[execOp];go_simp
 ·intro a w' E A I;exact zgi _ rfl rfl (by have K:=Act.eval_const a (.int .i64 1);revert K;generalize a.eval=ρ;intro K;simp only[execOp];go_simp) E D A rfl
 ·intro a w' E A I;have p7:a.eval (.tmp 7)=.agg #[.int .i64 1,.int .i64 1,.int .i64 0,.slice none 0 0,.slice none 0 0]:=I ⟨2,.data⟩ (by simp) rfl;refine zbp 70 #[.agg #[.int .i64 1,.int .i64 1,.int .i64 0,.slice none 0 0,.slice none 0 0]] rfl rfl (by have pf:=Act.eval_func a 70;revert p7 pf;generalize a.eval=ρ;intro p7 pf;simp only[execOp];go_simp) _ (zds _ (zbq 0 1) _ ⟨none,0,none,0,rfl,.inl rfl,.inl rfl,Nat.zero_le _,Nat.zero_le _⟩) ?_;rintro e w2 ⟨rfl,A6⟩;refine⟨_,rfl,_,rfl,A.below A6,?_,zr2 A6⟩;show zmj _ _ _ _ _ _ ((a.put (some 8) _).eval (.tmp 8)) w2;rw[zav E D (by decide)];rw[HS.o,z3v];exact rfl
 ·exact zal 3 8 D (fun _ _ h=>h) (fun _=>rfl) fun ρ w' A p=>by simp only[execOp];go_simp
 ·exact zal 4 4 D (fun _ _ h=>h) (fun _=>rfl) fun ρ w' A p=>by simp only[execOp];go_simp
 ·exact zal 4 4 D (fun _ _ h=>h) (fun _=>rfl) fun ρ w' A p=>by simp only[execOp];go_simp
 ·intro a w' E A I;have p6:a.eval (.tmp 6)=.slice (some ⟨g,0,none⟩) 37 c:=I ⟨1,.data⟩ (by simp) rfl;exact zgi _ rfl rfl (by have K:=Act.eval_const a (.int .i64 0);revert p6 K;generalize a.eval=ρ;intro p6 K;simp only[execOp];go_simp) E D A rfl
 ·intro a w' E A I;have p9:a.eval (.tmp 9)=.string s:=I ⟨5,.data⟩ (by simp) rfl;have A1:a.eval (.tmp 11)=.pointer (some ⟨g,0,none⟩):=I ⟨7,.data⟩ (by simp) rfl;obtain⟨B7,B4,t,d⟩:=A;have C5:w'.cell? ⟨g,0,none⟩=some (.string t):=by rw[d.cellAt 0 (by decide)];rfl
  have C2:w'.frozen? ⟨g,0,none⟩=false:=d.frozenAt 0;have F:=(d.stored 0 (.string s)).1;have l:(w'.setCell ⟨g,0,none⟩ (.string s)).ownsRow w.heap.size 9 1 (.slice (some ⟨g,0,none⟩) 37 c) 37 (cellsS (s::List.replicate 36 (fitT ⟨#[]⟩))):=F;refine zcf rfl rfl (w':=w'.setCell ⟨g,0,none⟩ (.string s)) (by revert p9 A1;generalize a.eval=ρ;intro p9 A1;simp only[execOp];go_simp) ⟨_,rfl,⟨B7.setCell (p:=⟨g,0,none⟩) A9 _,(Below.heap_setCell _ _ _ _ (by simp only;omega)).trans B4,s,l⟩,?_,zx1⟩;show zmj _ _ _ _ _ _ _ _;exact l
 ·intro a W E A I;have F:W.ownsRow w.heap.size 9 1 (.slice (some ⟨g,0,none⟩) 37 c) 37 (cellsS (s::List.replicate 36 (fitT ⟨#[]⟩))):=I 8 (by decide);have B3:a.tmps.size=14:=E.size.trans D;have f1:a.eval (.tmp 1)=.pointer (some ⟨C.heap.size,0,none⟩):=(E.other 1 rfl).trans v1;have N:a=⟨#[_,_,_,_,_,_,_,_,_,_,_,_,_,_],[]⟩:=zcd a 14 B3 (E.defers.trans B9);dsimp only at N;rw[f1] at N;show KK a _;exact(congrArg (fun x=>KK x _) N).mpr (r.o (a.eval (.tmp 0)) (a.eval (.tmp 2)) (a.eval (.tmp 3)) (a.eval (.tmp 4)) (a.eval (.tmp 5)) (a.eval (.tmp 6)) (a.eval (.tmp 7)) (a.eval (.tmp 8)) (a.eval (.tmp 9)) (a.eval (.tmp 10)) (a.eval (.tmp 11)) (a.eval (.tmp 12)) (a.eval (.tmp 13)) W F A.1 A.2.1)
end Go.Proofs.YtjnpndfpajjihacGreat


namespace Go.Proofs.YtjnpndfpajjihacGreat
open Go.RowKit
theorem Move.acts {j:Jn}{a:Ac}{j':Jn}{r:Rp}(m:Move j a j' r):j'.acts=j.acts:=by
 cases m with
 |last hk s hs he=>
  rw[zb5];split
  ·rfl
  split
  ·rfl
  split
  ·rfl
  ·rfl
 |_=>rfl
theorem z3w {j:Jn}{D:Dk}(h:Md j D)(a:Ac)(h0:0≤j.acts)(h1:j.acts≤400):
  (400≤j.acts∧doJ j a=(j,zas 11))∨(j.acts<400∧(doJ j a).1.acts=j.acts+1∧∃D',Md (doJ j a).1 D'∧Trans {j with acts:=j.acts+1} D a (doJ j a).1 (doJ j a).2 D'):=by
 by_cases hf:400≤j.acts
 ·exact .inl ⟨hf,by rw[doJ,if_pos hf]⟩
 ·have e:doJ j a=zkr {j with acts:=j.acts+1} a:=by rw[doJ,if_neg hf]
  have m:=zzj {j with acts:=j.acts+1} a;rw[e];refine .inr ⟨by omega,m.acts,(h.bump (x:=j.acts+1) (by omega)).move m (fun hk hs=>?_)⟩;show j.now.seq≤j.acts+1
  cases h with
  |idle p hs hz hD ht hq=>exact p.seq
  |commit P U k p hw hk hs hD ht he hse hrh hru hq hN=>exact p.seq
  |check k p hw hz hk hs hD ht hq=>exact p.seq
  |off l N P U p hs hf hD ht=>rw[p.now];show(0:Int)≤_;omega
  |back U k p hw hk hs hD ht=>rw[p.now];show(0:Int)≤_;omega
theorem z08:Tells z07 [] 1 0 0:=by
 have A:za2 z07=true:=by kernel_rfl
 refine zq0 A rfl (by kernel_rfl) z3v (fun n h1 h2=>?_)
 have C:zam z07 n=fitT ⟨#[]⟩:=by
  rw[z07,zgv A (by omega)];obtain⟨m,rfl⟩:∃m,n=m+1:=⟨n - 1,by omega⟩;rw[List.getD_cons_succ,List.getD,List.getElem?_replicate,if_pos (by omega)];rfl
 rw[C];intro B;rw[z06] at B;cases B
theorem z3x:Md zx5 z07:=.idle ⟨rfl,zo6 (by decide) (by decide),by decide,rfl,rfl,fun hb=>by cases hb⟩ rfl rfl rfl z08 rfl
theorem Md.ready {j:Jn}{D:Dk}(h:Md j D)(h0:0≤j.acts)(h1:j.acts≤400):Ready j:=by
 have B:∀x:Int, -10≤x→x≤1000→IntKind.i64.wrap x=x:=fun x _ _=>by rw[IntKind.wrap_i64];omega
 have F:∀{l:List Tx} {N P U:Int},Pow j→j.done.length≤24→j.now.seq≤j.last+2→j.last+1≤j.now.seq→0≤j.last→0≤j.ru→j.ru≤24→Ready j:=by
  intro _ _ _ _ p hd J A0 hl K R;have E:=za1 p.good;have A6:=p.seq;refine⟨by omega,by rw[p.fL];exact Nat.zero_le _,by rw[p.fN];exact B _ (by omega) (by omega),B _ (by omega) (by omega),B _ (by omega) (by omega),by omega,by omega,(fun hd2=>by rw[p.up] at hd2;cases hd2),K,R,h0,h1⟩
 have len:∀{N P U:Int},Tells D (j.done.map zdm) N P U→j.done.length≤24:=by
  intro N P U A;have C:=zom D;rw[A.tL,List.length_map] at C;exact C
 have L:∀{N:Int},Dn j N→j.fL.length≤24→ -1≤j.fN→j.fN≤402→(j.steps=[]→∀t∈fndL j.disk,Few t)→Ready j:=by
  intro N p O A5 A2 I;have C:=p.lo;have S:=p.seq;have Q:=p.last0;refine⟨by rw[p.done];exact Nat.zero_le _,by unfold maxLen;omega,B _ (by omega) (by omega),by rw[p.now];exact B _ (by decide) (by decide),B _ (by omega) (by omega),by rw[p.now];decide,by rw[p.now];decide,fun _=>I,by rw[p.ru];exact Int.le_refl _,by rw[p.ru];decide,h0,h1⟩
 cases h with
 |idle p E hz hD A J=>have:=A.range;exact F (l:=[]) (N:=0) (P:=0) (U:=0) p (len A) (by omega) (by omega) (by omega) (by omega) (by omega)
 |commit P U k p hw hk E hD A he hse hrh hru J hN=>
  have:=A.range;obtain⟨_,M,_,A3,A4⟩:=zbx he;have hn:=zev j.sealed (za1 M).1 (za1 M).2.2
  have A1:zci P U j.sealed=U+needN j.sealed.info.length j.sealed.rev.length:=by
   have C:=he;unfold sealE at C;split at C
   ·cases C
   ·rw[zci,if_pos he,takeU,if_pos C]
  exact F (l:=[]) (N:=0) (P:=0) (U:=0) p (len A) (by omega) (by omega) (by omega) (by omega) (by omega)
 |check k p hw hz hk E hD A J=>have:=A.range;exact F (l:=[]) (N:=0) (P:=0) (U:=0) p (len A) (by omega) (by omega) (by omega) (by omega) (by omega)
 |off l N P U p E O hD A=>
  refine L p (by rw[O.1];exact Nat.zero_le _) (by omega) (by omega) (fun _ t ht2=>z2u (A.goods t ?_))
  rwa [hD,A.tL] at ht2
 |back U k p hw hk E hD A=>
  have C:=A.range;have S:=p.seq;refine L p (by have Q:=zom D;rwa [A.tL] at Q) (by omega) (by omega) (fun hs2=>?_);rw[hs2] at E;have:=congrArg List.length E;rw[List.length_drop] at this;simp at this;omega
def PJ (j:Jn):Prop:=∃D,Md j D∧0≤j.acts∧j.acts≤400
theorem PJ.ready {j:Jn}(h:PJ j):Ready j:=by
 obtain⟨D,B,A,C⟩:=h;exact B.ready A C
theorem PJ.do {j:Jn}(h:PJ j)(a:Ac):PJ (doJ j a).1:=by
 obtain⟨D,B,A,C⟩:=h;rcases z3w B a A C with⟨h4,h5⟩|⟨h4,h5,D',h6,_⟩
 ·rw[h5];exact⟨D,B,A,C⟩
 ·exact⟨D',h6,by omega,by omega⟩
theorem PJ.new:PJ zx5:=⟨z07,z3x,by decide,by decide⟩
def al1:Jn:=(doJ zx5 ⟨1,0,0,2,⟨#[]⟩⟩).1
def al2:Jn:=(doJ al1 ⟨2,0,3,0,⟨#[120]⟩⟩).1
def al3:Jn:=(doJ al2 ⟨9,0,3,0,⟨#[]⟩⟩).1
theorem z5w:(doJ zx5 ⟨1,0,0,2,⟨#[]⟩⟩).2.code=0:=by kernel_rfl
theorem z5x:(doJ al1 ⟨2,0,3,0,⟨#[120]⟩⟩).2.code=0:=by kernel_rfl
theorem z3y:(doJ al2 ⟨9,0,3,0,⟨#[]⟩⟩).2.n=1∧(doJ al2 ⟨9,0,3,0,⟨#[]⟩⟩).2.text=fitT ⟨#[120]⟩:=⟨by kernel_rfl,by kernel_rfl⟩
theorem z5y:(doJ al3 ⟨6,0,0,0,⟨#[]⟩⟩).2.code=9:=by kernel_rfl
def zvc (R1:Nat)(R2:Nat)(R3:Nat)(R4:Nat)(z:ByteArray):Nat→Value→World→Prop
 |0,v,_=>v=.pointer (some ⟨R1,0,none⟩)
 |1,v,_=>v=.int .i64 0
 |2,v,_=>v=.bool true
 |3,v,_=>v=.bool true
 |4,v,_=>v=.pointer (some ⟨R2,0,none⟩)
 |5,v,_=>v=.int .i64 0
 |6,v,_=>v=.bool true
 |7,v,_=>v=.bool true
 |8,v,_=>v=.bool true
 |9,v,_=>v=.pointer (some ⟨R3,2,none⟩)
 |10,v,_=>v=.string z
 |11,v,_=>v=.string z
 |12,v,_=>v=.bool true
 |13,v,_=>v=.bool true
 |14,v,_=>v=.bool true
 |15,v,_=>v=.pointer (some ⟨R3,1,none⟩)
 |16,v,_=>v=.int .i64 1
 |17,v,_=>v=.bool true
 |18,v,_=>v=.bool true
 |19,v,_=>v=.bool true
 |20,v,_=>v=.pointer (some ⟨R4,0,none⟩)
 |21,v,_=>v=.int .i64 9
 |22,v,_=>v=.bool true
 |23,v,_=>v=.bool true
 |24,v,_=>v=.bool true
 |_,_,_=>True
theorem zr3 {R1:Nat}{R2:Nat}{R3:Nat}{R4:Nat}{z:ByteArray}{w w':World}(_hb:Below w.heap.size w w'){i:Nat}:∀kk uu,kk≠i→zvc R1 R2 R3 R4 z kk uu w→zvc R1 R2 R3 R4 z kk uu w':=by
 intro kk uu _ h
 match kk,h with
 |0,h|1,h|2,h|3,h|4,h|5,h|6,h|7,h|8,h|9,h|10,h|11,h|12,h|13,h|14,h|15,h|16,h|17,h|18,h|19,h|20,h|21,h|22,h|23,h|24,h=>exact h
 |_+25,_=>exact trivial
theorem z09 (w:World):Calls Tryz.prog 39 #[] w fun e w'=>e=.returned (.bool true)∧Below w.heap.size w w':=by
 obtain⟨z,hz⟩:∃z,z=fitT ⟨#[120]⟩:=⟨_,rfl⟩;have HZ:=zab hz;clear hz;go_enter Tryz.func39,Tryz.ntmps39;go_wp2_with fail;refine(zvb _).mono ?_;rintro e w1 ⟨B,rfl,G7,R,F⟩;have B7:=zab (R [] (by simp));have G0:B<w1.heap.size:=B7.o.lt;have B5:=zab F;have G6:w.heap.size≤w1.heap.size:=F.size;have A3:=zab PJ.new
 have C9:Hid (∀P,P=doJ zx5 ⟨1,0,0,2,⟨#[]⟩⟩→P.2.code=0∧∀j1,j1=P.1→∀P,P=doJ j1 ⟨2,0,3,0,⟨#[120]⟩⟩→P.2.code=0∧∀j2,j2=P.1→∀P,P=doJ j2 ⟨9,0,3,0,⟨#[]⟩⟩→P.2.n=1∧P.2.text=z∧∀j3,j3=P.1→∀P,P=doJ j3 ⟨6,0,0,0,⟨#[]⟩⟩→P.2.code=9∧True):=by
  rintro P rfl;refine⟨z5w,?_⟩;rintro j1 rfl P rfl;refine⟨z5x,?_⟩;rintro j2 rfl P rfl;refine⟨z3y.1,z3y.2.trans HZ.o.symm,?_⟩;rintro j3 rfl P rfl;exact⟨z5y,trivial⟩
 clear R F;obtain⟨j0,C5⟩:∃j0,j0=zx5:=⟨_,rfl⟩;rw[←C5] at B7 A3 C9;clear C5;go_wp2_with fail;refine(zmi B [B] j0 w1 B7.o (fun x K=>by rw[List.mem_singleton.1 K];omega) A3.o.ready ⟨1,0,0,2,⟨#[]⟩⟩ (by decide) (by decide)).mono ?_;rintro e Z ⟨rfl,R,I⟩;obtain⟨P,U⟩:∃P,P=doJ j0 ⟨1,0,0,2,⟨#[]⟩⟩:=⟨_,rfl⟩;have A6:Hid (PJ P.1):=by rw[U];exact A3.o.do _
 have C7:=zab (C9.o P U);rw[←U] at R⊢
 have Y:vRp P.2=.agg #[.int .i64 0,.int .i64 P.2.n,.string P.2.text]:=by
  show Value.agg #[.int .i64 P.2.code,.int .i64 P.2.n,.string P.2.text]=_;rw[C7.o.1]
 rw[Y];obtain⟨j1,B3⟩:∃x,x=P.1:=⟨_,rfl⟩;rw[←B3] at A6 R;have E2:=zab (C7.o.2 j1 B3);clear B3 Y;generalize P.2.n=n1 at *;generalize P.2.text=t1 at *;generalize P.2.code=c1 at *;clear U;have A8:w1.heap.size≤Z.heap.size:=I.size
 have C2:Hid (Below w.heap.size w Z):=by
  have K:=B5.o;exact⟨I.os.trans K.os,I.tape.trans K.tape,I.output.trans K.output,Nat.le_trans K.size I.size,fun q hq=>(I.block q (by have:=K.size;omega) (by simp;omega)).trans (K.block q hq)⟩
 go_wp2_with fail;obtain⟨W1,N⟩:∃W,W=Z.alloc (.cells #[.int .i64 0,.int .i64 n1,.string t1] 31):=⟨_,rfl⟩;rw[←N];have F:Below Z.heap.size Z W1:=by rw[N];exact zaa _ _
 have D8:=zab (R.below F);have C0:=zab (zae C2.o F);have F3:W1.heap.size=Z.heap.size+1:=by rw[N];simp
 have J:Hid (W1.heap[Z.heap.size]?=some (.cells #[.int .i64 0,.int .i64 n1,.string t1] 31 (0,0))):=by rw[N];exact heap_alloc_new _ _
 clear N F R I C2 B5;refine(zmi B [B] j1 W1 D8.o (fun x K=>by rw[List.mem_singleton.1 K];omega) A6.o.ready ⟨2,0,3,0,⟨#[120]⟩⟩ (by decide) (by decide)).mono ?_;rintro e d ⟨rfl,R,I⟩;obtain⟨P,U⟩:∃P,P=doJ j1 ⟨2,0,3,0,⟨#[120]⟩⟩:=⟨_,rfl⟩;have A7:Hid (PJ P.1):=by rw[U];exact A6.o.do _
 have C8:=zab (E2.o P U);rw[←U] at R⊢
 have Y:vRp P.2=.agg #[.int .i64 0,.int .i64 P.2.n,.string P.2.text]:=by
  show Value.agg #[.int .i64 P.2.code,.int .i64 P.2.n,.string P.2.text]=_;rw[C8.o.1]
 rw[Y];obtain⟨j2,B0⟩:∃x,x=P.1:=⟨_,rfl⟩;rw[←B0] at A7 R;have E5:=zab (C8.o.2 j2 B0);clear B0 Y;generalize P.2.n=n2 at *;generalize P.2.text=t2 at *;generalize P.2.code=c2 at *;clear U;have A8:W1.heap.size≤d.heap.size:=I.size;have L:=zab ((I.block _ (by omega) (by simp;omega)).trans J.o);clear J;have J:=L;clear L
 have C3:Hid (Below w.heap.size w d):=by
  have K:=C0.o;exact⟨I.os.trans K.os,I.tape.trans K.tape,I.output.trans K.output,Nat.le_trans K.size I.size,fun q hq=>(I.block q (by have:=K.size;omega) (by simp;omega)).trans (K.block q hq)⟩
 go_wp2_with fail;obtain⟨W2,N⟩:∃W,W=d.alloc (.cells #[.int .i64 0,.int .i64 n2,.string t2] 31):=⟨_,rfl⟩;rw[←N];have F:Below d.heap.size d W2:=by rw[N];exact zaa _ _
 have E9:=zab (R.below F);have B2:=zab (zae C3.o F);have F6:W2.heap.size=d.heap.size+1:=by rw[N];simp
 have M:Hid (W2.heap[d.heap.size]?=some (.cells #[.int .i64 0,.int .i64 n2,.string t2] 31 (0,0))):=by rw[N];exact heap_alloc_new _ _
 have L:=zab (zad F (by omega) J.o);clear J;have J:=L;clear L;clear N F R I C3 C0;refine(zmi B [B] j2 W2 E9.o (fun x K=>by rw[List.mem_singleton.1 K];omega) A7.o.ready ⟨9,0,3,0,⟨#[]⟩⟩ (by decide) (by decide)).mono ?_;rintro e c ⟨rfl,R,I⟩;obtain⟨P,U⟩:∃P,P=doJ j2 ⟨9,0,3,0,⟨#[]⟩⟩:=⟨_,rfl⟩;have B6:Hid (PJ P.1):=by rw[U];exact A7.o.do _
 have B8:=zab (E5.o P U);rw[←U] at R⊢
 have Y:vRp P.2=.agg #[.int .i64 P.2.code,.int .i64 1,.string z]:=by
  show Value.agg #[.int .i64 P.2.code,.int .i64 P.2.n,.string P.2.text]=_;rw[B8.o.1,B8.o.2.1]
 rw[Y];obtain⟨j3,A4⟩:∃x,x=P.1:=⟨_,rfl⟩;rw[←A4] at B6 R;have F0:=zab (B8.o.2.2 j3 A4);clear A4 Y;generalize P.2.n=n3 at *;generalize P.2.text=t3 at *;generalize P.2.code=c3 at *;clear U;have A8:W2.heap.size≤c.heap.size:=I.size;have L:=zab ((I.block _ (by omega) (by simp;omega)).trans J.o);clear J;have J:=L;clear L;have Q:=zab ((I.block _ (by omega) (by simp;omega)).trans M.o);clear M;have M:=Q;clear Q
 have A9:Hid (Below w.heap.size w c):=by
  have K:=B2.o;exact⟨I.os.trans K.os,I.tape.trans K.tape,I.output.trans K.output,Nat.le_trans K.size I.size,fun q hq=>(I.block q (by have:=K.size;omega) (by simp;omega)).trans (K.block q hq)⟩
 go_wp2_with fail;obtain⟨W3,N⟩:∃W,W=c.alloc (.cells #[.int .i64 c3,.int .i64 1,.string z] 31):=⟨_,rfl⟩;rw[←N];have F:Below c.heap.size c W3:=by rw[N];exact zaa _ _
 have E0:=zab (R.below F);have B9:=zab (zae A9.o F);have F5:W3.heap.size=c.heap.size+1:=by rw[N];simp
 have X:Hid (W3.heap[c.heap.size]?=some (.cells #[.int .i64 c3,.int .i64 1,.string z] 31 (0,0))):=by rw[N];exact heap_alloc_new _ _
 have L:=zab (zad F (by omega) J.o);clear J;have J:=L;clear L;have Q:=zab (zad F (by omega) M.o);clear M;have M:=Q;clear Q;clear N F R I A9 B2;refine(zmi B [B] j3 W3 E0.o (fun x K=>by rw[List.mem_singleton.1 K];omega) B6.o.ready ⟨6,0,0,0,⟨#[]⟩⟩ (by decide) (by decide)).mono ?_;rintro e i ⟨rfl,R,I⟩;obtain⟨P,U⟩:∃P,P=doJ j3 ⟨6,0,0,0,⟨#[]⟩⟩:=⟨_,rfl⟩;have E4:Hid (PJ P.1):=by rw[U];exact B6.o.do _
 have E3:=zab (F0.o P U);rw[←U] at R⊢
 have Y:vRp P.2=.agg #[.int .i64 9,.int .i64 P.2.n,.string P.2.text]:=by
  show Value.agg #[.int .i64 P.2.code,.int .i64 P.2.n,.string P.2.text]=_;rw[E3.o.1]
 rw[Y];obtain⟨j4,D1⟩:∃x,x=P.1:=⟨_,rfl⟩;rw[←D1] at E4 R;clear D1 Y;generalize P.2.n=n4 at *;generalize P.2.text=t4 at *;generalize P.2.code=c4 at *;clear U;have A8:W3.heap.size≤i.heap.size:=I.size;have L:=zab ((I.block _ (by omega) (by simp;omega)).trans J.o);clear J;have J:=L;clear L;have Q:=zab ((I.block _ (by omega) (by simp;omega)).trans M.o);clear M;have M:=Q;clear Q;have j:=zab ((I.block _ (by omega) (by simp;omega)).trans X.o);clear X;have X:=j;clear j
 have A5:Hid (Below w.heap.size w i):=by
  have K:=B9.o;exact⟨I.os.trans K.os,I.tape.trans K.tape,I.output.trans K.output,Nat.le_trans K.size I.size,fun q hq=>(I.block q (by have:=K.size;omega) (by simp;omega)).trans (K.block q hq)⟩
 go_wp2;rename_i KK B1;obtain⟨W4,N⟩:∃W,W=i.alloc (.cells #[.int .i64 9,.int .i64 n4,.string t4] 31):=⟨_,rfl⟩;rw[←N];have F:Below i.heap.size i W4:=by rw[N];exact zaa _ _
 have G4:=zab (R.below F);have C1:=zab (zae A5.o F);have F4:W4.heap.size=i.heap.size+1:=by rw[N];simp
 have r:Hid (W4.heap[i.heap.size]?=some (.cells #[.int .i64 9,.int .i64 n4,.string t4] 31 (0,0))):=by rw[N];exact heap_alloc_new _ _
 have L:=zab (zad F (by omega) J.o);clear J;have J:=L;clear L;have Q:=zab (zad F (by omega) M.o);clear M;have M:=Q;clear Q;have j:=zab (zad F (by omega) X.o);clear X;have X:=j;clear j;clear N F R I A5 B9;obtain⟨R1,y⟩:∃x,x=Z.heap.size:=⟨_,rfl⟩;obtain⟨s,A1⟩:∃x,x=d.heap.size:=⟨_,rfl⟩;obtain⟨l,m⟩:∃x,x=c.heap.size:=⟨_,rfl⟩;obtain⟨R4,u⟩:∃x,x=i.heap.size:=⟨_,rfl⟩;obtain⟨W,N⟩:∃x,x=W4:=⟨_,rfl⟩;rw[←y] at J;rw[←A1] at M;rw[←m] at X;rw[←u] at r;rw[←N] at J M X r C1;rw[←y,←A1,←m,←u,←N];have F2:Hid (W.cell? ⟨R1,0,none⟩=some (.int .i64 0)):=(cell_of_row W _ 0 _ _ _ J.o).trans rfl;have G1:Hid (W.cell? ⟨R1,1,none⟩=some (.int .i64 n1)):=(cell_of_row W _ 1 _ _ _ J.o).trans rfl;have G2:Hid (W.cell? ⟨R1,2,none⟩=some (.string t1)):=(cell_of_row W _ 2 _ _ _ J.o).trans rfl;have E8:Hid (W.cell? ⟨s,0,none⟩=some (.int .i64 0)):=(cell_of_row W _ 0 _ _ _ M.o).trans rfl;have G5:Hid (W.cell? ⟨s,1,none⟩=some (.int .i64 n2)):=(cell_of_row W _ 1 _ _ _ M.o).trans rfl;have F9:Hid (W.cell? ⟨s,2,none⟩=some (.string t2)):=(cell_of_row W _ 2 _ _ _ M.o).trans rfl;have G3:Hid (W.cell? ⟨l,0,none⟩=some (.int .i64 c3)):=(cell_of_row W _ 0 _ _ _ X.o).trans rfl;have E7:Hid (W.cell? ⟨l,1,none⟩=some (.int .i64 1)):=(cell_of_row W _ 1 _ _ _ X.o).trans rfl;have D9:Hid (W.cell? ⟨l,2,none⟩=some (.string z)):=(cell_of_row W _ 2 _ _ _ X.o).trans rfl;have E6:Hid (W.cell? ⟨R4,0,none⟩=some (.int .i64 9)):=(cell_of_row W _ 0 _ _ _ r.o).trans rfl;have F8:Hid (W.cell? ⟨R4,1,none⟩=some (.int .i64 n4)):=(cell_of_row W _ 1 _ _ _ r.o).trans rfl;have F7:Hid (W.cell? ⟨R4,2,none⟩=some (.string t4)):=(cell_of_row W _ 2 _ _ _ r.o).trans rfl;have D7:R1<W.heap.size:=(Array.getElem?_eq_some_iff.1 J.o).1;have D5:s<W.heap.size:=(Array.getElem?_eq_some_iff.1 M.o).1;have D6:l<W.heap.size:=(Array.getElem?_eq_some_iff.1 X.o).1;have D4:R4<W.heap.size:=(Array.getElem?_eq_some_iff.1 r.o).1
 clear y A1 m u N;have y:=D7;have A1:=D5;have m:=D6;have u:=D4
 have B4:∀(g:Nat→Value) (W':World),Below W.heap.size W W'→KK ⟨#[.bool true,g 1,g 2,g 3,g 4,g 5,g 6,g 7,g 8,g 9,g 10,g 11,g 12,g 13,g 14,g 15,g 16,g 17,g 18,g 19,g 20,g 21,g 22,g 23,g 24,g 25,g 26,g 27,g 28,g 29,g 30,g 31,g 32,g 33,g 34,g 35,g 36,g 37,g 38,g 39,g 40,g 41,g 42,g 43,g 44],[]⟩ W':=by
  intro g W' hb;apply B1;clear B1;go_wp2;go_ret;exact⟨rfl,zae C1.o hb⟩
 have C4:=zab B4;clear B4 B1;refine(show∀A0:Act,A0=_→Code.wp Tryz.prog _ _ A0 _ from fun A0 hA0=>?_) _ rfl;have E:A0.tmps.size=45:=by rw[hA0];rfl
 have F1:A0.defers=[]:=by rw[hA0]
 have v2:A0.eval (.tmp 2)=.pointer (some ⟨R1,0,none⟩):=by rw[hA0];rfl
 have v3:A0.eval (.tmp 3)=.pointer (some ⟨s,0,none⟩):=by rw[hA0];rfl
 have v4:A0.eval (.tmp 4)=.pointer (some ⟨l,0,none⟩):=by rw[hA0];rfl
 have v5:A0.eval (.tmp 5)=.pointer (some ⟨R4,0,none⟩):=by rw[hA0];rfl
 clear hA0;refine zez (fun w'=>Below W.heap.size W w') [21,22,23,24,25,26,27,28,29,30,31,32,33,34,35,36,37,38,39,40,41,42,43,44,0] (zvc R1 s l R4 z) (by kernel_rfl) (by kernel_rfl) (by kernel_rfl) ((Below.refl _ _).drew) ⟨?_,?_,?_,?_,?_,?_,?_,?_,?_,?_,?_,?_,?_,?_,?_,?_,?_,?_,?_,?_,?_,?_,?_,?_,?_,trivial⟩ ?_
 ·exact zbc v2 E (fun _=>rfl) fun ρ w' C z=>by simp only[execOp];go_simp
 ·exact zal 0 21 E (fun _ _ h=>h) (fun _=>rfl) fun ρ w' C p=>by have c0:w'.cell? ⟨R1,0,none⟩=some (.int .i64 0):=zac C y F2.o;simp only[execOp];go_simp
 ·intro a w' D C A;have D2:a.eval (.tmp 22)=.int .i64 0:=A ⟨1,.data⟩ (by simp) rfl;exact zgi _ rfl rfl (by have S:=Act.eval_const a (.int .i64 0);revert D2 S;generalize a.eval=ρ;intro D2 S;simp only[execOp];go_simp) D E C rfl
 ·exact zal 2 23 E (fun _ _ h=>h) (fun _=>rfl) fun ρ w' C p=>by simp only[execOp];go_simp
 ·intro a w' D C A;have O:a.eval (.tmp 24)=.bool true:=A ⟨3,Ground.guard⟩ (by simp) rfl;have z3:=(D.other 3 rfl).trans v3;exact zgg _ rfl (zb6 (b:=true) rfl rfl O) (by revert z3;generalize a.eval=ρ;intro z3;simp only[execOp];go_simp) D E C rfl
 ·intro a w' D C A;have O:a.eval (.tmp 24)=.bool true:=A ⟨3,Ground.guard⟩ (by simp) rfl;have p25:a.eval (.tmp 25)=.pointer (some ⟨s,0,none⟩):=A ⟨4,.data⟩ (by simp) rfl;have c0:w'.cell? ⟨s,0,none⟩=some (.int .i64 0):=zac C A1 E8.o;exact zgg _ rfl (zb6 (b:=true) rfl rfl O) (by revert p25;generalize a.eval=ρ;intro p25;simp only[execOp];go_simp) D E C rfl
 ·intro a w' D C A;have O:a.eval (.tmp 24)=.bool true:=A ⟨3,Ground.guard⟩ (by simp) rfl;have p26:a.eval (.tmp 26)=.int .i64 0:=A ⟨5,.data⟩ (by simp) rfl;exact zgg _ rfl (zb6 (b:=true) rfl rfl O) (by have S:=Act.eval_const a (.int .i64 0);revert p26 S;generalize a.eval=ρ;intro p26 S;simp only[execOp];go_simp) D E C rfl
 ·intro a w' D C A;have D3:a.eval (.tmp 24)=.bool true:=A ⟨3,.data⟩ (by simp) rfl;have p27:a.eval (.tmp 27)=.bool true:=A ⟨6,.data⟩ (by simp) rfl;exact zgi _ rfl rfl (by revert D3 p27;generalize a.eval=ρ;intro D3 p27;simp only[execOp];go_simp) D E C rfl
 ·exact zal 7 28 E (fun _ _ h=>h) (fun _=>rfl) fun ρ w' C p=>by simp only[execOp];go_simp
 ·intro a w' D C A;have O:a.eval (.tmp 29)=.bool true:=A ⟨8,Ground.guard⟩ (by simp) rfl;have z4:=(D.other 4 rfl).trans v4;exact zgg _ rfl (zb6 (b:=true) rfl rfl O) (by revert z4;generalize a.eval=ρ;intro z4;simp only[execOp];go_simp) D E C rfl
 ·intro a w' D C A;have O:a.eval (.tmp 29)=.bool true:=A ⟨8,Ground.guard⟩ (by simp) rfl;have p30:a.eval (.tmp 30)=.pointer (some ⟨l,2,none⟩):=A ⟨9,.data⟩ (by simp) rfl;have c0:w'.cell? ⟨l,2,none⟩=some (.string z):=zac C m D9.o;exact zgg _ rfl (zb6 (b:=true) rfl rfl O) (by revert p30;generalize a.eval=ρ;intro p30;simp only[execOp];go_simp) D E C rfl
 ·intro a w' D C A;have O:a.eval (.tmp 29)=.bool true:=A ⟨8,Ground.guard⟩ (by simp) rfl;refine zw4 25 #[.string ⟨#[120]⟩] rfl (zb6 (b:=true) rfl rfl O) (by have pf:=Act.eval_func a 25;have S:=Act.eval_const a (.string ⟨#[120]⟩);revert pf S;generalize a.eval=ρ;intro pf S;simp only[execOp];go_simp) _ (zf6 ⟨#[120]⟩ _ (by decide)) ?_;rintro e w2 ⟨rfl,C6⟩;refine⟨_,rfl,_,rfl,zae C C6,?_,zr3 C6⟩;show zvc _ _ _ _ _ _ ((a.put (some 32) _).eval (.tmp 32)) w2;rw[zav D E (by decide)];rw[←HZ.o];exact rfl
 ·intro a w' D C A;have O:a.eval (.tmp 29)=.bool true:=A ⟨8,Ground.guard⟩ (by simp) rfl;have p31:a.eval (.tmp 31)=.string z:=A ⟨10,.data⟩ (by simp) rfl;have p32:a.eval (.tmp 32)=.string z:=A ⟨11,.data⟩ (by simp) rfl;exact zgg _ rfl (zb6 (b:=true) rfl rfl O) (by revert p31 p32;generalize a.eval=ρ;intro p31 p32;simp only[execOp];go_simp) D E C rfl
 ·intro a w' D C A;have p29:a.eval (.tmp 29)=.bool true:=A ⟨8,.data⟩ (by simp) rfl;have p33:a.eval (.tmp 33)=.bool true:=A ⟨12,.data⟩ (by simp) rfl;exact zgi _ rfl rfl (by revert p29 p33;generalize a.eval=ρ;intro p29 p33;simp only[execOp];go_simp) D E C rfl
 ·exact zal 13 34 E (fun _ _ h=>h) (fun _=>rfl) fun ρ w' C p=>by simp only[execOp];go_simp
 ·intro a w' D C A;have O:a.eval (.tmp 35)=.bool true:=A ⟨14,Ground.guard⟩ (by simp) rfl;have z4:=(D.other 4 rfl).trans v4;exact zgg _ rfl (zb6 (b:=true) rfl rfl O) (by revert z4;generalize a.eval=ρ;intro z4;simp only[execOp];go_simp) D E C rfl
 ·intro a w' D C A;have O:a.eval (.tmp 35)=.bool true:=A ⟨14,Ground.guard⟩ (by simp) rfl;have p36:a.eval (.tmp 36)=.pointer (some ⟨l,1,none⟩):=A ⟨15,.data⟩ (by simp) rfl;have c0:w'.cell? ⟨l,1,none⟩=some (.int .i64 1):=zac C m E7.o;exact zgg _ rfl (zb6 (b:=true) rfl rfl O) (by revert p36;generalize a.eval=ρ;intro p36;simp only[execOp];go_simp) D E C rfl
 ·intro a w' D C A;have O:a.eval (.tmp 35)=.bool true:=A ⟨14,Ground.guard⟩ (by simp) rfl;have p37:a.eval (.tmp 37)=.int .i64 1:=A ⟨16,.data⟩ (by simp) rfl;exact zgg _ rfl (zb6 (b:=true) rfl rfl O) (by have S:=Act.eval_const a (.int .i64 1);revert p37 S;generalize a.eval=ρ;intro p37 S;simp only[execOp];go_simp) D E C rfl
 ·intro a w' D C A;have p35:a.eval (.tmp 35)=.bool true:=A ⟨14,.data⟩ (by simp) rfl;have p38:a.eval (.tmp 38)=.bool true:=A ⟨17,.data⟩ (by simp) rfl;exact zgi _ rfl rfl (by revert p35 p38;generalize a.eval=ρ;intro p35 p38;simp only[execOp];go_simp) D E C rfl
 ·exact zal 18 39 E (fun _ _ h=>h) (fun _=>rfl) fun ρ w' C p=>by simp only[execOp];go_simp
 ·intro a w' D C A;have O:a.eval (.tmp 40)=.bool true:=A ⟨19,Ground.guard⟩ (by simp) rfl;have z5:=(D.other 5 rfl).trans v5;exact zgg _ rfl (zb6 (b:=true) rfl rfl O) (by revert z5;generalize a.eval=ρ;intro z5;simp only[execOp];go_simp) D E C rfl
 ·intro a w' D C A;have O:a.eval (.tmp 40)=.bool true:=A ⟨19,Ground.guard⟩ (by simp) rfl;have p41:a.eval (.tmp 41)=.pointer (some ⟨R4,0,none⟩):=A ⟨20,.data⟩ (by simp) rfl;have c0:w'.cell? ⟨R4,0,none⟩=some (.int .i64 9):=zac C u E6.o;exact zgg _ rfl (zb6 (b:=true) rfl rfl O) (by revert p41;generalize a.eval=ρ;intro p41;simp only[execOp];go_simp) D E C rfl
 ·intro a w' D C A;have O:a.eval (.tmp 40)=.bool true:=A ⟨19,Ground.guard⟩ (by simp) rfl;have p42:a.eval (.tmp 42)=.int .i64 9:=A ⟨21,.data⟩ (by simp) rfl;exact zgg _ rfl (zb6 (b:=true) rfl rfl O) (by have S:=Act.eval_const a (.int .i64 9);revert p42 S;generalize a.eval=ρ;intro p42 S;simp only[execOp];go_simp) D E C rfl
 ·intro a w' D C A;have p40:a.eval (.tmp 40)=.bool true:=A ⟨19,.data⟩ (by simp) rfl;have p43:a.eval (.tmp 43)=.bool true:=A ⟨22,.data⟩ (by simp) rfl;exact zgi _ rfl rfl (by revert p40 p43;generalize a.eval=ρ;intro p40 p43;simp only[execOp];go_simp) D E C rfl
 ·exact zal 23 44 E (fun _ _ h=>h) (fun _=>rfl) fun ρ w' C p=>by simp only[execOp];go_simp
 ·intro a W' D C A;have p0:a.eval (.tmp 0)=.bool true:=A 24 (by decide);have E1:a.tmps.size=45:=D.size.trans E;have A2:a=⟨#[_,_,_,_,_,_,_,_,_,_,_,_,_,_,_,_,_,_,_,_,_,_,_,_,_,_,_,_,_,_,_,_,_,_,_,_,_,_,_,_,_,_,_,_,_],[]⟩:=zcd a 45 E1 (D.defers.trans F1);dsimp only at A2;rw[p0] at A2;show KK a _;exact(congrArg (fun x=>KK x _) A2).mpr (C4.o (fun k=>a.eval (.tmp k)) _ C)
section
variable (j:Jn) (D:Dk) (j':Jn) (D':Dk) (b:Nat)
structure SameB:Prop where
 hi:zai b j'.now.info=zai b j.now.info
 hd:zai b j'.now.data=zai b j.now.data
 hv:zaw j'.now.rev b=zaw j.now.rev b
 hq:j'.now.seq=j.now.seq
 hs:j'.sealed=j.sealed
 hdn:j'.done=j.done
 hr:j'.role b=j.role b
 hf:j'.freed b=j.freed b
 hl:j'.last=j.last
 hD:D'=D
structure WriteB (s:ByteArray):Prop where
 hi:zai b j'.now.info=some s
 hd0:zai b j.now.data=none
 hd:zai b j'.now.data=none
 hv:zaw j'.now.rev b=false
 hq:j'.now.seq=j.now.seq
 hs:j'.sealed=j.sealed
 hdn:j'.done=j.done
 hr:j'.role b=1
 hr0:j.role b≠2
 hf:j'.freed b=j.freed b
 hl:j'.last=j.last
 hD:D'=D
structure FillB (s:ByteArray):Prop where
 hi0:zai b j.now.info=none
 hv0:zaw j.now.rev b=false
 hi:zai b j'.now.info=none
 hv:zaw j'.now.rev b=false
 hd:zai b j'.now.data=some s
 hq:j'.now.seq=j.now.seq
 hs:j'.sealed=j.sealed
 hdn:j'.done=j.done
 hr:j'.role b=2
 hr0:j.role b≠1
 hf0:j.freed b≤j.last
 hf:j'.freed b=j.freed b
 hl:j'.last=j.last
 hD:D'=D
structure RevokeB:Prop where
 hi:zai b j'.now.info=none
 hd:zai b j'.now.data=none
 hv:zaw j'.now.rev b=true
 hq:j'.now.seq=j.now.seq
 hs:j'.sealed=j.sealed
 hdn:j'.done=j.done
 hr:j'.role b=0
 hr0:j.role b≠0
 hf:j'.freed b=j.now.seq
 hl:j'.last=j.last
 hD:D'=D
structure CommitB:Prop where
 hz:j.sealed=zcu 0
 hs:j'.sealed=j.now
 hn:j'.now=zcu (j.now.seq+1)
 hq:j.now.seq=j.last+1
 hdn:j'.done=j.done
 hr:j'.role b=j.role b
 hf:j'.freed b=j.freed b
 hl:j'.last=j.last
 hD:D'=D
structure ThroughB:Prop where
 hs:j'.sealed=zcu 0
 hn:j'.now=j.now
 hse:j.sealed.seq=j.last+1
 hq:j.now.seq=j.last+2
 hdn:j'.done=j.done++[j.sealed]
 hr:j'.role b=j.role b
 hf:j'.freed b=j.freed b
 hl:j'.last=j.last+1
 hh:zam D' ((25+b:Nat):Int)=(zai b j.sealed.data).getD (zam D ((25+b:Nat):Int))
structure HomeB:Prop where
 hz:j.sealed=zcu 0
 hs:j'.sealed=zcu 0
 hn:j'.now=j.now
 hdn:j'.done=[]
 hr:j'.role b=j.role b
 hf:j'.freed b=j.freed b
 hl:j'.last=j.last
 hh:zam D' ((25+b:Nat):Int)=(newestF j.done b).getD (zam D ((25+b:Nat):Int))
inductive KpB:Prop
 |same (h:SameB j D j' D' b)
 |commit (h:CommitB j D j' D' b)
 |through (h:ThroughB j D j' D' b)
 |home (h:HomeB j D j' D' b)
inductive EvB:Prop
 |keep (h:KpB j D j' D' b)
 |write (s:ByteArray) (h:WriteB j D j' D' b s)
 |fill (s:ByteArray) (h:FillB j D j' D' b s)
 |revoke (h:RevokeB j D j' D' b)
end
inductive Ev (j:Jn)(D:Dk)(a:Ac)(j':Jn)(r:Rp)(D':Dk):Prop
 |calm (hd:j'.down=j.down) (hD:D'=D) (all:∀b:Nat,b<12→SameB j D j' D' b) (hk:r.code=0→a.kind≠2∧a.kind≠3∧a.kind≠4∧a.kind≠6∧a.kind≠10) (h8:a.kind=8→r.n=0)
   (h9:r.code=0→a.kind=9→∃b:Nat,b<12∧a.b=b∧textJ j b=(r.text,0)∧j.down=false)
 |write (b:Nat) (hb:b<12) (hab:a.b=b) (hk:a.kind=2) (hu:j.down=false) (hu':j'.down=false) (hc:r=zas 0) (here:WriteB j D j' D' b (fitT a.text)) (others:∀x:Nat,x<12→x≠b→SameB j D j' D' x)
 |fill (b:Nat) (hb:b<12) (hab:a.b=b) (hk:a.kind=3) (hu:j.down=false) (hu':j'.down=false) (hc:r=zas 0) (here:FillB j D j' D' b (fitT a.text)) (others:∀x:Nat,x<12→x≠b→SameB j D j' D' x)
 |revoke (b:Nat) (hb:b<12) (hab:a.b=b) (hk:a.kind=4) (hu:j.down=false) (hu':j'.down=false) (hc:r=zas 0) (here:RevokeB j D j' D' b) (others:∀x:Nat,x<12→x≠b→SameB j D j' D' x)
 |commit (hk:a.kind=6) (hu:j.down=false) (hu':j'.down=false) (hc:r.code=0) (hn:r.n=j.last+1) (all:∀b:Nat,CommitB j D j' D' b)
 |through (hk:a.kind=8) (hu:j.down=false) (hu':j'.down=false) (hc:r.code=0) (hn:r.n=j.last+1) (all:∀b:Nat,b<12→ThroughB j D j' D' b)
 |home (hk:a.kind=8) (hu:j.down=false) (hu':j'.down=false) (hc:r=zas 0) (all:∀b:Nat,b<12→HomeB j D j' D' b)
 |on (hk:a.kind=8) (hd:j.down=true) (hu':j'.down=false) (hc:r=zas 0) (hl:j'.last=fndN D - 1) (hs:j'.sealed=zcu 0) (hn:j'.now=zcu (fndN D)) (hdn:j'.done=[]) (hr:∀b:Nat,j'.role b=zb3 (fndL D).reverse b) (hf:∀b:Nat,j'.freed b=0)
   (hdk:j'.disk=D') (hh:∀b:Nat,b<12→zam D' ((25+b:Nat):Int)=zmw D b)
 |crash (hk:a.kind=10) (hu':j'.down=true) (hc:r=zas 0) (hl:j'.last=j.last) (left:Left j D D')
theorem zla (f:Nat→Int){b:Int}{k:Nat}(x:Int)(h:b=k):upd f b x k=x:=by rw[upd,if_pos h.symm]
theorem zvd (f:Nat→Int){b:Int}{k:Nat}(x:Int)(h:b≠k):upd f b x k=f k:=by rw[upd,if_neg (fun e=>h e.symm)]
theorem zkk {l r:List (Int×ByteArray)}{x:Int}(hl:Up (·.1) l)(hr:Up (·.1) r)(h:l.filter (fun y=>decide (y.1=x))=r.filter (fun y=>decide (y.1=x))):zai x l=zai x r:=by
 have A:=zf7 hl x;have B:=zf7 hr x;rw[h,B] at A
 cases e1:zai x l with
 |none=>
  cases e2:zai x r with
  |none=>rfl
  |some s=>rw[e1,e2] at A;simp at A
 |some s=>
  cases e2:zai x r with
  |none=>rw[e1,e2] at A;simp at A
  |some u=>rw[e1,e2] at A;simp at A;rw[A]
theorem zmk {l:List (Int×ByteArray)}(h:Up (·.1) l){b x:Int}(s:ByteArray)(hx:x≠b):zai x (zbj (·.1) l b (b,s))=zai x l:=
 zkk (zul h rfl) h (z48 b (b,s) rfl x hx)
theorem zkl {l:List (Int×ByteArray)}(h:Up (·.1) l){b x:Int}(hx:x≠b):zai x (zax (·.1) l b)=zai x l:=by
 refine zkk (zsb h b) h ?_;rw[zsc h,List.filter_filter];refine List.filter_congr fun y _=>?_;by_cases e:y.1=x
 ·simp[e,hx]
 ·simp[e]
theorem zn5 {l r:List Int}{x y:Int}(h:x∈l↔y∈r):zaw l x=zaw r y:=by
 cases e1:zaw l x with
 |true=>rw[zdv.1 (h.1 (zdv.2 e1))]
 |false=>
  cases e2:zaw r y with
  |false=>rfl
  |true=>rw[zdv.1 (h.2 (zdv.2 e2))] at e1;cases e1
theorem zpl (l:List Int){b x:Int}(hx:x≠b):zaw (zax id l b) x=zaw l x:=zn5 ⟨fun h=>(zd8.1 h).1,fun h=>zd8.2 ⟨h,hx⟩⟩
theorem zr4 (l:List Int){b x:Int}(hx:x≠b):zaw (zbj id l b b) x=zaw l x:=zn5 ⟨fun h=>by
 rcases zfh.1 h with e|e
 ·exact absurd e hx
 ·exact e.1,fun h=>zfh.2 (.inr ⟨h,hx⟩)⟩
theorem z1a (l:List Int)(b:Int):zaw (zbj id l b b) b=true:=zdv.1 (zfh.2 (.inl rfl))
theorem zpm {t:Tx}(hg:za8 t=true):Up (·.1) t.info∧Up (·.1) t.data:=by
 have A:=(za6 t).1 hg;exact⟨(zfl _ _).1 ((za5 _).1 A.2.2.1.1).2,(zfl _ _).1 ((za5 _).1 A.2.2.1.2.1).2⟩
section
variable {j:Jn} {D:Dk} {a:Ac} {j':Jn} {r:Rp} {D':Dk}
theorem zn6 (t:Tx)(h:Int)(x:Hd):(ze3 t h x).info=t.info∧(ze3 t h x).data=t.data∧(ze3 t h x).rev=t.rev∧(ze3 t h x).seq=t.seq:=by
 unfold ze3;split
 ·exact⟨rfl,rfl,rfl,rfl⟩
 split<;>exact⟨rfl,rfl,rfl,rfl⟩
theorem Md.seqs (h:Md j D)(hu:j.down=false):fndL D=j.done.map zdm∧fndN D=j.last+1∧(j.sealed=zcu 0∧j.now.seq=j.last+1∨j.sealed.seq=j.last+1∧j.now.seq=j.last+2∧za8 j.sealed=true):=by
 cases h with
 |idle p hs hz hD ht hq=>exact⟨ht.tL,ht.tN,.inl ⟨hz,hq⟩⟩
 |commit P U k p hw hk hs hD ht he hse hrh hru hq hN=>exact⟨ht.tL,ht.tN,.inr ⟨hse,hq,(zbx he).2.1⟩⟩
 |check k p hw hz hk hs hD ht hq=>exact⟨ht.tL,ht.tN,.inl ⟨hz,hq⟩⟩
 |off l N P U p hs hf hD ht=>rw[p.off] at hu;cases hu
 |back U k p hw hk hs hD ht=>rw[p.off] at hu;cases hu
theorem z6h (h:Md j D)(h':Md j' D')(t:Trans j D a j' r D'):Ev j D a j' r D':=by
 cases t with
 |plain m hp=>
  have refl:∀b:Nat,b<12→SameB j D j D b:=fun b _=>⟨rfl,rfl,rfl,rfl,rfl,rfl,rfl,rfl,rfl,rfl⟩
  cases m with
  |no e he=>exact .calm rfl rfl refl (fun M=>absurd M he) (fun _=>rfl) (fun M=>absurd M he)
  |read hd hk hb ht=>
   refine .calm rfl rfl refl (fun _=>by omega) (fun h8=>by omega) (fun _ _=>⟨a.b.toNat,by omega,by omega,?_,hd⟩);rw[show((a.b.toNat:Nat):Int)=a.b from by omega];exact Prod.ext rfl ht
  |begin hd hk he=>
   obtain⟨c,X,Y,S⟩:=zn6 j.now a.h ⟨true,a.n⟩;have e:zau j.now a.h a.n (24 - j.ru)=ze3 j.now a.h ⟨true,a.n⟩:=by rw[zau,if_pos he]
   rw[e];exact .calm rfl rfl (fun b _=>⟨by rw[c],by rw[X],by rw[Y],S,rfl,rfl,rfl,rfl,rfl,rfl⟩) (fun _=>by omega) (fun h8=>by omega) (fun _ h9=>by omega)
  |stop hd hk he=>
   obtain⟨c,X,Y,S⟩:=zn6 j.now a.h ⟨false,0⟩;have e:zb4 j.now a.h=ze3 j.now a.h ⟨false,0⟩:=by rw[zb4,if_pos he]
   rw[e];exact .calm rfl rfl (fun b _=>⟨by rw[c],by rw[X],by rw[Y],S,rfl,rfl,rfl,rfl,rfl,rfl⟩) (fun _=>by omega) (fun h8=>by omega) (fun _ h9=>by omega)
  |write hd hk he hr=>
   obtain⟨F,w,R,C⟩:=zjc he;obtain⟨K,I,Z,b0,u⟩:=zce F;obtain⟨u1,u2⟩:=zpm K;obtain⟨n1,y,n3⟩:=zei j.now a.h a.b;have e:zaf j.now a.h a.b (fitT a.text)=zer j.now a.h a.b (fitT a.text):=by rw[zaf,if_pos he]
   have A:a.b=((a.b.toNat:Nat):Int):=by omega
   have Q:zai a.b j.now.data=none:=by
    cases hx:zai a.b j.now.data with
    |none=>rfl
    |some s=>rw[hx] at R;cases R
   rw[e];refine .write a.b.toNat (by omega) A hk hd hd rfl ⟨?_,?_,?_,?_,zey j.now a.h a.b,rfl,rfl,zla _ _ A,hr,rfl,rfl,rfl⟩ (fun x hx hne=>?_)
   ·rw[←A];exact zu5 _ u1 _ _
   ·rw[←A];exact Q
   ·rw[←A];show zai a.b (nameT j.now a.h a.b).data=none;rw[y];exact Q
   ·rw[←A];exact zwv _ _
   ·have B:(x:Int)≠a.b:=by omega
    exact⟨zmk u1 _ B,by show zai x (nameT j.now a.h a.b).data=_;rw[y],zpl _ B,zey j.now a.h a.b,rfl,rfl,zvd _ _ (by omega),rfl,rfl,rfl⟩
  |fill hd hk he hr hf=>
   obtain⟨F,w,C⟩:=ztc he;obtain⟨K,I,Z,b0,u⟩:=zce F;obtain⟨u1,u2⟩:=zpm K;have e:zan j.now a.h a.b (fitT a.text)={j.now with data:=zbj (·.1) j.now.data a.b (a.b,fitT a.text)}:=by rw[zan,if_pos he]
   have A:a.b=((a.b.toNat:Nat):Int):=by omega
   have J:zai a.b j.now.info=none∧zaw j.now.rev a.b=false:=by
    unfold zcq at C;simp only[Bool.or_eq_false_iff] at C;refine⟨?_,C.2⟩
    cases hx:zai a.b j.now.info with
    |none=>rfl
    |some s=>rw[hx] at C;cases C.1
   rw[e];refine .fill a.b.toNat (by omega) A hk hd hd rfl ⟨?_,?_,?_,?_,?_,rfl,rfl,rfl,zla _ _ A,hr,hf,rfl,rfl,rfl⟩ (fun x hx hne=>?_)
   ·rw[←A];exact J.1
   ·rw[←A];exact J.2
   ·rw[←A];exact J.1
   ·rw[←A];exact J.2
   ·rw[←A];exact zu5 _ u2 _ _
   ·have B:(x:Int)≠a.b:=by omega
    exact⟨rfl,zmk u2 _ B,rfl,rfl,rfl,rfl,zvd _ _ (by omega),rfl,rfl,rfl⟩
  |revoke hd hk he hr=>
   obtain⟨F,A0,C⟩:=zjd he;obtain⟨K,I,Z,b0,u⟩:=zce F;obtain⟨u1,u2⟩:=zpm K;have e:zag j.now a.h a.b=zes j.now a.h a.b:=by rw[zag,if_pos he]
   have A:a.b=((a.b.toNat:Nat):Int):=by omega
   have L:(zes j.now a.h a.b).seq=j.now.seq:=zey j.now a.h a.b;rw[e];refine .revoke a.b.toNat (by omega) A hk hd hd rfl ⟨?_,?_,?_,L,rfl,rfl,zla _ _ A,hr,(zla _ _ A).trans L,rfl,rfl⟩ (fun x hx hne=>?_)
   ·rw[←A];exact zq3 _ _
   ·rw[←A];exact zq3 _ _
   ·rw[←A];exact z1a _ _
   ·have B:(x:Int)≠a.b:=by omega
    exact⟨zkl u1 B,zkl u2 B,zr4 _ B,L,rfl,rfl,zvd _ _ (by omega),zvd _ _ (by omega),rfl,rfl⟩
  |commit hd hk hs Z hm z he=>
   have E:j.sealed=zcu 0∧j.now.seq=j.last+1:=by
    cases h with
    |idle p hs2 E hD ht hq2=>exact⟨E,hq2⟩
    |commit P U k p hw hk2 hs2 hD ht he2 hse hrh hru hq2 hN=>
     rw[hs] at hs2;have:=congrArg List.length hs2;rw[List.length_drop] at this;simp at this;omega
    |check k p hw E hk2 hs2 hD ht hq2=>exact⟨E,hq2⟩
    |off l N P U p hs2 hf hD ht=>rw[p.off] at hd;cases hd
    |back U k p hw hk2 hs2 hD ht=>rw[p.off] at hd;cases hd
   exact .commit hk hd hd rfl E.2 (fun b=>⟨E.1,rfl,rfl,E.2,rfl,rfl,rfl,rfl,rfl⟩)
  |check hd hk hs hn he=>exact .calm rfl rfl (fun b _=>⟨rfl,rfl,rfl,rfl,rfl,rfl,rfl,rfl,rfl,rfl⟩) (fun _=>by omega) (fun h8=>by omega) (fun _ h9=>by omega)
  |step hk s q hs he hr=>exact .calm rfl rfl (fun b _=>⟨rfl,rfl,rfl,rfl,rfl,rfl,rfl,rfl,rfl,rfl⟩) (fun _=>by omega) (fun _=>rfl) (fun _ h9=>by omega)
  |last hk s hs he=>
   have i:(zb5 {j with disk:=zbi j.disk s,steps:=[]}).2.code=0:=by
    rw[zb5];split
    ·rfl
    split
    ·rfl
    split
    ·rfl
    ·rfl
   obtain⟨s2,q,O,h2,_⟩:=(hp i).2 hk;rw[hs] at O
   injection O with _ d
   exact absurd d.symm h2
  |crash hk he=>exact absurd hk (hp rfl).1
  |back hk hd hs hE i=>exact .calm rfl rfl (fun b _=>⟨rfl,rfl,rfl,rfl,rfl,rfl,rfl,rfl,rfl,rfl⟩) (fun _=>by omega) (fun h8=>by omega) (fun _ h9=>by omega)
 |through _ hk hu hse K hN hL I=>
  obtain⟨_,_,d⟩:=h.seqs hu
  have z:j.now.seq=j.last+2:=by
   rcases d with⟨e,_⟩|⟨_,e,_⟩
   ·have M:=h.last0;rw[e] at hse;have:(0:Int)=j.last+1:=hse;omega
   ·exact e
  exact .through hk hu hu rfl hse (fun b hb=>⟨rfl,rfl,hse,z,rfl,rfl,rfl,hse,I b hb⟩)
 |home _ hk hu E hN hL I=>
  obtain⟨O,_,_⟩:=h.seqs hu;exact .home hk hu hu rfl (fun b hb=>⟨E,E,rfl,rfl,rfl,rfl,rfl,by rw[I b hb,zmw,O,zg7]⟩)
 |on _ hk hd hfN hfL hN hL I=>
  refine .on hk hd rfl rfl ?_ rfl ?_ rfl (fun b=>?_) (fun _=>rfl) rfl I
  ·show j.fN - 1=_;rw[hfN]
  ·show zcu j.fN=_;rw[hfN]
  ·show zb3 j.fL.reverse b=_;rw[hfL]
 |crash hk hn _ hX left=>exact .crash hk rfl rfl rfl left
end
theorem z4n {j:Jn}{D:Dk}(h:Md j D)(a:Ac)(h0:0≤j.acts)(h1:j.acts≤400):
  ∃D',Md (doJ j a).1 D'∧0≤(doJ j a).1.acts∧(doJ j a).1.acts≤400∧Ev j D a (doJ j a).1 (doJ j a).2 D':=by
 rcases z3w h a h0 h1 with⟨h4,h5⟩|⟨h4,h5,D',h6,ht⟩
 ·rw[h5];have A:(zas 11).code≠0:=by decide
  exact⟨D,h,h0,h1,.calm rfl rfl (fun b _=>⟨rfl,rfl,rfl,rfl,rfl,rfl,rfl,rfl,rfl,rfl⟩) (fun h0=>absurd h0 A) (fun _=>rfl) (fun h0=>absurd h0 A)⟩
 ·refine⟨D',h6,by omega,by omega,?_⟩;have e:=z6h (h.bump (x:=j.acts+1) (by omega)) h6 ht
  cases e with
  |calm a1 a2 a3 a4 a5 a6=>exact .calm a1 a2 (fun b hb=>⟨(a3 b hb).hi,(a3 b hb).hd,(a3 b hb).hv,(a3 b hb).hq,(a3 b hb).hs,(a3 b hb).hdn,(a3 b hb).hr,(a3 b hb).hf,(a3 b hb).hl,(a3 b hb).hD⟩) a4 a5 a6
  |write b a1 a2 a3 a4 a5 a6 x y=>exact .write b a1 a2 a3 a4 a5 a6 ⟨x.hi,x.hd0,x.hd,x.hv,x.hq,x.hs,x.hdn,x.hr,x.hr0,x.hf,x.hl,x.hD⟩ (fun b hb hn=>⟨(y b hb hn).hi,(y b hb hn).hd,(y b hb hn).hv,(y b hb hn).hq,(y b hb hn).hs,(y b hb hn).hdn,(y b hb hn).hr,(y b hb hn).hf,(y b hb hn).hl,(y b hb hn).hD⟩)
  |fill b a1 a2 a3 a4 a5 a6 x y=>exact .fill b a1 a2 a3 a4 a5 a6 ⟨x.hi0,x.hv0,x.hi,x.hv,x.hd,x.hq,x.hs,x.hdn,x.hr,x.hr0,x.hf0,x.hf,x.hl,x.hD⟩ (fun b hb hn=>⟨(y b hb hn).hi,(y b hb hn).hd,(y b hb hn).hv,(y b hb hn).hq,(y b hb hn).hs,(y b hb hn).hdn,(y b hb hn).hr,(y b hb hn).hf,(y b hb hn).hl,(y b hb hn).hD⟩)
  |revoke b a1 a2 a3 a4 a5 a6 x y=>exact .revoke b a1 a2 a3 a4 a5 a6 ⟨x.hi,x.hd,x.hv,x.hq,x.hs,x.hdn,x.hr,x.hr0,x.hf,x.hl,x.hD⟩ (fun b hb hn=>⟨(y b hb hn).hi,(y b hb hn).hd,(y b hb hn).hv,(y b hb hn).hq,(y b hb hn).hs,(y b hb hn).hdn,(y b hb hn).hr,(y b hb hn).hf,(y b hb hn).hl,(y b hb hn).hD⟩)
  |commit a1 a2 a3 a4 a5 y=>exact .commit a1 a2 a3 a4 a5 (fun b=>⟨(y b).hz,(y b).hs,(y b).hn,(y b).hq,(y b).hdn,(y b).hr,(y b).hf,(y b).hl,(y b).hD⟩)
  |through a1 a2 a3 a4 a5 y=>exact .through a1 a2 a3 a4 a5 (fun b hb=>⟨(y b hb).hs,(y b hb).hn,(y b hb).hse,(y b hb).hq,(y b hb).hdn,(y b hb).hr,(y b hb).hf,(y b hb).hl,(y b hb).hh⟩)
  |home a1 a2 a3 a4 y=>exact .home a1 a2 a3 a4 (fun b hb=>⟨(y b hb).hz,(y b hb).hs,(y b hb).hn,(y b hb).hdn,(y b hb).hr,(y b hb).hf,(y b hb).hl,(y b hb).hh⟩)
  |on a1 a2 a3 a4 a5 a6 a7 a8 a9 a10 a11 a12=>exact .on a1 a2 a3 a4 a5 a6 a7 a8 a9 a10 a11 a12
  |crash a1 a2 a3 a4 left=>
   refine .crash a1 a2 a3 a4 ?_
   cases left with
   |all b1 b2 b3 b4=>exact .all b1 b2 b3 b4
   |without b1 b2 b3 b4 b5=>exact .without b1 b2 b3 b4 b5
   |whole b1 b2 b3 b4 b5=>exact .whole b1 b2 b3 b4 b5
def nmd (t:Tx)(b:Nat):Prop:=zai b t.info=none∧zaw t.rev b=false
theorem zeb (q:Int)(b:Nat):nmd (zcu q) b:=⟨rfl,rfl⟩
theorem z4o {b:Int}{o:Option ByteArray}{t:Tx}{s:ByteArray}(h:zai b t.info=some s):zch b o t=some s:=by rw[zch,h];rfl
theorem z5z {b:Int}{o:Option ByteArray}{t:Tx}(h:zai b t.info=none)(h2:zaw t.rev b=true):zch b o t=none:=by rw[zch,h,h2];rfl
theorem zhc {b:Nat}{o:Option ByteArray}{t:Tx}(h:nmd t b):zch b o t=o:=by rw[zch,h.1,h.2];rfl
theorem z1b {b:Int}{o:Option ByteArray}{t:Tx}(h:zch b o t=none):zai b t.info=none∧(zaw t.rev b=true∨o=none):=by
 rw[zch] at h;split at h
 ·rename_i A;rw[h] at A;cases A
 ·rename_i A;refine⟨?_,?_⟩
  ·cases hx:zai b t.info with
   |none=>rfl
   |some s=>rw[hx] at A;exact absurd rfl A
  ·split at h
   ·rename_i B;exact .inl B
   ·exact .inr h
theorem z3k {b:Int}{o:Option ByteArray}{t u:Tx}(h1:zai b t.info=zai b u.info)(h2:zaw t.rev b=zaw u.rev b):zch b o t=zch b o u:=by rw[zch,zch,h1,h2]
structure RB (j:Jn)(b:Nat):Prop where
 r1:j.role b≠1→zch b (zch b (newestF j.done b) j.sealed) j.now=none
 r2:zai b j.now.data≠none→j.role b=2
 r3:zaw j.now.rev b=true→j.now.seq≤j.freed b
 r3s:zaw j.sealed.rev b=true→j.last<j.freed b
 r4:zai b j.sealed.data≠none→j.role b=2∨j.last<j.freed b
 r5:j.role b=2→nmd j.sealed b∧nmd j.now b∧newestF j.done b=none
section
variable {j:Jn} {D:Dk} {j':Jn} {D':Dk} {b:Nat}
theorem RB.ev (h:RB j b)(hq:j.last<j.now.seq)(e:EvB j D j' D' b):RB j' b:=by
 cases e with
 |keep e=>
  cases e with
  |same e=>
   refine⟨fun h1=>?_,fun h1=>?_,fun h1=>?_,fun h1=>?_,fun h1=>?_,fun h1=>?_⟩
   ·rw[e.hr] at h1;rw[e.hdn,e.hs,z3k e.hi e.hv];exact h.r1 h1
   ·rw[e.hd] at h1;rw[e.hr];exact h.r2 h1
   ·rw[e.hv] at h1;rw[e.hq,e.hf];exact h.r3 h1
   ·rw[e.hs] at h1;rw[e.hl,e.hf];exact h.r3s h1
   ·rw[e.hs] at h1;rw[e.hr,e.hl,e.hf];exact h.r4 h1
   ·rw[e.hr] at h1;obtain⟨C,A,B⟩:=h.r5 h1;rw[e.hs,e.hdn];exact⟨C,⟨e.hi.trans A.1,e.hv.trans A.2⟩,B⟩
  |commit e=>
   refine⟨fun h1=>?_,fun h1=>?_,fun h1=>?_,fun h1=>?_,fun h1=>?_,fun h1=>?_⟩
   ·rw[e.hr] at h1;have:=h.r1 h1;rw[e.hz,zhc (zeb 0 b)] at this;rw[e.hn,zhc (zeb _ b),e.hdn,e.hs];exact this
   ·rw[e.hn] at h1;exact absurd rfl h1
   ·rw[e.hn] at h1;cases h1
   ·rw[e.hs] at h1;have:=h.r3 h1;rw[e.hl,e.hf];omega
   ·rw[e.hs] at h1;rw[e.hr];exact .inl (h.r2 h1)
   ·rw[e.hr] at h1;obtain⟨C,A,B⟩:=h.r5 h1;rw[e.hs,e.hn,e.hdn];exact⟨A,zeb _ b,B⟩
  |through e=>
   refine⟨fun h1=>?_,fun h1=>?_,fun h1=>?_,fun h1=>?_,fun h1=>?_,fun h1=>?_⟩
   ·rw[e.hr] at h1;rw[e.hs,zhc (zeb 0 b),e.hdn,zdg,e.hn];exact h.r1 h1
   ·rw[e.hn] at h1;rw[e.hr];exact h.r2 h1
   ·rw[e.hn] at h1⊢;rw[e.hf];exact h.r3 h1
   ·rw[e.hs] at h1;cases h1
   ·rw[e.hs] at h1;exact absurd rfl h1
   ·rw[e.hr] at h1;obtain⟨C,A,B⟩:=h.r5 h1;rw[e.hs,e.hn,e.hdn,zdg,zhc C];exact⟨zeb 0 b,A,B⟩
  |home e=>
   refine⟨fun h1=>?_,fun h1=>?_,fun h1=>?_,fun h1=>?_,fun h1=>?_,fun h1=>?_⟩
   ·rw[e.hr] at h1;have q:=(z1b (h.r1 h1)).1;rw[e.hs,zhc (zeb 0 b),e.hdn,e.hn];rw[zch,q];show(if zaw j.now.rev b=true then none else newestF [] b)=none;split<;>rfl
   ·rw[e.hn] at h1;rw[e.hr];exact h.r2 h1
   ·rw[e.hn] at h1⊢;rw[e.hf];exact h.r3 h1
   ·rw[e.hs] at h1;cases h1
   ·rw[e.hs] at h1;exact absurd rfl h1
   ·rw[e.hr] at h1;obtain⟨C,A,B⟩:=h.r5 h1;rw[e.hs,e.hn,e.hdn];exact⟨zeb 0 b,A,rfl⟩
 |write s e=>
  refine⟨fun h1=>absurd e.hr h1,fun h1=>absurd e.hd h1,fun h1=>?_,fun h1=>?_,fun h1=>?_,fun h1=>?_⟩
  ·rw[e.hv] at h1;cases h1
  ·rw[e.hs] at h1;rw[e.hl,e.hf];exact h.r3s h1
  ·rw[e.hs] at h1;rw[e.hl,e.hf];exact .inr ((h.r4 h1).resolve_left e.hr0)
  ·rw[e.hr] at h1;omega
 |fill s e=>
  have F:zaw j.sealed.rev b=false:=by
   cases hx:zaw j.sealed.rev b with
   |false=>rfl
   |true=>have:=h.r3s hx;have:=e.hf0;omega
  have J:nmd j.now b:=⟨e.hi0,e.hv0⟩;have q:=h.r1 e.hr0;rw[zhc J] at q;obtain⟨I,q2⟩:=z1b q;have E:nmd j.sealed b:=⟨I,F⟩;rw[zhc E] at q;refine⟨fun _=>?_,fun _=>e.hr,fun h1=>?_,fun h1=>?_,fun _=>.inl e.hr,fun _=>?_⟩
  ·rw[e.hdn,e.hs,zhc (t:=j'.now) ⟨e.hi,e.hv⟩,zhc E];exact q
  ·rw[e.hv] at h1;cases h1
  ·rw[e.hs,F] at h1;cases h1
  ·rw[e.hs,e.hdn];exact⟨E,⟨e.hi,e.hv⟩,q⟩
 |revoke e=>
  refine⟨fun _=>?_,fun h1=>absurd e.hd h1,fun _=>?_,fun h1=>?_,fun h1=>?_,fun h1=>?_⟩
  ·exact z5z e.hi e.hv
  ·rw[e.hq,e.hf];omega
  ·rw[e.hl,e.hf];omega
  ·rw[e.hl,e.hf];right;omega
  ·rw[e.hr] at h1;omega
theorem RB.new {q:Int}(hs:j.sealed=zcu 0)(hn:j.now=zcu q)(hd:j.done=[])(hr:j.role b≠2):RB j b:=by
 refine⟨fun _=>?_,fun h1=>?_,fun h1=>?_,fun h1=>?_,fun h1=>?_,fun h1=>absurd h1 hr⟩
 ·rw[hs,hn,hd];rfl
 ·rw[hn] at h1;exact absurd rfl h1
 ·rw[hn] at h1;cases h1
 ·rw[hs] at h1;cases h1
 ·rw[hs] at h1;exact absurd rfl h1
def unn (l:List Tx)(b:Nat):Prop:=∀t∈l,nmd t b
theorem unn.newest {l:List Tx}(h:unn l b):newestF l b=none:=by
 have:∀(l:List Tx) (o:Option ByteArray),(∀t∈l,nmd t b)→l.foldl (zch b) o=o:=by
  intro l
  induction l with
  |nil=>intro o _;rfl
  |cons t l ih=>intro o h;rw[List.foldl_cons,zhc (h t (by simp))];exact ih o fun u hu=>h u (by simp[hu])
 exact this l none h
def At0 (l:List Tx)(D:Dk)(b:Nat)(s:ByteArray):Prop:=newestF l b=some s∨(unn l b∧zam D ((25+b:Nat):Int)=s)
theorem At0.snoc {l:List Tx}{t:Tx}{s:ByteArray}(h:zai b t.info=some s∨(nmd t b∧At0 l D b s)):At0 (l++[t]) D b s:=by
 rcases h with h|⟨h,h2|⟨h2,h3⟩⟩
 ·left;rw[zdg,z4o h]
 ·left;rw[zdg,zhc h];exact h2
 ·refine .inr ⟨fun u hu=>?_,h3⟩;rcases List.mem_append.1 hu with h4|h4
  ·exact h2 u h4
  ·rw[List.mem_singleton.1 h4];exact h
theorem At0.disk {l:List Tx}{s:ByteArray}(h:At0 l D b s)(hr:zam D' ((25+b:Nat):Int)=zam D ((25+b:Nat):Int)):At0 l D' b s:=by
 rcases h with h|⟨h,h2⟩
 ·exact .inl h
 ·exact .inr ⟨h,hr.trans h2⟩
theorem At0.home {l:List Tx}{s:ByteArray}(h:At0 l D b s)(hr:zam D' ((25+b:Nat):Int)=(newestF l b).getD (zam D ((25+b:Nat):Int))):At0 [] D' b s:=by
 refine .inr ⟨(fun t ht=>by cases ht),?_⟩;rcases h with h|⟨h,h2⟩
 ·rw[hr,h];rfl
 ·rw[hr,h.newest];exact h2
def MT (j:Jn)(D:Dk)(b:Nat)(s:ByteArray):Prop:=j.role b=1∧(zai b j.now.info=some s∨(nmd j.now b∧zai b j.sealed.data=none∧(zai b j.sealed.info=some s∨(nmd j.sealed b∧At0 j.done D b s))))
theorem MT.ev {s:ByteArray}(h:MT j D b s)(hR:RB j b)(e:KpB j D j' D' b):MT j' D' b s:=by
 obtain⟨A,h2⟩:=h
 cases e with
 |same e=>
  refine⟨e.hr.trans A,?_⟩;rw[e.hi,e.hs,e.hdn,e.hD];rcases h2 with h2|⟨h2,h3⟩
  ·exact .inl h2
  ·exact .inr ⟨⟨e.hi.trans h2.1,e.hv.trans h2.2⟩,h3⟩
 |commit e=>
  have hd:zai b j.now.data=none:=by
   cases hx:zai b j.now.data with
   |none=>rfl
   |some u=>have:=hR.r2 (by rw[hx];simp);omega
  refine⟨e.hr.trans A,.inr ?_⟩;rw[e.hn,e.hs,e.hdn,e.hD];refine⟨zeb _ b,hd,?_⟩;rcases h2 with h2|⟨h2,_,h3⟩
  ·exact .inl h2
  ·rw[e.hz] at h3;rcases h3 with h3|⟨_,h3⟩
   ·cases h3
   ·exact .inr ⟨h2,h3⟩
 |through e=>
  refine⟨e.hr.trans A,?_⟩;rw[e.hn,e.hs,e.hdn];rcases h2 with h2|⟨h2,h3,h4⟩
  ·exact .inl h2
  ·refine .inr ⟨h2,rfl,.inr ⟨zeb 0 b,(At0.snoc h4).disk ?_⟩⟩;rw[e.hh,h3];rfl
 |home e=>
  refine⟨e.hr.trans A,?_⟩;rw[e.hn,e.hs,e.hdn];rcases h2 with h2|⟨h2,h3,h4⟩
  ·exact .inl h2
  ·rw[e.hz] at h4;rcases h4 with h4|⟨_,h4⟩
   ·cases h4
   ·exact .inr ⟨h2,rfl,.inr ⟨zeb 0 b,h4.home e.hh⟩⟩
theorem MT.write {s:ByteArray}(e:WriteB j D j' D' b s):MT j' D' b s:=⟨e.hr,.inl e.hi⟩
end
theorem z1c (l:List Tx)(b:Int):zb3 l b≠2:=by
 induction l with
 |nil=>exact(by decide:(1:Int)≠2)
 |cons t l ih=>
  rw[zb3];split
  ·decide
  split
  ·decide
  ·exact ih
theorem Md.behind' {j:Jn}{D:Dk}(h:Md j D)(hu:j.down=false):j.last<j.now.seq:=by
 obtain⟨_,_,A⟩:=h.seqs hu;rcases A with⟨_,A⟩|⟨_,A,_⟩<;>omega
def ac0:Ac:=⟨0,0,0,0,⟨#[]⟩⟩
def ActAt (w:World)(b o:Nat)(x:Ac):Prop:=
 w.cell? ⟨b,o,none⟩=some (.int .i64 x.kind)∧w.cell? ⟨b,o+1,none⟩=some (.int .i64 x.h)∧w.cell? ⟨b,o+2,none⟩=some (.int .i64 x.b)∧w.cell? ⟨b,o+3,none⟩=some (.int .i64 x.n)∧w.cell? ⟨b,o+4,none⟩=some (.string x.text)
def SegA (w:World)(a:Option Addr)(l:List Ac):Prop:=l=[]∨∃b off,a=some ⟨b,off,none⟩∧b<w.heap.size∧∀i,i<l.length→ActAt w b (off+i*5) (l.getD i ac0)
theorem ActAt.ext {w w':World}{b o:Nat}{x:Ac}(h:ActAt w b o x)(e:Ext w w'):ActAt w' b o x:=⟨e.cell _ _ _ h.1,e.cell _ _ _ h.2.1,e.cell _ _ _ h.2.2.1,e.cell _ _ _ h.2.2.2.1,e.cell _ _ _ h.2.2.2.2⟩
theorem SegA.ext {w w':World}{a:Option Addr}{l:List Ac}(h:SegA w a l)(e:Ext w w'):SegA w' a l:=by
 rcases h with h|⟨b,off,rfl,hlt,hc⟩
 ·exact .inl h
 ·exact .inr ⟨b,off,rfl,Nat.lt_of_lt_of_le hlt e.size,fun i hi=>(hc i hi).ext e⟩
structure OkA (x:Ac):Prop where
 n:x.n≤9223372036854775807
 text:x.text.size≤maxLen
def jOf (l:List Ac)(k:Nat):Jn:=(l.take k).foldl (fun j a=>(doJ j a).1) zx5
def rOf (l:List Ac)(k:Nat):Rp:=(doJ (jOf l k) (l.getD k ac0)).2
theorem zve (l:List Ac):jOf l 0=zx5:=by rw[jOf,List.take_zero];rfl
theorem zpn {l:List Ac}{k:Nat}(h:k<l.length):jOf l (k+1)=(doJ (jOf l k) (l.getD k ac0)).1:=by
 rw[jOf,List.take_add_one,List.getElem?_eq_getElem h,List.foldl_append,List.getD,List.getElem?_eq_getElem h];rfl
theorem zn7 (l:List Ac)(k:Nat):PJ (jOf l k):=by
 unfold jOf;generalize l.take k=q
 have:∀(q:List Ac) (j:Jn),PJ j→PJ (q.foldl (fun j a=>(doJ j a).1) j):=by
  intro q
  induction q with
  |nil=>intro j h;exact h
  |cons a q ih=>intro j h;exact ih _ (h.do a)
 exact this q _ PJ.new
def played (l:List Ac):Nat:=min l.length 150
structure Bk where
 now:Int→Option ByteArray
 states:Int→Option (Int→Option ByteArray)
 sealed:Int
 told:Int
 down:Bool
def atK {α:Type}(f:Int→Option α)(x:Int)(v:α):Int→Option α:=fun z=>if z=x then some v else f z
def z1o {α:Type}(f:Int→Option α)(x:Int):Int→Option α:=fun z=>if z=x then none else f z
theorem zpo {α:Type}(f:Int→Option α){x y:Int}(v:α)(h:y=x):atK f x v y=some v:=by rw[atK,if_pos h]
theorem zvf {α:Type}(f:Int→Option α){x y:Int}(v:α)(h:y≠x):atK f x v y=f y:=by rw[atK,if_neg h]
theorem z1d {α:Type}(f:Int→Option α){x y:Int}(h:y=x):z1o f x y=none:=by rw[z1o,if_pos h]
theorem z4p {α:Type}(f:Int→Option α){x y:Int}(h:y≠x):z1o f x y=f y:=by rw[z1o,if_neg h]
def zh1 (k:Bk)(a:Ac)(r:Rp)(last:Int)(down:Bool):Bk:=
 if r.code=0 then
  if a.kind=2 then{k with now:=atK k.now a.b (fitT a.text),down:=down}
  else if a.kind=4 then{k with now:=z1o k.now a.b,down:=down}
  else if a.kind=6 then{k with states:=atK k.states r.n k.now,sealed:=r.n,down:=down}
  else if a.kind=8 then
   if k.down=true∧down=false then{k with now:=(k.states last).getD fun _=>none,sealed:=last,told:=last,down:=down}
   else if 0<r.n then{k with told:=r.n,down:=down}
   else{k with down:=down}
  else{k with down:=down}
 else{k with down:=down}
def S0 (j:Jn)(D:Dk)(b:Nat)(s:ByteArray):Prop:=zai b j.now.data=none∧zai b j.sealed.data=none∧(j.role b≠1→j.last<j.freed b)∧At0 j.done D b s
def S1 (j:Jn)(D:Dk)(b:Nat)(s:ByteArray):Prop:=zai b j.now.data=none∧zai b j.sealed.data=none∧(j.role b≠1→j.last+1<j.freed b)∧(zai b j.sealed.info=some s∨(nmd j.sealed b∧At0 j.done D b s))
section
variable {j:Jn} {D:Dk} {j':Jn} {D':Dk} {b:Nat} {s:ByteArray}
theorem S0.same (h:S0 j D b s)(e:SameB j D j' D' b):S0 j' D' b s:=by
 obtain⟨B,A,E,C⟩:=h;exact⟨e.hd.trans B,by rw[e.hs];exact A,by rw[e.hr,e.hl,e.hf];exact E,by rw[e.hdn,e.hD];exact C⟩
theorem S0.write {u:ByteArray}(h:S0 j D b s)(e:WriteB j D j' D' b u):S0 j' D' b s:=by
 obtain⟨h1,A,h3,B⟩:=h;exact⟨e.hd,by rw[e.hs];exact A,fun hr=>absurd e.hr hr,by rw[e.hdn,e.hD];exact B⟩
theorem S0.fill {u:ByteArray}(h:S0 j D b s)(e:FillB j D j' D' b u):False:=by
 have:=h.2.2.1 e.hr0;have:=e.hf0;omega
theorem S0.revoke (h:S0 j D b s)(e:RevokeB j D j' D' b)(hq:j.last<j.now.seq):S0 j' D' b s:=by
 obtain⟨h1,A,h3,B⟩:=h;exact⟨e.hd,by rw[e.hs];exact A,fun _=>by rw[e.hl,e.hf];exact hq,by rw[e.hdn,e.hD];exact B⟩
theorem S0.commit (h:S0 j D b s)(e:CommitB j D j' D' b):S0 j' D' b s:=by
 obtain⟨A,h2,C,B⟩:=h;exact⟨by rw[e.hn];rfl,by rw[e.hs];exact A,by rw[e.hr,e.hl,e.hf];exact C,by rw[e.hdn,e.hD];exact B⟩
theorem S0.home (h:S0 j D b s)(e:HomeB j D j' D' b):S0 j' D' b s:=by
 obtain⟨A,h2,C,B⟩:=h;exact⟨by rw[e.hn];exact A,by rw[e.hs];rfl,by rw[e.hr,e.hl,e.hf];exact C,by rw[e.hdn];exact B.home e.hh⟩
theorem S1.same (h:S1 j D b s)(e:SameB j D j' D' b):S1 j' D' b s:=by
 obtain⟨B,A,E,C⟩:=h;exact⟨e.hd.trans B,by rw[e.hs];exact A,by rw[e.hr,e.hl,e.hf];exact E,by rw[e.hs,e.hdn,e.hD];exact C⟩
theorem S1.write {u:ByteArray}(h:S1 j D b s)(e:WriteB j D j' D' b u):S1 j' D' b s:=by
 obtain⟨h1,A,h3,B⟩:=h;exact⟨e.hd,by rw[e.hs];exact A,fun hr=>absurd e.hr hr,by rw[e.hs,e.hdn,e.hD];exact B⟩
theorem S1.fill {u:ByteArray}(h:S1 j D b s)(e:FillB j D j' D' b u):False:=by
 have:=h.2.2.1 e.hr0;have:=e.hf0;omega
theorem S1.revoke (h:S1 j D b s)(e:RevokeB j D j' D' b)(hq:j.last+1<j.now.seq):S1 j' D' b s:=by
 obtain⟨h1,A,h3,B⟩:=h;exact⟨e.hd,by rw[e.hs];exact A,fun _=>by rw[e.hl,e.hf];exact hq,by rw[e.hs,e.hdn,e.hD];exact B⟩
theorem S1.through (h:S1 j D b s)(e:ThroughB j D j' D' b):S0 j' D' b s:=by
 obtain⟨B,A,E,C⟩:=h;refine⟨by rw[e.hn];exact B,by rw[e.hs];rfl,by rw[e.hr,e.hl,e.hf];exact E,?_⟩;rw[e.hdn];refine(At0.snoc C).disk ?_;rw[e.hh,A];rfl
theorem MT.seal (h:MT j D b s)(hR:RB j b)(e:CommitB j D j' D' b):S1 j' D' b s:=by
 obtain⟨A,h2⟩:=h
 have hd:zai b j.now.data=none:=by
  cases hx:zai b j.now.data with
  |none=>rfl
  |some u=>have:=hR.r2 (by rw[hx];simp);omega
 refine⟨by rw[e.hn];rfl,by rw[e.hs];exact hd,fun hr=>absurd (e.hr.trans A) hr,?_⟩;rw[e.hs,e.hdn,e.hD];rcases h2 with h2|⟨h2,_,h3⟩
 ·exact .inl h2
 ·rw[e.hz] at h3;rcases h3 with h3|⟨_,h3⟩
  ·cases h3
  ·exact .inr ⟨h2,h3⟩
theorem zml (l:List Tx)(t:Tx):zb3 (l++[t]).reverse b=if zaw t.rev b=true then 0 else if(zai b t.info).isSome=true then 1 else zb3 l.reverse b:=by
 rw[List.reverse_append];rfl
theorem zue:∀(n:Nat) (l:List Tx),l.length=n→(∀t∈l,za8 t=true)→(newestF l b).isSome=true→zb3 l.reverse b=1:=by
 intro n
 induction n with
 |zero=>intro l A _ h;rw[List.eq_nil_of_length_eq_zero A] at h;cases h
 |succ n ih=>
  intro I A F h;obtain⟨l,t,D⟩:=(List.eq_nil_or_concat I).resolve_left (fun e=>by rw[e] at A;cases A);rw[List.concat_eq_append] at D;subst D;have E:l.length=n:=by simpa using A
  rw[zdg] at h;rw[zml]
  cases hx:zai b t.info with
  |some s=>
   have B:zaw t.rev b=false:=by
    cases hy:zaw t.rev b with
    |false=>rfl
    |true=>
     have C:=F t (by simp);exact absurd (zdv.2 hy) ((zd7 C).1 b (List.mem_map.2 ⟨_,zz2 hx,rfl⟩)).2
   rw[B];simp
  |none=>
   rw[zch,hx] at h;simp only[Option.isSome_none,Bool.false_eq_true,if_false] at h⊢;split at h
   ·cases h
   ·rename_i B;rw[if_neg B];exact ih l E (fun u hu=>F u (by simp[hu])) h
theorem z3l:∀(n:Nat) (l:List Tx),l.length=n→unn l b→zb3 l.reverse b=1:=by
 intro n
 induction n with
 |zero=>intro l A _;rw[List.eq_nil_of_length_eq_zero A];rfl
 |succ n ih=>
  intro E A h;obtain⟨l,t,B⟩:=(List.eq_nil_or_concat E).resolve_left (fun e=>by rw[e] at A;cases A);rw[List.concat_eq_append] at B;subst B;obtain⟨D,C⟩:=h t (by simp);rw[zml,D,C];simp only[Bool.false_eq_true,if_false,Option.isSome_none];exact ih l (by simpa using A) fun u hu=>h u (by simp[hu])
theorem At0.role {l:List Tx}(h:At0 l D b s)(hg:∀t∈l,za8 t=true):zb3 l.reverse b=1:=by
 rcases h with h|⟨h,_⟩
 ·exact zue _ l rfl hg (by rw[h];rfl)
 ·exact z3l _ l rfl h
theorem At0.told {l:List Tx}(h:At0 l D b s):At0 (l.map zdm) D b s:=by
 rcases h with h|⟨h,h2⟩
 ·left;rw[zg7];exact h
 ·refine .inr ⟨fun u hu=>?_,h2⟩;obtain⟨t,A,rfl⟩:=List.mem_map.1 hu;exact h t A
theorem At0.eff {X:Dk}(h:At0 (fndL X) X b s):zmw X b=s:=by
 rw[zmw];rcases h with h|⟨h,h2⟩
 ·rw[h];rfl
 ·rw[h.newest];exact h2
end
structure BkI (j:Jn)(D:Dk)(k:Bk):Prop where
 md:Md j D
 a0:0≤j.acts
 a1:j.acts≤400
 dn:k.down=j.down
 told:k.told=j.last
 up:j.down=false→(∃s0,k.states j.last=some s0∧∀b:Nat,b<12→∀s,s0 b=some s→S0 j D b s)∧(j.sealed=zcu 0→k.sealed=j.last)∧
  (j.sealed.seq=j.last+1→k.sealed=j.last+1∧∃s1,k.states (j.last+1)=some s1∧∀b:Nat,b<12→∀s,s1 b=some s→S1 j D b s)∧∀b:Nat,b<12→RB j b∧∀s,k.now b=some s→MT j D b s
 off:j.down=true→j.last≤fndN D - 1∧fndN D - 1≤k.sealed∧∃st,k.states (fndN D - 1)=some st∧∀b:Nat,b<12→∀s,st b=some s→zmw D b=s∧zb3 (fndL D).reverse b=1
def z6i (k:Bk)(a:Ac)(r:Rp)(j':Jn):Prop:=r.code=0→a.kind=8→k.down=true→j'.down=false→r.n=0∧∃st,k.states j'.last=some st∧k.told≤j'.last∧j'.last≤k.sealed∧∀b:Nat,b<12→∀s,st b=some s→zam j'.disk ((25+b:Nat):Int)=s
theorem Tells.lgood {D:Dk}{l:List Tx}{N P U:Int}(h:Tells D l N P U):∀t∈fndL D,za8 t=true:=by rw[h.tL];exact h.goods
theorem Md.lgood {j:Jn}{D:Dk}(h:Md j D):∀t∈fndL D,za8 t=true:=by
 cases h with
 |idle p hs hz hD ht hq=>exact ht.lgood
 |commit P U k p hw hk hs hD ht he hse hrh hru hq hN=>exact ht.lgood
 |check k p hw hz hk hs hD ht hq=>exact ht.lgood
 |off l N P U p hs hf hD ht=>exact ht.lgood
 |back U k p hw hk hs hD ht=>exact ht.lgood
theorem z50 {x:Int}(h:0≤x){t:Tx}(e:t=zcu 0):t.seq≠x+1:=by
 rw[e];show(0:Int)≠x+1;omega
theorem BkI.do {j:Jn}{D:Dk}{k:Bk}(h:BkI j D k)(a:Ac):
  (∃D',BkI (doJ j a).1 D' (zh1 k a (doJ j a).2 (doJ j a).1.last (doJ j a).1.down))∧z6i k a (doJ j a).2 (doJ j a).1:=by
 obtain⟨D',K,X,U,e⟩:=z4n h.md a h.a0 h.a1;have p:=h.md.last0;generalize (doJ j a).1=j' at *;generalize (doJ j a).2=r at *;have J:j.down=false→z6i k a r j':=fun C _ _ hk=>by rw[h.dn,C] at hk;cases hk
 have L:=fun C=>h.md.behind' C
 cases e with
 |calm hd hD all hk h8 h9=>
  have B:zh1 k a r j'.last j'.down=k:=by
   have z:({k with down:=j'.down}:Bk)=k:=by rw[hd,←h.dn]
   unfold zh1;split
   ·rename_i h0;obtain⟨k2,k3,k4,k6,_⟩:=hk h0;rw[if_neg k2,if_neg k4,if_neg k6];split
    ·rename_i w;rw[if_neg (by rintro⟨c,Y⟩;rw[h.dn] at c;rw[hd,c] at Y;cases Y),if_neg (by rw[h8 w];omega)];exact z
    ·exact z
   ·exact z
  refine⟨⟨D',?_⟩,fun _ w c Y=>by rw[h.dn] at c;rw[hd,c] at Y;cases Y⟩;rw[B];have S:=all 0 (by omega);refine⟨K,X,U,h.dn.trans hd.symm,h.told.trans S.hl.symm,fun hu'=>?_,fun hd'=>?_⟩
  ·have C:=hd.symm.trans hu';obtain⟨⟨E,u1,u2⟩,u3,u4,u5⟩:=h.up C;rw[S.hl,S.hs];refine⟨⟨E,u1,fun b hb s B=>(u2 b hb s B).same (all b hb)⟩,u3,fun hq=>?_,fun b hb=>⟨(u5 b hb).1.ev (L C) (.keep (.same (all b hb))),fun s B=>((u5 b hb).2 s B).ev (u5 b hb).1 (.same (all b hb))⟩⟩;obtain⟨N,M,O,F⟩:=u4 hq;exact⟨N,M,O,fun b hb s B=>(F b hb s B).same (all b hb)⟩
  ·have:=h.off (hd.symm.trans hd');rw[S.hl,hD];exact this
 |write b hb hab hk C hu' hc here others=>
  refine⟨⟨D',?_⟩,J C⟩;have B:zh1 k a r j'.last j'.down={k with now:=atK k.now a.b (fitT a.text),down:=j'.down}:=by rw[zh1,if_pos (by rw[hc];rfl),if_pos hk]
  rw[B];obtain⟨⟨E,u1,u2⟩,u3,u4,u5⟩:=h.up C;refine⟨K,X,U,rfl,h.told.trans here.hl.symm,fun _=>?_,fun hd=>by rw[hu'] at hd;cases hd⟩;rw[here.hl,here.hs]
  have all:∀x:Nat,x<12→x=b∨SameB j D j' D' x:=fun x hx=>by
   by_cases e:x=b
   ·exact .inl e
   ·exact .inr (others x hx e)
  refine⟨⟨E,u1,fun x hx s B=>?_⟩,u3,fun hq=>?_,fun x hx=>⟨?_,fun s B=>?_⟩⟩
  ·rcases all x hx with rfl|e
   ·exact(u2 x hx s B).write here
   ·exact(u2 x hx s B).same e
  ·obtain⟨N,M,O,F⟩:=u4 hq;refine⟨N,M,O,fun x hx s B=>?_⟩;rcases all x hx with rfl|e
   ·exact(F x hx s B).write here
   ·exact(F x hx s B).same e
  ·rcases all x hx with rfl|e
   ·exact(u5 x hx).1.ev (L C) (.write _ here)
   ·exact(u5 x hx).1.ev (L C) (.keep (.same e))
  ·have B:atK k.now a.b (fitT a.text) x=some s:=B;by_cases e:x=b
   ·subst e;rw[zpo _ _ hab.symm] at B;cases B;exact MT.write here
   ·rw[zvf _ _ (by omega)] at B;exact((u5 x hx).2 s B).ev (u5 x hx).1 (.same (others x hx e))
 |fill b hb hab hk C hu' hc here others=>
  refine⟨⟨D',?_⟩,J C⟩;have B:zh1 k a r j'.last j'.down={k with down:=j'.down}:=by rw[zh1,if_pos (by rw[hc];rfl),if_neg (by omega),if_neg (by omega),if_neg (by omega),if_neg (by omega)]
  rw[B];obtain⟨⟨E,u1,u2⟩,u3,u4,u5⟩:=h.up C;refine⟨K,X,U,rfl,h.told.trans here.hl.symm,fun _=>?_,fun hd=>by rw[hu'] at hd;cases hd⟩;rw[here.hl,here.hs]
  have all:∀x:Nat,x<12→x=b∨SameB j D j' D' x:=fun x hx=>by
   by_cases e:x=b
   ·exact .inl e
   ·exact .inr (others x hx e)
  refine⟨⟨E,u1,fun x hx s B=>?_⟩,u3,fun hq=>?_,fun x hx=>⟨?_,fun s B=>?_⟩⟩
  ·rcases all x hx with rfl|e
   ·exact((u2 x hx s B).fill here).elim
   ·exact(u2 x hx s B).same e
  ·obtain⟨N,M,O,F⟩:=u4 hq;refine⟨N,M,O,fun x hx s B=>?_⟩;rcases all x hx with rfl|e
   ·exact((F x hx s B).fill here).elim
   ·exact(F x hx s B).same e
  ·rcases all x hx with rfl|e
   ·exact(u5 x hx).1.ev (L C) (.fill _ here)
   ·exact(u5 x hx).1.ev (L C) (.keep (.same e))
  ·rcases all x hx with rfl|e
   ·exact absurd ((u5 x hx).2 s B).1 here.hr0
   ·exact((u5 x hx).2 s B).ev (u5 x hx).1 (.same e)
 |revoke b hb hab hk C hu' hc here others=>
  refine⟨⟨D',?_⟩,J C⟩;have B:zh1 k a r j'.last j'.down={k with now:=z1o k.now a.b,down:=j'.down}:=by rw[zh1,if_pos (by rw[hc];rfl),if_neg (by omega),if_pos hk]
  rw[B];obtain⟨⟨E,u1,u2⟩,u3,u4,u5⟩:=h.up C;obtain⟨_,_,A1⟩:=h.md.seqs C;refine⟨K,X,U,rfl,h.told.trans here.hl.symm,fun _=>?_,fun hd=>by rw[hu'] at hd;cases hd⟩;rw[here.hl,here.hs]
  have all:∀x:Nat,x<12→x=b∨SameB j D j' D' x:=fun x hx=>by
   by_cases e:x=b
   ·exact .inl e
   ·exact .inr (others x hx e)
  refine⟨⟨E,u1,fun x hx s B=>?_⟩,u3,fun hq=>?_,fun x hx=>⟨?_,fun s B=>?_⟩⟩
  ·rcases all x hx with rfl|e
   ·exact(u2 x hx s B).revoke here (L C)
   ·exact(u2 x hx s B).same e
  ·obtain⟨N,M,O,F⟩:=u4 hq;refine⟨N,M,O,fun x hx s B=>?_⟩;rcases all x hx with rfl|e
   ·refine(F x hx s B).revoke here ?_;rcases A1 with⟨hz,_⟩|⟨_,hq2,_⟩
    ·exact absurd hq (z50 p hz)
    ·omega
   ·exact(F x hx s B).same e
  ·rcases all x hx with rfl|e
   ·exact(u5 x hx).1.ev (L C) (.revoke here)
   ·exact(u5 x hx).1.ev (L C) (.keep (.same e))
  ·have B:z1o k.now a.b x=some s:=B;by_cases e:x=b
   ·subst e;rw[z1d _ hab.symm] at B;cases B
   ·rw[z4p _ (by omega)] at B;exact((u5 x hx).2 s B).ev (u5 x hx).1 (.same (others x hx e))
 |commit hk C hu' hc hn all=>
  refine⟨⟨D',?_⟩,J C⟩;have B:zh1 k a r j'.last j'.down={k with states:=atK k.states r.n k.now,sealed:=r.n,down:=j'.down}:=by rw[zh1,if_pos hc,if_neg (by omega),if_neg (by omega),if_pos hk]
  rw[B,hn];obtain⟨⟨E,u1,u2⟩,u3,u4,u5⟩:=h.up C;have A:=all 0;refine⟨K,X,U,rfl,h.told.trans A.hl.symm,fun _=>?_,fun hd=>by rw[hu'] at hd;cases hd⟩;rw[A.hl,A.hs];refine⟨⟨E,?_,fun x hx s B=>(u2 x hx s B).commit (all x)⟩,fun hz=>?_,fun _=>⟨rfl,k.now,zpo _ _ rfl,fun x hx s B=>((u5 x hx).2 s B).seal (u5 x hx).1 (all x)⟩,fun x hx=>⟨(u5 x hx).1.ev (L C) (.keep (.commit (all x))),fun s B=>((u5 x hx).2 s B).ev (u5 x hx).1 (.commit (all x))⟩⟩
  ·show atK k.states (j.last+1) k.now j.last=some E;rw[zvf _ _ (by omega)];exact u1
  ·have:=A.hq;rw[hz] at this;have:(0:Int)=j.last+1:=this;omega
 |through hk C hu' hc hn all=>
  refine⟨⟨D',?_⟩,J C⟩
  have B:zh1 k a r j'.last j'.down={k with told:=r.n,down:=j'.down}:=by
   rw[zh1,if_pos hc,if_neg (by omega),if_neg (by omega),if_neg (by omega),if_pos hk,if_neg (by rintro⟨x,_⟩;rw[h.dn,C] at x;cases x),if_pos (by omega)]
  rw[B,hn];obtain⟨_,u3,u4,u5⟩:=h.up C;have A:=all 0 (by omega);obtain⟨N,M,O,F⟩:=u4 A.hse;refine⟨K,X,U,rfl,A.hl.symm,fun _=>?_,fun hd=>by rw[hu'] at hd;cases hd⟩;rw[A.hl,A.hs];exact⟨⟨M,O,fun x hx s B=>(F x hx s B).through (all x hx)⟩,fun _=>N,fun hq=>absurd hq (z50 (by omega) rfl),fun x hx=>⟨(u5 x hx).1.ev (L C) (.keep (.through (all x hx))),fun s B=>((u5 x hx).2 s B).ev (u5 x hx).1 (.through (all x hx))⟩⟩
 |home hk C hu' hc all=>
  refine⟨⟨D',?_⟩,J C⟩
  have B:zh1 k a r j'.last j'.down={k with down:=j'.down}:=by
   rw[zh1,if_pos (by rw[hc];rfl),if_neg (by omega),if_neg (by omega),if_neg (by omega),if_pos hk,if_neg (by rintro⟨x,_⟩;rw[h.dn,C] at x;cases x),if_neg (by rw[hc];exact(by decide:¬(0:Int)<0))]
  rw[B];obtain⟨⟨E,u1,u2⟩,u3,u4,u5⟩:=h.up C;have A:=all 0 (by omega);refine⟨K,X,U,rfl,h.told.trans A.hl.symm,fun _=>?_,fun hd=>by rw[hu'] at hd;cases hd⟩;rw[A.hl,A.hs];exact⟨⟨E,u1,fun x hx s B=>(u2 x hx s B).home (all x hx)⟩,fun _=>u3 A.hz,fun hq=>absurd hq (z50 p rfl),fun x hx=>⟨(u5 x hx).1.ev (L C) (.keep (.home (all x hx))),fun s B=>((u5 x hx).2 s B).ev (u5 x hx).1 (.home (all x hx))⟩⟩
 |on hk hd hu' hc hl B hn hdn hr hf hdk hh=>
  obtain⟨o1,o2,Z,i,m⟩:=h.off hd
  have Q:zh1 k a r j'.last j'.down={k with now:=Z,sealed:=j'.last,told:=j'.last,down:=j'.down}:=by
   rw[zh1,if_pos (by rw[hc];rfl),if_neg (by omega),if_neg (by omega),if_neg (by omega),if_pos hk,if_pos ⟨by rw[h.dn];exact hd,hu'⟩,hl,i];rfl
  have I:∀b:Nat,b<12→∀s,Z b=some s→At0 j'.done D' b s:=fun b hb s hs2=>by
   rw[hdn];exact .inr ⟨(fun t ht=>by cases ht),(hh b hb).trans (m b hb s hs2).1⟩
  have y:∀b:Nat,b<12→∀s,Z b=some s→j'.role b=1:=fun b hb s hs2=>(hr b).trans (m b hb s hs2).2;refine⟨⟨D',?_⟩,fun _ _ _ _=>⟨by rw[hc];rfl,Z,by rw[hl];exact i,by rw[h.told,hl];exact o1,by rw[hl];exact o2,fun b hb s hs2=>by rw[hdk,hh b hb];exact(m b hb s hs2).1⟩⟩;rw[Q];refine⟨K,X,U,rfl,rfl,fun _=>⟨⟨Z,by show k.states j'.last=_;rw[hl];exact i,fun b hb s hs2=>⟨by rw[hn];rfl,by rw[B];rfl,fun hx=>absurd (y b hb s hs2) hx,I b hb s hs2⟩⟩,fun _=>rfl,fun hq=>absurd hq (z50 (by have:=K.last0;omega) B),fun b hb=>⟨RB.new B hn hdn (by rw[hr b];exact z1c _ _),fun s hs2=>⟨y b hb s hs2,.inr ⟨by rw[hn];exact zeb _ b,by rw[B];rfl,.inr ⟨by rw[B];exact zeb _ b,I b hb s hs2⟩⟩⟩⟩⟩,fun hd2=>by rw[hu'] at hd2;cases hd2⟩
 |crash hk hu' hc hl left=>
  have B:zh1 k a r j'.last j'.down={k with down:=j'.down}:=by rw[zh1,if_pos (by rw[hc];rfl),if_neg (by omega),if_neg (by omega),if_neg (by omega),if_neg (by omega)]
  refine⟨⟨D',?_⟩,fun _ h8=>by omega⟩;rw[B];refine⟨K,X,U,rfl,h.told.trans hl.symm,(fun hu2=>by rw[hu'] at hu2;cases hu2),fun _=>?_⟩;rw[hl];have gd:=h.md.lgood
  cases left with
  |all cN cL ce cc=>
   have d:∀b:Nat,zb3 (fndL D).reverse b=1→zb3 (fndL D').reverse b=1:=fun b hb=>by
    rcases cL with e|e
    ·rw[e];exact hb
    ·rw[e];rfl
   by_cases C:j.down=false
   ·obtain⟨⟨E,u1,u2⟩,u3,u4,u5⟩:=h.up C;obtain⟨l,q,_⟩:=h.md.seqs C;have:=u3 (cc C);refine⟨by omega,by show fndN D' - 1≤k.sealed;omega,E,by rw[cN,q];rw[show j.last+1 - 1=j.last by omega];exact u1,fun b hb s hs2=>?_⟩;have I:=(u2 b hb s hs2).2.2.2.told;rw[←l] at I;exact⟨(ce b hb).trans I.eff,d b (I.role gd)⟩
   ·have hd:j.down=true:=by simpa using C
    obtain⟨o1,o2,Z,i,m⟩:=h.off hd;refine⟨by omega,by show fndN D' - 1≤k.sealed;omega,Z,by rw[cN];exact i,fun b hb s hs2=>?_⟩;obtain⟨c,Y⟩:=m b hb s hs2;exact⟨(ce b hb).trans c,d b Y⟩
  |without C Q cN cL chh=>
   obtain⟨⟨E,u1,u2⟩,u3,u4,u5⟩:=h.up C;obtain⟨l,q,_⟩:=h.md.seqs C;obtain⟨N,_⟩:=u4 Q;refine⟨by omega,by show fndN D' - 1≤k.sealed;omega,E,by rw[cN,q];rw[show j.last+1 - 1=j.last by omega];exact u1,fun b hb s hs2=>?_⟩;obtain⟨_,w2,_,w4⟩:=u2 b hb s hs2;have I:=w4.told;rw[←l] at I
   have u:zam D' ((25+b:Nat):Int)=zam D ((25+b:Nat):Int):=by
    rcases chh b hb with e|e
    ·exact e
    ·rw[w2] at e;cases e
   have R:=I.disk u;rw[←cL] at R;exact⟨R.eff,by rw[cL];exact I.role gd⟩
  |whole C Q cN cL chh=>
   obtain⟨_,u3,u4,u5⟩:=h.up C;obtain⟨l,q,q3⟩:=h.md.seqs C;obtain⟨N,M,O,F⟩:=u4 Q
   have A2:za8 j.sealed=true:=by
    rcases q3 with⟨hz,_⟩|⟨_,_,hg⟩
    ·exact absurd Q (z50 p hz)
    ·exact hg
   refine⟨by omega,by show fndN D' - 1≤k.sealed;omega,M,by rw[cN,q];rw[show j.last+1+1 - 1=j.last+1 by omega];exact O,fun b hb s hs2=>?_⟩;obtain⟨_,w2,_,w4⟩:=F b hb s hs2;have I:=(At0.snoc w4).told;rw[List.map_append,←l] at I;have u:zam D' ((25+b:Nat):Int)=zam D ((25+b:Nat):Int):=by rw[chh b hb,w2];rfl
   have R:=I.disk u;have A0:fndL D'=fndL D++[j.sealed].map zdm:=cL;rw[←A0] at R;refine⟨R.eff,R.role ?_⟩;exact K.lgood
end Go.Proofs.YtjnpndfpajjihacGreat


namespace Go.Proofs.YtjnpndfpajjihacGreat
open Tryz
open Go.RowKit
def z55 (B:Nat)(b:Nat)(off:Nat)(k:Nat)(x:Ac)(r:Rp)(look:Value)(c:Nat)(l:List Ac):Nat→Value→World→Prop
 |0,v,_=>v=look
 |1,v,_=>v=.pointer (some ⟨B,0,none⟩)
 |2,v,_=>v=.slice (some ⟨b,off,none⟩) l.length c
 |3,v,_=>v=.int .i64 k
 |4,v,_=>v=.pointer (some ⟨b,off+k*5,none⟩)
 |5,v,_=>v=.agg #[.int .i64 x.kind,.int .i64 x.h,.int .i64 x.b,.int .i64 x.n,.string x.text]
 |6,v,_=>v=.agg #[.int .i64 r.code,.int .i64 r.n,.string r.text]
 |_,_,_=>True
theorem z1i (look:Value)(g:Nat)(lk:Value→Value→Value→Array Value)
  (hent:∀(o:Oper) (ρ:Operand→Value) (w:World) (x y z:Value) (ts:Array TypeId),o.op=Op.call {callee:=.value (.tmp 28),args:=#[.tmp 29,.tmp 33,.tmp 34],argTypes:=ts}→ρ (.tmp 28)=look→ρ (.tmp 29)=x→ρ (.tmp 33)=y→ρ (.tmp 34)=z→(execOp ρ o).run prog w=.ok (.enter g (lk x y z)) w)
  (a:Option Addr) (c:Nat) (l:List Ac) (w:World) (LX:List Nat) (hA:SegA (zar w LX) a l) (hlen:l.length≤maxLen) (hok:∀x∈l,OkA x) (hLX:∀x∈LX,x<w.heap.size)
  (S:Nat→Nat→World→Prop) (hS0:∀W B,w.heap.size≤B→Below w.heap.size w W→JAt W B (B::LX) zx5→S B 0 W) (hSb:∀k W W' B,S B k W→w.heap.size≤B→w.heap.size≤W.heap.size→ButL [B] W.heap.size W W'→S B k W')
  (hL:∀k W B,k<played l→w.heap.size≤B→S B k W→JAt W B (B::LX) (jOf l (k+1))→(∀x∈(B::LX),x<W.heap.size)→Calls prog g (lk (.pointer (some ⟨B,0,none⟩)) (.agg #[.int .i64 (l.getD k ac0).kind,.int .i64 (l.getD k ac0).h,.int .i64 (l.getD k ac0).b,.int .i64 (l.getD k ac0).n,.string (l.getD k ac0).text]) (.agg #[.int .i64 (rOf l k).code,.int .i64 (rOf l k).n,.string (rOf l k).text])) W fun e W'=>e=.returned (.bool true)∧S B (k+1) W'∧JAt W' B (B::LX) (jOf l (k+1))∧ButL LX w.heap.size W W'∧W.heap.size≤W'.heap.size):
  Calls prog 21 #[.slice a l.length c,look] w fun e w'=>∃B,e=.returned (.tuple #[.pointer (some ⟨B,0,none⟩),.bool true])∧w.heap.size≤B∧S B (played l) w'∧JAt w' B (B::LX) (jOf l (played l))∧ButL LX w.heap.size w w':=by
 have HA:=zab hA;have G0:=zab hok;have B3:=zab hLX;have E9:=zab hS0;have B6:=zab hSb;have HL:=zab hL;have C9:=zab hent;clear hA hok hLX hS0 hSb hL hent;unfold maxLen at hlen;go_enter func21,ntmps21;go_wp2_with fail;refine(z09 _).mono ?_;rintro e w1 ⟨rfl,C⟩;have A4:=zab C;clear C;go_wp2_with fail;refine(zvb _).mono ?_;rintro e w2 ⟨B,rfl,G8,hJ,C1⟩;have j:w.heap.size≤w1.heap.size:=A4.o.size;have B2:=zab (hJ LX (fun x hx=>Nat.lt_of_lt_of_le (B3.o x hx) j));have A3:=zab (zae A4.o C1);have R:w.heap.size≤B:=by omega
 have C2:Hid (S B 0 w2):=E9.o w2 B R A3.o B2.o;clear hJ C1;go_wp2
 go_loopw [7] (fun i wr=>∃k:Nat,k≤played l∧i=.int .i64 k∧Hid (S B k wr)∧Hid (JAt wr B (B::LX) (jOf l k))∧Hid (ButL LX w.heap.size w wr)) (fun i _=>l.length - (intOf i).toNat)
 case atStart=>exact⟨0,Nat.zero_le _,rfl,C2,by rw[zve];exact B2,ButL.of_below A3.o⟩
 case round=>
  obtain⟨k,hk,rfl,A5,A2,d⟩:=hrel;clear B2 A3 C2 A4;have F2:played l=min l.length 150:=rfl;by_cases hkp:k<played l
  ·have N:k<l.length:=by omega
   have G4:k<150:=by omega
   have i1:(k:Int)<(l.length:Int):=by omega
   have i2:(k:Int)<150:=by omega
   have i0:(0:Int)≤(k:Int):=by omega
   obtain⟨b,K,rfl,hb,hc⟩:=(HA.o.ext (Ext.butL d.o)).resolve_left (fun e=>by rw[e] at N;simp at N);obtain⟨x,hx⟩:∃x,x=l.getD k ac0:=⟨_,rfl⟩;have O:=hc k N;rw[←hx] at O;obtain⟨G7,e0⟩:=zbv O.1;have e1:=(zbv O.2.1).2;have e2:=(zbv O.2.2.1).2;have e3:=(zbv O.2.2.2.1).2;have e4:=(zbv O.2.2.2.2).2;have D7:=zab e0;have F4:=zab e1;have G3:=zab e2;have D2:=zab e3;have E3:=zab e4;have F6:b<wr.heap.size:=by rw[zbh] at hb;exact hb
   have G6:b<w.heap.size:=by
    rcases HA.o with e|⟨I,off2,he,A,_⟩
    ·rw[e] at N;simp at N
    ·cases he;rw[zbh] at A;exact A
   have HX:=zab hx;have C7:OkA x:=G0.o x (by rw[hx,List.getD,List.getElem?_eq_getElem N];exact List.getElem_mem N);have C3:=zab C7;have C6:w.heap.size≤wr.heap.size:=d.o.size;clear hc O hx hb C7;go_wp2_with fail;refine(zmi B (B::LX) (jOf l k) wr A2.o (fun y X=>?_) (zn7 l k).ready x C3.o.n C3.o.text).mono ?_
   ·rcases List.mem_cons.1 X with rfl|X
    ·exact A2.o.lt
    ·have:=B3.o y X;omega
   rintro e D ⟨rfl,A9,Z⟩;have B7:(doJ (jOf l k) x).2=rOf l k:=by rw[rOf,HX.o]
   have C5:(doJ (jOf l k) x).1=jOf l (k+1):=by rw[zpn N,HX.o]
   rw[C5] at A9;rw[B7];obtain⟨r,hr⟩:∃r,r=rOf l k:=⟨_,rfl⟩;rw[←hr];rw[show vRp r=.agg #[.int .i64 r.code,.int .i64 r.n,.string r.text] from rfl];have E1:=zab hr;have G5:wr.heap.size≤D.heap.size:=Z.size;have Q:D.heap[b]?=wr.heap[b]?:=Z.block b F6 (by simp;omega);have D4:=zab ((World.cell?_of_block Q).trans D7.o);have D5:=zab ((World.cell?_of_block Q).trans F4.o);have E7:=zab ((World.cell?_of_block Q).trans G3.o);have E0:=zab ((World.cell?_of_block Q).trans D2.o);have G2:=zab ((World.cell?_of_block Q).trans E3.o);have D6:=zab (B6.o k wr D B A5.o R C6 Z);have C8:Hid (ButL LX w.heap.size w D):=d.o.trans Z C6 (by simp;omega);clear B7 C5 hr Z Q e0 e1 e2 e3 e4;go_wp2;rename_i KK A6;obtain⟨J,u⟩:∃J,J=D.alloc (.cells #[.int .i64 r.code,.int .i64 r.n,.string r.text] 31):=⟨_,rfl⟩;rw[←u];have F:Below D.heap.size D J:=by rw[u];exact zaa _ _
   have A8:J.heap[D.heap.size]?=some (.cells #[.int .i64 r.code,.int .i64 r.n,.string r.text] 31 (0,0)):=by rw[u];exact heap_alloc_new _ _
   have Q0:Hid (J.cell? ⟨D.heap.size,0,none⟩=some (.int .i64 r.code)):=(cell_of_row J _ 0 _ _ _ A8).trans rfl;have Q1:Hid (J.cell? ⟨D.heap.size,1,none⟩=some (.int .i64 r.n)):=(cell_of_row J _ 1 _ _ _ A8).trans rfl;have Q2:Hid (J.cell? ⟨D.heap.size,2,none⟩=some (.string r.text)):=(cell_of_row J _ 2 _ _ _ A8).trans rfl;have P0:=zab (zac F (show b<D.heap.size by omega) D4.o);have P1:=zab (zac F (show b<D.heap.size by omega) D5.o);have P2:=zab (zac F (show b<D.heap.size by omega) E7.o);have P3:=zab (zac F (show b<D.heap.size by omega) E0.o);have P4:=zab (zac F (show b<D.heap.size by omega) G2.o);have j:J.heap.size=D.heap.size+1:=by rw[u];simp
   have B0:D.heap.size<J.heap.size:=by omega
   have D1:b<J.heap.size:=by omega
   have F7:Hid (∀W,Below J.heap.size J W→Calls prog g (lk (.pointer (some ⟨B,0,none⟩)) (.agg #[.int .i64 x.kind,.int .i64 x.h,.int .i64 x.b,.int .i64 x.n,.string x.text]) (.agg #[.int .i64 r.code,.int .i64 r.n,.string r.text])) W fun e W'=>e=.returned (.bool true)∧S B (k+1) W'∧JAt W' B (B::LX) (jOf l (k+1))∧ButL LX w.heap.size w W'∧W.heap.size≤W'.heap.size):=by
    intro W E;have A1:=zae F E
    have h1:=HL.o k W B hkp R (B6.o k D W B D6.o R (by omega) (ButL.of_below A1)) (A9.below A1) (fun y X=>by
     have h2:=A1.size;rcases List.mem_cons.1 X with rfl|X
     ·have:=A9.lt;omega
     ·have:=B3.o y X;omega)
    rw[←HX.o,←E1.o] at h1;refine h1.mono ?_;rintro e W' ⟨h3,h4,h5,h6,h7⟩;exact⟨h3,h4,h5,(C8.o.trans (Y:=[]) (ButL.of_below A1) (by omega) (by simp)).trans h6 (Nat.le_refl _) (by intro y X;exact .inl X),h7⟩
   have F:=D1
   have A7:∀(g:Nat→Value) (W':World),S B (k+1) W'→JAt W' B (B::LX) (jOf l (k+1))→ButL LX w.heap.size w W'→True→KK ⟨#[.slice (some ⟨b,K,none⟩) l.length c,look,undef,undef,g 4,g 5,.pointer (some ⟨B,0,none⟩),.int .i64 (k:Int),g 8,.bool true,.bool false,.pointer (some ⟨B,0,none⟩),g 12,g 13,g 14,g 15,g 16,g 17,g 18,g 19,g 20,g 21,g 22,g 23,g 24,g 25,g 26,g 27,g 28,g 29,g 30,g 31,g 32,g 33,g 34,g 35,.bool false,g 37,undef],[]⟩ W':=by
    intro g W' C4 C0 B9 _;apply A6;clear A6;have E5:=zab C4;have E6:=zab C0;have E8:=zab B9;clear C4 C0 B9;go_wp2
    go_roundw
    case rel=>exact⟨k+1,by omega,by go_num,E5,E6,E8⟩
    case measure=>first|(simp[intOf];omega)|simp[intOf]
   have B4:=zab A7;clear A7 A6;refine(show∀A0:Act,A0=_→Code.wp prog _ _ A0 _ from fun A0 hA0=>?_) _ rfl;have M:A0.tmps.size=39:=by rw[hA0];rfl
   have G1:A0.defers=[]:=by rw[hA0]
   have v0:A0.eval (.tmp 0)=.slice (some ⟨b,K,none⟩) l.length c:=by rw[hA0];rfl
   have v1:A0.eval (.tmp 1)=look:=by rw[hA0];rfl
   have v2:A0.eval (.tmp 2)=undef:=by rw[hA0];rfl
   have v3:A0.eval (.tmp 3)=undef:=by rw[hA0];rfl
   have v6:A0.eval (.tmp 6)=.pointer (some ⟨B,0,none⟩):=by rw[hA0];rfl
   have v7:A0.eval (.tmp 7)=.int .i64 (k:Int):=by rw[hA0];rfl
   have v9:A0.eval (.tmp 9)=.bool true:=by rw[hA0];rfl
   have F3:A0.eval (.tmp 10)=.bool false:=by rw[hA0];rfl
   have F0:A0.eval (.tmp 11)=.pointer (some ⟨B,0,none⟩):=by rw[hA0];rfl
   have D8:A0.eval (.tmp 38)=undef:=by rw[hA0];rfl
   have v8:A0.eval (.tmp 8)=.pointer (some ⟨D.heap.size,0,none⟩):=by rw[hA0];rfl
   clear hA0;refine zba 7 (fun w'=>Below J.heap.size J w') [28,29,30,31,32,33,34] (z55 B b K k x r look c l) (by kernel_rfl) (by kernel_rfl) (by kernel_rfl) (by kernel_rfl) (by decide) ((Below.refl _ _).drew) ⟨?_,?_,?_,?_,?_,?_,?_,trivial⟩ ?_
   ·exact zbc v1 M (fun _=>rfl) fun ρ w' E z=>by simp only[execOp];go_simp
   ·exact zbc v6 M (fun _=>rfl) fun ρ w' E z=>by simp only[execOp];go_simp
   ·exact zbc v0 M (fun _=>rfl) fun ρ w' E z=>by simp only[execOp];go_simp
   ·exact zbc v7 M (fun _=>rfl) fun ρ w' E z=>by simp only[execOp];go_simp
   ·intro a w' L E q;have p30:a.eval (.tmp 30)=.slice (some ⟨b,K,none⟩) l.length c:=q ⟨2,.data⟩ (by simp) rfl;have p31:a.eval (.tmp 31)=.int .i64 k:=q ⟨3,.data⟩ (by simp) rfl;exact zgi _ rfl rfl (by revert p30 p31;generalize a.eval=ρ;intro p30 p31;simp only[execOp];go_simp) L M E rfl
   ·exact zal 4 32 M (fun _ _ h=>h) (fun _=>rfl) fun ρ w' E p=>by have c0:w'.cell? ⟨b,K+k*5,none⟩=some (.int .i64 x.kind):=zac E F (P0.o);have c1:w'.cell? ⟨b,K+k*5+1,none⟩=some (.int .i64 x.h):=zac E F (P1.o);have c2:w'.cell? ⟨b,K+k*5+2,none⟩=some (.int .i64 x.b):=zac E F (P2.o);have c3:w'.cell? ⟨b,K+k*5+3,none⟩=some (.int .i64 x.n):=zac E F (P3.o);have c4:w'.cell? ⟨b,K+k*5+4,none⟩=some (.string x.text):=zac E F (P4.o);simp only[execOp];go_simp
   ·exact zbc v8 M (fun _=>rfl) fun ρ w' E z=>by have c0:w'.cell? ⟨D.heap.size,0,none⟩=some (.int .i64 r.code):=zac E B0 (Q0.o);have c1:w'.cell? ⟨D.heap.size,1,none⟩=some (.int .i64 r.n):=zac E B0 (Q1.o);have c2:w'.cell? ⟨D.heap.size,2,none⟩=some (.string r.text):=zac E B0 (Q2.o);simp only[execOp];go_simp
   ·intro U W L E q;have p28:U.eval (.tmp 28)=look:=q 0 (by decide);have p29:U.eval (.tmp 29)=.pointer (some ⟨B,0,none⟩):=q 1 (by decide);have p33:U.eval (.tmp 33)=.agg #[.int .i64 x.kind,.int .i64 x.h,.int .i64 x.b,.int .i64 x.n,.string x.text]:=q 5 (by decide);have p34:U.eval (.tmp 34)=.agg #[.int .i64 r.code,.int .i64 r.n,.string r.text]:=q 6 (by decide);have B8:U.tmps.size=39:=L.size.trans M;show wpOps prog _ _ [7,8] U W;rw[wpOps_cons];refine zbp g (lk (.pointer (some ⟨B,0,none⟩)) (.agg #[.int .i64 x.kind,.int .i64 x.h,.int .i64 x.b,.int .i64 x.n,.string x.text]) (.agg #[.int .i64 r.code,.int .i64 r.n,.string r.text])) rfl rfl (C9.o _ U.eval W _ _ _ _ rfl p28 p29 p33 p34) _ (F7.o W E) ?_;rintro e w5 ⟨rfl,F8,F5,D9,_⟩;refine⟨_,rfl,?_⟩;obtain⟨m,C⟩:∃m,m=U.put (some 35) (.bool true):=⟨_,rfl⟩;have B5:m.eval (.tmp 35)=.bool true:=by rw[C];exact Act.eval_put_same _ _ _ (by rw[B8];decide)
    have j:m.tmps.size=39:=by rw[C,Act.size_put];exact B8
    show wpOps prog _ _ [8] (U.put (some 35) (.bool true)) w5;rw[←C,wpOps_cons];refine zbb (.bool false) rfl rfl (by revert B5;generalize m.eval=ρ;intro B5;simp only[execOp];go_simp) ?_;obtain⟨I,A⟩:∃I,I=m.put (some 36) (.bool false):=⟨_,rfl⟩;have F9:I.eval (.tmp 36)=.bool false:=by rw[A];exact Act.eval_put_same _ _ _ (by rw[j];decide)
    have f0:I.eval (.tmp 0)=.slice (some ⟨b,K,none⟩) l.length c:=by rw[A,Act.eval_put_ne _ _ _ _ (by decide),C,Act.eval_put_ne _ _ _ _ (by decide)];exact(L.other 0 rfl).trans v0
    have f1:I.eval (.tmp 1)=look:=by rw[A,Act.eval_put_ne _ _ _ _ (by decide),C,Act.eval_put_ne _ _ _ _ (by decide)];exact(L.other 1 rfl).trans v1
    have f2:I.eval (.tmp 2)=undef:=by rw[A,Act.eval_put_ne _ _ _ _ (by decide),C,Act.eval_put_ne _ _ _ _ (by decide)];exact(L.other 2 rfl).trans v2
    have f3:I.eval (.tmp 3)=undef:=by rw[A,Act.eval_put_ne _ _ _ _ (by decide),C,Act.eval_put_ne _ _ _ _ (by decide)];exact(L.other 3 rfl).trans v3
    have f6:I.eval (.tmp 6)=.pointer (some ⟨B,0,none⟩):=by rw[A,Act.eval_put_ne _ _ _ _ (by decide),C,Act.eval_put_ne _ _ _ _ (by decide)];exact(L.other 6 rfl).trans v6
    have f7:I.eval (.tmp 7)=.int .i64 (k:Int):=by rw[A,Act.eval_put_ne _ _ _ _ (by decide),C,Act.eval_put_ne _ _ _ _ (by decide)];exact(L.other 7 rfl).trans v7
    have f9:I.eval (.tmp 9)=.bool true:=by rw[A,Act.eval_put_ne _ _ _ _ (by decide),C,Act.eval_put_ne _ _ _ _ (by decide)];exact(L.other 9 rfl).trans v9
    have E4:I.eval (.tmp 10)=.bool false:=by rw[A,Act.eval_put_ne _ _ _ _ (by decide),C,Act.eval_put_ne _ _ _ _ (by decide)];exact(L.other 10 rfl).trans F3
    have E2:I.eval (.tmp 11)=.pointer (some ⟨B,0,none⟩):=by rw[A,Act.eval_put_ne _ _ _ _ (by decide),C,Act.eval_put_ne _ _ _ _ (by decide)];exact(L.other 11 rfl).trans F0
    have D3:I.eval (.tmp 38)=undef:=by rw[A,Act.eval_put_ne _ _ _ _ (by decide),C,Act.eval_put_ne _ _ _ _ (by decide)];exact(L.other 38 rfl).trans D8
    have s:I=⟨#[_,_,_,_,_,_,_,_,_,_,_,_,_,_,_,_,_,_,_,_,_,_,_,_,_,_,_,_,_,_,_,_,_,_,_,_,_,_,_],[]⟩:=zcd I 39 (by rw[A,Act.size_put];exact j) (by rw[A,Act.defers_put',C,Act.defers_put'];exact L.defers.trans G1);dsimp only at s;rw[f0,f1,f2,f3,f6,f7,f9,E4,E2,F9,D3] at s;show KK (m.put (some 36) (.bool false)) _;rw[←A];exact(congrArg (fun y=>KK y _) s).mpr (B4.o (fun k=>I.eval (.tmp k)) _ F8 F5 D9 trivial)
  ·have F1:k=played l:=by omega
   subst F1;have B1:¬((played l:Int)<(l.length:Int))∨¬((played l:Int)<150):=by omega
   clear F2;rcases Classical.em ((played l:Int)<(l.length:Int)) with i1|i1
   ·have i2:¬((played l:Int)<150):=by omega
    clear B1;go_wp2;refine bodyPost_ret (results_tmp2 rfl _ _ _) rfl ⟨B,rfl,R,A5.o,A2.o,d.o⟩
   ·clear B1;go_wp2;refine bodyPost_ret (results_tmp2 rfl _ _ _) rfl ⟨B,rfl,R,A5.o,A2.o,d.o⟩
theorem SegA.hideW {w:World}{a:Option Addr}{l:List Ac}(h:SegA w a l){w':World}(hb:Below w.heap.size w w'){X:List Nat}(hX:∀x∈X,w.heap.size≤x):SegA (zar w' X) a l:=by
 rcases h with h0|⟨b,off,rfl,hlt,hc⟩
 ·exact .inl h0
 ·have A:b∉X:=fun hx=>by have:=hX b hx;omega
  refine .inr ⟨b,off,rfl,by rw[zbh];have:=hb.size;omega,fun i hi=>?_⟩;obtain⟨B,D,C,F,E⟩:=hc i hi;exact⟨zbz A (zac hb hlt B),zbz A (zac hb hlt D),zbz A (zac hb hlt C),zbz A (zac hb hlt F),zbz A (zac hb hlt E)⟩
end Go.Proofs.YtjnpndfpajjihacGreat

