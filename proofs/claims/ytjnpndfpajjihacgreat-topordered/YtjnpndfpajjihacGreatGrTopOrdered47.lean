/-
  
-/
import Derived.Test.YtjnpndfpajjihacGreatGrTopOrdered42
import Derived.Test.YtjnpndfpajjihacGreatGrTopOrdered46
import Derived.Test.YtjnpndfpajjihacGreatXTellsP
set_option maxRecDepth 100000
set_option maxHeartbeats 40000000
namespace Go.Proofs.YtjnpndfpajjihacGreat
open Go.Proofs.Tryz
open Go.RowKit
theorem DkFrom.lower{n m:Nat}{v:Value}(h:DkFrom n v)(hm:m≤n):DkFrom m v:=by
 obtain⟨a,l,c,A,E,C,rfl,D,B⟩:=h;exact⟨a,l,c,A,E,C,rfl,fun b o e=>Nat.le_trans hm (D b o e),fun b o e=>Nat.le_trans hm (B b o e)⟩
def okD (bs:Nat)(v0:Value)(d:Dk)(v:Value)(w:World):Prop:=IsDk w v d∧(v=v0∨DkFrom bs v)
theorem okD.below{bs:Nat}{v0:Value}{d:Dk}{v:Value}{w w':World}(h:okD bs v0 d v w)(hb:Below w.heap.size w w'):okD bs v0 d v w':=⟨h.1.below hb,h.2⟩
theorem okD.store{bs:Nat}{v0:Value}{d:Dk}{v:Value}{w:World}(h:okD bs v0 d v w){T:Nat}{a1:Option Addr}{n1 c1:Nat}{a2:Option Addr}{n2 c2:Nat}(hT:w.heap[T]?=some (.cells #[.slice a1 n1 c1,.slice a2 n2 c2] 46 (0,0)))(b1:Option Addr)(m1 k1:Nat)(b2:Option Addr)(m2 k2:Nat):okD bs v0 d v ((w.setCell ⟨T,0,none⟩ (.slice b1 m1 k1)).setCell ⟨T,1,none⟩ (.slice b2 m2 k2)):=
 ⟨(h.1.setBox hT 0 _).setBox (heap_setCell_same _ _ 0 _ _ (.slice b1 m1 k1) hT) 1 _,h.2⟩
def zh8 (B:Nat)(bs:Nat)(j:Jn)(s:St)(da:Option Addr)(dc:Nat)(db:Option Addr)(dd:Nat)(tb:Nat)(tq:Nat)(tc:Nat)(n:Nat):Nat→Value→World→Prop
 |0,v,_=>v=.pointer (some ⟨B,0,none⟩)
 |1,v,_=>v=.pointer (some ⟨B,0,none⟩)
 |2,v,_=>v=.pointer (some ⟨B,1,none⟩)
 |3,v,_=>v=.agg #[.slice da j.disk.safe.length dc,.slice db j.disk.wr.length dd]
 |4,v,_=>v=.pointer (some ⟨B,0,none⟩)
 |5,v,_=>v=.pointer (some ⟨B,0,none⟩)
 |6,v,_=>v=.pointer (some ⟨B,56,none⟩)
 |7,v,_=>v=.slice (some ⟨tb,tq,none⟩) n tc
 |8,v,_=>v=.pointer (some ⟨tb,tq,none⟩)
 |9,v,_=>v=.agg #[.int .i64 s.1,.int .i64 s.2.1,.string s.2.2]
 |10,v,w=>∃v2,v=.tuple #[v2,.int .i64 (doneE j.disk s)]∧okD bs (.agg #[.slice da j.disk.safe.length dc,.slice db j.disk.wr.length dd]) (zbh j.disk s) v2 w
 |11,v,w=>∃v2,v=.tuple #[v2,.int .i64 (doneE j.disk s)]∧okD bs (.agg #[.slice da j.disk.safe.length dc,.slice db j.disk.wr.length dd]) (zbh j.disk s) v2 w
 |12,v,w=>okD bs (.agg #[.slice da j.disk.safe.length dc,.slice db j.disk.wr.length dd]) (zbh j.disk s) v w
 |13,v,_=>v=.int .i64 (doneE j.disk s)
 |14,v,w=>∃(T:Nat) (a1:Option Addr) (n1 c1:Nat) (a2:Option Addr) (n2 c2:Nat),v=.pointer (some ⟨T,0,none⟩)∧bs≤T∧w.heap[T]?=some (.cells #[.slice a1 n1 c1,.slice a2 n2 c2] 46 (0,0))
 |15,v,w=>∃(T:Nat) (e1:Option Addr) (e2:Nat) (e3:Option Addr) (e4:Nat),v=.pointer (some ⟨T,0,none⟩)∧bs≤T∧w.heap[T]?=some (.cells #[.slice e1 (zbh j.disk s).safe.length e2,.slice e3 (zbh j.disk s).wr.length e4] 46 (0,0))∧okD bs (.agg #[.slice da j.disk.safe.length dc,.slice db j.disk.wr.length dd]) (zbh j.disk s) (.agg #[.slice e1 (zbh j.disk s).safe.length e2,.slice e3 (zbh j.disk s).wr.length e4]) w
 |_,_,_=>True
theorem zkt{B:Nat}{bs:Nat}{j:Jn}{s:St}{da:Option Addr}{dc:Nat}{db:Option Addr}{dd:Nat}{tb:Nat}{tq:Nat}{tc:Nat}{n:Nat}{w w':World}(hb:Below w.heap.size w w'){i:Nat}:∀kk uu,kk≠i→zh8 B bs j s da dc db dd tb tq tc n kk uu w→zh8 B bs j s da dc db dd tb tq tc n kk uu w':=by
 intro kk uu _ h
 match kk,h with
 |0,h|1,h|2,h|3,h|4,h|5,h|6,h|7,h|8,h|9,h=>exact h
 |10,⟨v2,h1,h2⟩=>exact⟨v2,h1,h2.below hb⟩
 |11,⟨v2,h1,h2⟩=>exact⟨v2,h1,h2.below hb⟩
 |12,h=>exact h.below hb
 |13,h=>exact h
 |14,⟨T,a1,n1,c1,a2,n2,c2,h1,h2,h3⟩=>exact⟨T,a1,n1,c1,a2,n2,c2,h1,h2,zad hb (Array.getElem?_eq_some_iff.1 h3).1 h3⟩
 |15,⟨T,e1,e2,e3,e4,h1,h2,h3,h4⟩=>exact⟨T,e1,e2,e3,e4,h1,h2,zad hb (Array.getElem?_eq_some_iff.1 h3).1 h3,h4.below hb⟩
 |_+16,_=>exact trivial
theorem zr0{B:Nat}{bs:Nat}{j:Jn}{s:St}{da:Option Addr}{dc:Nat}{db:Option Addr}{dd:Nat}{tb:Nat}{tq:Nat}{tc:Nat}{n:Nat}{w:World}{T:Nat}{a1:Option Addr}{n1 c1:Nat}{a2:Option Addr}{n2 c2:Nat}(hT:w.heap[T]?=some (.cells #[.slice a1 n1 c1,.slice a2 n2 c2] 46 (0,0)))(b1:Option Addr)(m1 k1:Nat)(b2:Option Addr)(m2 k2:Nat):∀kk x,kk≠15→zh8 B bs j s da dc db dd tb tq tc n kk x w→zh8 B bs j s da dc db dd tb tq tc n kk x ((w.setCell ⟨T,0,none⟩ (.slice b1 m1 k1)).setCell ⟨T,1,none⟩ (.slice b2 m2 k2)):=by
 intro kk x A h
 match kk,h with
 |0,h|1,h|2,h|3,h|4,h|5,h|6,h|7,h|8,h|9,h=>exact h
 |10,⟨y,h1,h2⟩=>exact⟨y,h1,h2.store hT _ _ _ _ _ _⟩
 |11,⟨y,h1,h2⟩=>exact⟨y,h1,h2.store hT _ _ _ _ _ _⟩
 |12,h=>exact h.store hT _ _ _ _ _ _
 |13,h=>exact h
 |14,⟨T',u1,u2,u3,u4,u5,u6,h1,h2,h3⟩=>
  by_cases e:T'=T
  ·subst e;exact⟨T',_,_,_,_,_,_,h1,h2,zjs hT _ _⟩
  ·exact⟨T',u1,u2,u3,u4,u5,u6,h1,h2,(Below.heap_setCell _ _ _ _ e).trans ((Below.heap_setCell _ _ _ _ e).trans h3)⟩
 |15,_=>exact absurd rfl A
 |_+16,_=>exact trivial
def zmn (B:Nat)(j:Jn)(X:List Nat)(d2:Dk)(e1:Option Addr)(e2:Nat)(e3:Option Addr)(e4:Nat)(tb:Nat)(tq:Nat)(tc:Nat)(n:Nat)(r:List St):Nat→Value→World→Prop
 |0,v,_=>v=.pointer (some ⟨B,0,none⟩)
 |1,v,_=>v=.pointer (some ⟨B,0,none⟩)
 |2,v,_=>v=.agg #[.slice e1 d2.safe.length e2,.slice e3 d2.wr.length e4]
 |3,v,_=>v=.pointer (some ⟨B,0,none⟩)
 |4,v,_=>v=.pointer (some ⟨B,0,none⟩)
 |5,v,_=>v=.pointer (some ⟨B,56,none⟩)
 |6,v,_=>v=.slice (some ⟨tb,tq,none⟩) n tc
 |7,v,w=>∃c a2,v=.slice a2 r.length c∧r.length≤c∧SegSt (zau w X) a2 r
 |8,v,_=>v=.pointer (some ⟨B,0,none⟩)
 |9,v,_=>v=.pointer (some ⟨B,1,none⟩)
 |10,_,w=>JAt w B X {j with disk:=d2}
 |_,_,_=>True
theorem zt8{B:Nat}{j:Jn}{X:List Nat}{d2:Dk}{e1:Option Addr}{e2:Nat}{e3:Option Addr}{e4:Nat}{tb:Nat}{tq:Nat}{tc:Nat}{n:Nat}{r:List St}{w w':World}(hs:∀a l,SegSt (zau w X) a l→SegSt (zau w' X) a l):∀kk x,kk≠10→zmn B j X d2 e1 e2 e3 e4 tb tq tc n r kk x w→zmn B j X d2 e1 e2 e3 e4 tb tq tc n r kk x w':=by
 intro kk x A h
 match kk,h with
 |0,h|1,h|2,h|3,h|4,h|5,h|6,h=>exact h
 |7,⟨c,a2,h1,h2,h3⟩=>exact⟨c,a2,h1,h2,hs _ _ h3⟩
 |8,h|9,h=>exact h
 |10,_=>exact absurd rfl A
 |_+11,_=>exact trivial
theorem z0t(B:Nat)(X:List Nat)(j:Jn)(w:World)(h:JAt w B X j)(hX:∀x∈X,x<w.heap.size)(hn:j.done.length≤900)(hf:j.fL.length≤maxLen)(hq:IntKind.i64.wrap (j.fN - 1)=j.fN - 1):
  Calls prog 44 #[.pointer (some ⟨B,0,none⟩)] w (zdj w B X (zjc j)):=by
 have HJ:=zab h;have L8:=h.lt;have A1:=h.1;have HX:=zab hX;have HN:=zab hn;have HF:=zab hf;have HQ:=zab hq;clear h hX hn hf hq;have L4:¬w.heap.size=B:=by omega
 go_enter func44,ntmps44;go_wp2_with fail;obtain⟨I,B1⟩:∃I,I=w.alloc (.cells #[.int .i64 0,.int .i64 0,.string ⟨#[]⟩] 31):=⟨_,rfl⟩;have N:Hid (JAt I B (w.heap.size::X) j):=by rw[B1];exact HJ.o.more (zaa _ _) (Nat.le_refl _)
 have L:Hid (ButL [B] w.heap.size w I):=by rw[B1];exact ButL.of_below (zaa _ _)
 have KR:Hid (I.heap[w.heap.size]?=some (.cells #[.int .i64 0,.int .i64 0,.string ⟨#[]⟩] 31 (0,0))):=by rw[B1];exact heap_alloc_new _ _
 have D7:I.heap.size=w.heap.size+1:=by rw[B1];simp
 have A7:w.heap.size<I.heap.size:=by omega
 have A9:w.heap.size≠B:=by omega
 have F9:Hid (∀x∈(w.heap.size::X),x<I.heap.size):=fun x hx=>by
  rcases List.mem_cons.1 hx with rfl|hx
  ·exact A7
  ·have:=HX.o x hx;omega
 rw[←B1];clear B1;refine(zfn B (w.heap.size::X) j I N.o).mono ?_;rintro e w' ⟨rfl,rfl⟩
 cases hst:j.steps with
 |nil=>
  have HE:Hid (zjc j=(j,zat 4)):=by rw[Hid,zjc,hst]
  have B3:decide (0<([]:List St).length)=false:=rfl;rw[B3];clear hst B3;go_wp2_with fail;refine(zav 4 _).mono ?_;rintro e w2 ⟨rfl,D⟩;have Q:=zab (zad D A7 KR.o);have A2:=zab (N.o.below D);have A5:=zab (L.o.trans (Y:=[]) (ButL.of_below D) L.o.size (by simp));clear D;obtain⟨⟨y0,y1,y2⟩,yf⟩:=zbn Q.o;go_wp2;exact zbd HE.o Q.o A2.o A5.o A9 A1 fun W u0 u1 u2=>by simp[results,results44,go_sem,u0,u1,u2]
 |cons s r=>
  have B3:decide (0<(s::r).length)=true:=by simp
  rw[B3];clear B3;have F4:=zab hst;obtain⟨_,da,dc,db,dd,na,nc,nb,nd,ne,nf,sa,sc,sb,sd,se,sf,ca,cc,fa,fc,ta,tc,h1,hr⟩:=id N.o;have C1:Hid (w'.cell? ⟨B,1,none⟩=some (.slice da j.disk.safe.length dc)):=zak h1 1;have C2:Hid (w'.cell? ⟨B,2,none⟩=some (.slice db j.disk.wr.length dd)):=zak h1 2;obtain⟨n,B5⟩:∃n,n=j.steps.length:=⟨_,rfl⟩;have B6:=hr.2.2.2.2.2.1;have E1:=hr.2.2.2.2.2.2.2.1;rw[hst]at B6;obtain⟨S,O,F6,C7,D9⟩:=B6.resolve_left (by simp);have E5:Hid (w'.cell? ⟨B,56,none⟩=some (.slice (some ⟨S,O,none⟩) n tc)):=by rw[Hid,B5,←F6];exact zak h1 56
  have B4:=D9 0 (by simp);simp only[Nat.zero_mul,Nat.add_zero,List.getD_cons_zero]at B4;obtain⟨I9,D2⟩:=zbv B4.1;have S0:=zab D2;have S1:=zab (zbv B4.2.1).2;have S2:=zab (zbv B4.2.2).2
  have C3:Hid (SegSt (zau w' (w.heap.size::X)) (some ⟨S,O+3,none⟩) r):=.inr ⟨S,O+3,rfl,C7,fun i hi=>by
   have:=D9 (i+1) (by simp;omega);rw[show O+(i+1)*3=O+3+i*3 by omega]at this
   simpa using this⟩
  have E6:S<w'.heap.size:=by rw[zbf]at C7;exact C7
  have D6:Hid (n - 1=r.length):=by rw[Hid,B5,hst];simp
  have E3:Hid (1≤n):=by rw[Hid,B5,hst];simp
  have I6:Hid (n≤tc):=by rw[Hid,B5];exact E1
  have E9:=zab (hr.1.ext (Ext.seenL w' _));have G0:=zab hr.1;have B9:B<w'.heap.size:=by omega
  clear h1 hr B6 E1 F6 C7 D9 B4 D2 I9 hst B5;have J3:(1:Int)≤(n:Int):=by have:=E3.o;omega
  go_wp2;rename_i KK D5;obtain⟨I,G3⟩:∃I,I=w':=⟨_,rfl⟩;rw[←G3];subst G3
  have D1:∀(g:Nat→Value) (y:World) (T:Nat) (U:Option Addr) (b:Nat) (Z:Option Addr) (R:Nat),I.heap.size≤T→y.heap[T]?=some (.cells #[.slice U (zbh j.disk s).safe.length b,.slice Z (zbh j.disk s).wr.length R] 46 (0,0))→okD I.heap.size (.agg #[.slice da j.disk.safe.length dc,.slice db j.disk.wr.length dd]) (zbh j.disk s) (.agg #[.slice U (zbh j.disk s).safe.length b,.slice Z (zbh j.disk s).wr.length R]) y→Below I.heap.size I y→KK ⟨#[.pointer (some ⟨B,0,none⟩),g 1,.pointer (some ⟨w.heap.size,0,none⟩),.pointer (some ⟨T,0,none⟩),.int .i64 (doneE j.disk s),g 5,g 6,g 7,g 8,g 9,g 10,g 11,g 12,g 13,g 14,g 15,g 16,g 17,g 18,g 19,g 20,g 21,g 22,g 23,g 24,g 25,g 26,g 27,g 28,g 29,g 30,g 31,g 32,g 33,g 34,g 35,g 36,g 37,g 38,g 39,g 40,g 41,g 42,g 43],[]⟩ y:=by
   intro g y T U b Z R B0 m ok A4;apply D5;clear D5;have F2:=zab (N.o.below A4);have D4:Hid (ButL [B] w.heap.size w y):=L.o.trans (Y:=[]) (ButL.of_below A4) L.o.size (by simp);have G8:=zab (zad A4 A7 KR.o);have M4:I.heap.size≤y.heap.size:=A4.size
   have F8:Hid (IsDk (zau y (w.heap.size::X)) (.agg #[.slice U (zbh j.disk s).safe.length b,.slice Z (zbh j.disk s).wr.length R]) (zbh j.disk s)):=by
    rcases ok.2 with e|F
    ·have hd:=G0.o.ext (Ext.freshL A4);have F1:=ok.1;rw[Hid,e];rw[e]at F1;exact hd.asDisk F1
    ·exact ok.1.hideF F F9.o
   have H4:=zab (zac A4 B9 E5.o);have H6:=zab (C3.o.ext (Ext.freshL A4));have E0:=zab m;have F3:T<y.heap.size:=(Array.getElem?_eq_some_iff.1 m).1;have G2:¬T=B:=by omega
   have H5:w.heap.size<y.heap.size:=by omega
   clear A4 m ok C1 C2 E5 S0 S1 S2 C3 E9 G0 N L KR;obtain⟨M,E2⟩:∃M,M=(zbh j.disk s):=⟨_,rfl⟩;rw[←E2]at F8 E0;have G4:=zab E2;clear E2;by_cases he:doneE j.disk s=0
   ·have C6:Hid (zjc j=if r=[] then zb4 ({j with disk:=M,steps:=r}:Jn) else(({j with disk:=M,steps:=r}:Jn),zat 0)):=by rw[Hid,zjc,F4.o];simp only[he,if_true,G4.o]
    rw[he];clear he G4;go_wp2;rename_i C8 B8
    have C4:∀(g:Nat→Value) (W6:World),JAt W6 B (w.heap.size::X) ({j with disk:=M,steps:=r}:Jn)→ButL [B] y.heap.size y W6→C8 ⟨#[.pointer (some ⟨B,0,none⟩),g 1,.pointer (some ⟨w.heap.size,0,none⟩),g 3,g 4,g 5,g 6,g 7,g 8,g 9,g 10,g 11,g 12,g 13,g 14,g 15,g 16,g 17,g 18,g 19,g 20,g 21,g 22,g 23,g 24,g 25,g 26,g 27,g 28,g 29,g 30,g 31,g 32,g 33,g 34,g 35,g 36,g 37,g 38,g 39,g 40,g 41,g 42,g 43],[]⟩ W6:=by
     intro g W6 G7 C5;apply B8;clear B8;have N:=zab G7;have L:Hid (ButL [B] w.heap.size w W6):=D4.o.trans C5 D4.o.size (by simp);have KR:Hid (W6.heap[w.heap.size]?=some (.cells #[.int .i64 0,.int .i64 0,.string ⟨#[]⟩] 31 (0,0))):=(C5.block _ (by omega) (by simpa using A9)).trans G8.o;have L6:y.heap.size≤W6.heap.size:=C5.size;have A7:w.heap.size<W6.heap.size:=by omega
     clear G7 C5;go_wp2_with fail;refine(zfn B (w.heap.size::X) ({j with disk:=M,steps:=r}:Jn) W6 N.o).mono ?_;rintro e w7 ⟨rfl,rfl⟩;by_cases hre:r=[]
     ·have C9:Hid (zjc j=zb4 ({j with disk:=M,steps:=r}:Jn)):=by rw[Hid,C6.o,if_pos hre]
      have B2:decide (0<(({j with disk:=M,steps:=r}:Jn)).steps.length)=false:=by show decide (0<r.length)=false;rw[hre];rfl
      rw[B2];clear B2 C6;go_wp2_with fail;refine(zt2 B (w.heap.size::X) ({j with disk:=M,steps:=r}:Jn) w7 N.o (fun x hx=>by have:=F9.o x hx;omega) HN.o HF.o HQ.o).mono ?_;rintro e w2 ⟨rfl,G9,C0⟩;have Q:Hid (w2.heap[w.heap.size]?=some (.cells #[.int .i64 0,.int .i64 0,.string ⟨#[]⟩] 31 (0,0))):=(C0.block _ (by omega) (by simpa using A9)).trans KR.o;have A2:=zab G9;have A5:Hid (ButL [B] w.heap.size w w2):=L.o.trans C0 L.o.size (by simp);have L9:w7.heap.size≤w2.heap.size:=C0.size;clear G9 C0;obtain⟨P,hP⟩:∃P,P=zb4 ({j with disk:=M,steps:=r}:Jn):=⟨_,rfl⟩;rw[←hP]at C9 A2⊢;have J4:Hid (zjc j=(P.1,⟨P.2.code,P.2.n,P.2.text⟩)):=C9.o;rw[show vRp P.2=.agg #[.int .i64 P.2.code,.int .i64 P.2.n,.string P.2.text] from rfl];clear hP C9;obtain⟨⟨y0,y1,y2⟩,yf⟩:=zbn Q.o;go_wp2;exact zbd J4.o Q.o A2.o A5.o A9 A1 fun W u0 u1 u2=>by simp[results,results44,go_sem,u0,u1,u2]
     ·have HE:Hid (zjc j=(({j with disk:=M,steps:=r}:Jn),zat 0)):=by rw[Hid,C6.o,if_neg hre]
      have B2:decide (0<(({j with disk:=M,steps:=r}:Jn)).steps.length)=true:=by show decide (0<r.length)=true;simpa[List.length_pos_iff] using hre
      rw[B2];clear B2 C6 hre;go_wp2_with fail;refine(zav 0 _).mono ?_;rintro e w2 ⟨rfl,D⟩;have Q:=zab (zad D A7 KR.o);have A2:=zab (N.o.below D);have A5:=zab (L.o.trans (Y:=[]) (ButL.of_below D) L.o.size (by simp));clear D;obtain⟨⟨y0,y1,y2⟩,yf⟩:=zbn Q.o;go_wp2;exact zbd HE.o Q.o A2.o A5.o A9 A1 fun W u0 u1 u2=>by simp[results,results44,go_sem,u0,u1,u2]
    have D3:=zab C4;clear C4 B8;have C3:=H6;refine(show∀A0:Act,A0=_→Code.wp prog _ _ A0 _ from fun A0 hA0=>?_) _ rfl;have C:A0.tmps.size=44:=by rw[hA0];rfl
    have E4:A0.defers=[]:=by rw[hA0]
    have v0:A0.eval (.tmp 0)=.pointer (some ⟨B,0,none⟩):=by rw[hA0];rfl
    have K:A0.eval (.tmp 2)=.pointer (some ⟨w.heap.size,0,none⟩):=by rw[hA0];rfl
    have v3:A0.eval (.tmp 3)=.pointer (some ⟨T,0,none⟩):=by rw[hA0];rfl
    clear hA0;refine zbi 11 (fun w'=>(∃d,JAt w' B (w.heap.size::X) {j with disk:=d})∧ButL [B] y.heap.size y w'∧w'.cell? ⟨B,56,none⟩=some (.slice (some ⟨S,O,none⟩) n tc)) [27,28,29,30,31,32,33,34,35,36,36] (zmn B j (w.heap.size::X) M U b Z R S O tc n r) (by kernel_rfl) (by kernel_rfl) (by kernel_rfl) (by kernel_rfl) (by decide) (⟨⟨_,F2.o.below (Below.refl _ _).drew⟩,ButL.of_below (Below.refl _ _).drew,H4.o⟩) ⟨?_,?_,?_,?_,?_,?_,?_,?_,?_,?_,?_,trivial⟩ ?_
    ·exact zbg v0 C (fun _=>rfl) fun ρ w' A z=>by simp only[execOp];go_simp
    ·exact zbg v0 C (fun _=>rfl) fun ρ w' A z=>by simp only[execOp];go_simp
    ·exact zbg v3 C (fun _=>rfl) fun ρ w' A z=>by have c0:w'.cell? ⟨T,0,none⟩=some (.slice U M.safe.length b):=(zgq ((A.2.1.block _ F3 (by simpa using G2)).trans E0.o)).1.1;have c1:w'.cell? ⟨T,1,none⟩=some (.slice Z M.wr.length R):=(zgq ((A.2.1.block _ F3 (by simpa using G2)).trans E0.o)).1.2;simp only[execOp];go_simp
    ·exact zbg v0 C (fun _=>rfl) fun ρ w' A z=>by simp only[execOp];go_simp
    ·exact zam 3 30 C (fun _ _ h=>h) (fun _=>rfl) fun ρ w' A p=>by simp only[execOp];go_simp
    ·exact zam 4 31 C (fun _ _ h=>h) (fun _=>rfl) fun ρ w' A p=>by simp only[execOp];go_simp
    ·exact zam 5 32 C (fun _ _ h=>h) (fun _=>rfl) fun ρ w' A p=>by have c0:w'.cell? ⟨B,56,none⟩=some (.slice (some ⟨S,O,none⟩) n tc):=A.2.2;simp only[execOp];go_simp
    ·intro a w' F A J;have p33:a.eval (.tmp 33)=.slice (some ⟨S,O,none⟩) n tc:=J ⟨6,.data⟩ (by simp) rfl;have B6:=C3.o.ext (Ext.butL (A.2.1.wider (Y:=(w.heap.size::X)) (by simp[A1])));have J3:=E3.o;have L2:=I6.o;by_cases E1:tc=1
     ·have L0:n=1:=by omega
      refine zar (.slice (some ⟨S,O,none⟩) 0 0) rfl rfl (by have A3:=Act.eval_const a (.int .i64 1);revert p33 A3;generalize a.eval=ρ;intro p33 A3;simp only[execOp];go_simp) ⟨_,rfl,A,?_,fun _ _ _ h=>h⟩;show zmn _ _ _ _ _ _ _ _ _ _ _ _ _ _ ((a.put (some 34) _).eval (.tmp 34)) w';rw[zan F C (by decide)];have H3:r.length=0:=by have:=D6.o;omega
      exact⟨0,_,by rw[H3],by omega,.inl (List.eq_nil_of_length_eq_zero H3)⟩
     ·refine zar (.slice (some ⟨S,O+3,none⟩) (n - 1) (tc - 1)) rfl rfl (by have A3:=Act.eval_const a (.int .i64 1);revert p33 A3;generalize a.eval=ρ;intro p33 A3;simp only[execOp];go_simp) ⟨_,rfl,A,?_,fun _ _ _ h=>h⟩;show zmn _ _ _ _ _ _ _ _ _ _ _ _ _ _ ((a.put (some 34) _).eval (.tmp 34)) w';rw[zan F C (by decide)];exact⟨tc - 1,_,by rw[D6.o],by have:=D6.o;omega,B6⟩
    ·exact zam 0 27 C (fun _ _ h=>h) (fun _=>rfl) fun ρ w' A p=>by simp only[execOp];go_simp
    ·exact zam 8 35 C (fun _ _ h=>h) (fun _=>rfl) fun ρ w' A p=>by simp only[execOp];go_simp
    ·intro a w' F A J;have p36:a.eval (.tmp 36)=.pointer (some ⟨B,1,none⟩):=J ⟨9,.data⟩ (by simp) rfl;have p29:a.eval (.tmp 29)=.agg #[.slice U M.safe.length b,.slice Z M.wr.length R]:=J ⟨2,.data⟩ (by simp) rfl;obtain⟨⟨d,D8⟩,G5,K2⟩:=A;obtain⟨_,K6,J8,I1,K3,K0,K4,H7,J7,I7,K8,K9,I5,J6,I8,K1,J5,I0,J2,I2,H9,J0,J9,k1,_⟩:=id D8;obtain⟨x1,c1⟩:∃v,w'.cell? ⟨B,1,none⟩=some v:=⟨_,(zak k1 1).trans rfl⟩;obtain⟨x2,c2⟩:∃v,w'.cell? ⟨B,2,none⟩=some v:=⟨_,(zak k1 2).trans rfl⟩;have M0:w'.frozen? ⟨B,1,none⟩=false:=frozen_of_row w' _ _ _ _ k1;have M1:w'.frozen? ⟨B,2,none⟩=false:=frozen_of_row w' _ _ _ _ k1;clear k1;have F7:=F8.o.ext (Ext.butL (G5.wider (Y:=(w.heap.size::X)) (by simp[A1])));refine zco rfl rfl (w':=((w'.setCell ⟨B,1,none⟩ (.slice U M.safe.length b)).setCell ⟨B,2,none⟩ (.slice Z M.wr.length R))) (by revert p36 p29;generalize a.eval=ρ;intro p36 p29;simp only[execOp];go_simp) ⟨_,rfl,⟨⟨_,D8.putDisk F7⟩,?_,?_⟩,?_,zt8 (fun a l h=>(h.ext (Ext.setL (by simp[A1]) 1 _)).ext (Ext.setL (by simp[A1]) 2 _))⟩
     ·exact(G5.set (.inl (by simp)) 1 _).set (.inl (by simp)) 2 _
     ·simp[go_sem,K2]
     ·exact D8.putDisk F7
    ·intro a W F A J;have F0:a.eval (.tmp 28)=.pointer (some ⟨B,0,none⟩):=J 1 (by decide);obtain⟨yc,ya,I4,K5,K7⟩:∃c q,a.eval (.tmp 34)=.slice q r.length c∧r.length≤c∧SegSt (zau W (w.heap.size::X)) q r:=J 7 (by decide);have E8:JAt W B (w.heap.size::X) {j with disk:=M}:=J 10 (by decide);obtain⟨_,K6,J8,I1,K3,K0,K4,H7,J7,I7,K8,K9,I5,J6,I8,K1,J5,I0,J2,I2,H9,J0,J9,k1,_⟩:=id E8;obtain⟨L3,M3⟩:∃v,W.cell? ⟨B,56,none⟩=some v:=⟨_,(zak k1 56).trans rfl⟩;have L1:W.frozen? ⟨B,56,none⟩=false:=frozen_of_row W _ _ _ _ k1;clear k1;have B7:a.tmps.size=44:=F.size.trans C;show wpOps prog _ _ [11,12,13] a W;rw[wpOps_cons];refine zar (.pointer (some ⟨B,0,none⟩)) rfl rfl (by revert F0;generalize a.eval=ρ;intro F0;simp only[execOp];go_simp) ?_;obtain⟨b1,A6⟩:∃b1,b1=a.put (some 37) (.pointer (some ⟨B,0,none⟩)):=⟨_,rfl⟩;have G1:b1.eval (.tmp 37)=.pointer (some ⟨B,0,none⟩):=by rw[A6];exact Act.eval_put_same _ _ _ (by rw[B7];decide)
     have I3:b1.eval (.tmp 34)=.slice ya r.length yc:=by rw[A6,Act.eval_put_ne _ _ _ _ (by decide)];exact I4
     show wpOps prog _ _ [12,13] (a.put (some 37) (.pointer (some ⟨B,0,none⟩))) W;rw[←A6,wpOps_cons];refine zar (.pointer (some ⟨B,56,none⟩)) rfl rfl (by revert G1;generalize b1.eval=ρ;intro G1;simp only[execOp];go_simp) ?_;obtain⟨b2,D⟩:∃b2,b2=b1.put (some 38) (.pointer (some ⟨B,56,none⟩)):=⟨_,rfl⟩;have D7:b1.tmps.size=44:=by rw[A6,Act.size_put];exact B7
     have F5:b2.eval (.tmp 38)=.pointer (some ⟨B,56,none⟩):=by rw[D];exact Act.eval_put_same _ _ _ (by rw[D7];decide)
     have H0:b2.eval (.tmp 34)=.slice ya r.length yc:=by rw[D,Act.eval_put_ne _ _ _ _ (by decide)];exact I3
     show wpOps prog _ _ [13] (b1.put (some 38) (.pointer (some ⟨B,56,none⟩))) W;rw[←D,wpOps_cons];refine zco rfl rfl (w':=W.setCell ⟨B,56,none⟩ (.slice ya r.length yc)) (by revert F5 H0;generalize b2.eval=ρ;intro F5 H0;simp only[execOp];go_simp) ?_;have f0:b2.eval (.tmp 0)=.pointer (some ⟨B,0,none⟩):=by rw[D,Act.eval_put_ne _ _ _ _ (by decide),A6,Act.eval_put_ne _ _ _ _ (by decide)];exact(F.other 0 rfl).trans v0
     have f2:b2.eval (.tmp 2)=.pointer (some ⟨w.heap.size,0,none⟩):=by rw[D,Act.eval_put_ne _ _ _ _ (by decide),A6,Act.eval_put_ne _ _ _ _ (by decide)];exact(F.other 2 rfl).trans K
     have u:b2=⟨#[_,_,_,_,_,_,_,_,_,_,_,_,_,_,_,_,_,_,_,_,_,_,_,_,_,_,_,_,_,_,_,_,_,_,_,_,_,_,_,_,_,_,_,_],[]⟩:=zcn b2 44 (by rw[D,Act.size_put];exact D7) (by rw[D,Act.defers_put',A6,Act.defers_put'];exact F.defers.trans E4);dsimp only at u;rw[f0,f2]at u;show C8 b2 _;exact(congrArg (fun x=>C8 x _) u).mpr (D3.o (fun k=>b2.eval (.tmp k)) _ (E8.putSteps K7 K5) (A.2.1.set (.inl (by simp)) 56 _))
   ·have HE:Hid (zjc j=(j,zat (doneE j.disk s))):=by rw[Hid,zjc,F4.o];simp only[he,if_false]
    have L5:(doneE j.disk s !=0)=true:=by simpa using he
    clear he;generalize doneE j.disk s=E at *;have N:=F2;have L:=D4;have KR:=G8;have A7:=H5;go_wp2_with fail;refine(zav E _).mono ?_;rintro e w2 ⟨rfl,D⟩;have Q:=zab (zad D A7 KR.o);have A2:=zab (N.o.below D);have A5:=zab (L.o.trans (Y:=[]) (ButL.of_below D) L.o.size (by simp));clear D;obtain⟨⟨y0,y1,y2⟩,yf⟩:=zbn Q.o;go_wp2;exact zbd HE.o Q.o A2.o A5.o A9 A1 fun W u0 u1 u2=>by simp[results,results44,go_sem,u0,u1,u2]
  have E7:=zab D1;clear D1 D5;refine(show∀A0:Act,A0=_→Code.wp prog _ _ A0 _ from fun A0 hA0=>?_) _ rfl;have C:A0.tmps.size=44:=by rw[hA0];rfl
  have E4:A0.defers=[]:=by rw[hA0]
  have v0:A0.eval (.tmp 0)=.pointer (some ⟨B,0,none⟩):=by rw[hA0];rfl
  have K:A0.eval (.tmp 2)=.pointer (some ⟨w.heap.size,0,none⟩):=by rw[hA0];rfl
  clear hA0;refine zbi 16 (fun w'=>Below I.heap.size I w') [10,11,12,13,14,15,16,17,18,19,20,9,21,22,3,3] (zh8 B I.heap.size j s da dc db dd S O tc n) (by kernel_rfl) (by kernel_rfl) (by kernel_rfl) (by kernel_rfl) (by decide) ((Below.refl _ _).drew) ⟨?_,?_,?_,?_,?_,?_,?_,?_,?_,?_,?_,?_,?_,?_,?_,?_,trivial⟩ ?_
  ·exact zbg v0 C (fun _=>rfl) fun ρ w' A z=>by simp only[execOp];go_simp
  ·exact zam 0 10 C (fun _ _ h=>h) (fun _=>rfl) fun ρ w' A p=>by simp only[execOp];go_simp
  ·exact zam 1 11 C (fun _ _ h=>h) (fun _=>rfl) fun ρ w' A p=>by simp only[execOp];go_simp
  ·exact zam 2 12 C (fun _ _ h=>h) (fun _=>rfl) fun ρ w' A p=>by have c0:w'.cell? ⟨B,1,none⟩=some (.slice da j.disk.safe.length dc):=zac A B9 C1.o;have c1:w'.cell? ⟨B,2,none⟩=some (.slice db j.disk.wr.length dd):=zac A B9 C2.o;simp only[execOp];go_simp
  ·exact zbg v0 C (fun _=>rfl) fun ρ w' A z=>by simp only[execOp];go_simp
  ·exact zam 4 14 C (fun _ _ h=>h) (fun _=>rfl) fun ρ w' A p=>by simp only[execOp];go_simp
  ·exact zam 5 15 C (fun _ _ h=>h) (fun _=>rfl) fun ρ w' A p=>by simp only[execOp];go_simp
  ·exact zam 6 16 C (fun _ _ h=>h) (fun _=>rfl) fun ρ w' A p=>by have c0:w'.cell? ⟨B,56,none⟩=some (.slice (some ⟨S,O,none⟩) n tc):=zac A B9 E5.o;simp only[execOp];go_simp
  ·intro a w' F A J;have H1:a.eval (.tmp 17)=.slice (some ⟨S,O,none⟩) n tc:=J ⟨7,.data⟩ (by simp) rfl;have M2:¬n=0:=by have:=E3.o;omega
   exact zgo _ rfl rfl (by have A3:=Act.eval_const a (.int .i64 0);revert H1 A3;generalize a.eval=ρ;intro H1 A3;simp only[execOp];go_simp) F C A rfl
  ·exact zam 8 18 C (fun _ _ h=>h) (fun _=>rfl) fun ρ w' A p=>by have c0:w'.cell? ⟨S,O,none⟩=some (.int .i64 s.1):=zac A E6 S0.o;have c1:w'.cell? ⟨S,O+1,none⟩=some (.int .i64 s.2.1):=zac A E6 S1.o;have c2:w'.cell? ⟨S,O+2,none⟩=some (.string s.2.2):=zac A E6 S2.o;simp only[execOp];go_simp
  ·intro a w' F A J;have H2:a.eval (.tmp 13)=.agg #[.slice da j.disk.safe.length dc,.slice db j.disk.wr.length dd]:=J ⟨3,.data⟩ (by simp) rfl;have G6:a.eval (.tmp 19)=.agg #[.int .i64 s.1,.int .i64 s.2.1,.string s.2.2]:=J ⟨9,.data⟩ (by simp) rfl;refine zbp 73 #[.agg #[.slice da j.disk.safe.length dc,.slice db j.disk.wr.length dd],.agg #[.int .i64 s.1,.int .i64 s.2.1,.string s.2.2]] rfl rfl (by have pf:=Act.eval_func a 73;revert H2 G6 pf;generalize a.eval=ρ;intro H2 G6 pf;simp only[execOp];go_simp) _ (z2d (.agg #[.slice da j.disk.safe.length dc,.slice db j.disk.wr.length dd]) j.disk s _ (E9.o.below A)) ?_;rintro e w2 ⟨K,rfl,H8,D,J1⟩;refine⟨_,rfl,_,rfl,zae A D,?_,zkt D⟩;show zh8 _ _ _ _ _ _ _ _ _ _ _ _ _ ((a.put (some 20) _).eval (.tmp 20)) w2;rw[zan F C (by decide)];exact⟨K,rfl,H8,J1.imp id (fun h=>h.lower A.size)⟩
  ·intro a w' F A J;obtain⟨K,pc,ok⟩:∃K,a.eval (.tmp 20)=.tuple #[K,.int .i64 (doneE j.disk s)]∧okD I.heap.size (.agg #[.slice da j.disk.safe.length dc,.slice db j.disk.wr.length dd]) (zbh j.disk s) K w':=J ⟨10,.data⟩ (by simp) rfl;refine zar (.tuple #[K,.int .i64 (doneE j.disk s)]) rfl rfl (by revert pc;generalize a.eval=ρ;intro pc;simp only[execOp];go_simp) ⟨_,rfl,A,?_,fun _ _ _ h=>h⟩;show zh8 _ _ _ _ _ _ _ _ _ _ _ _ _ ((a.put (some 9) _).eval (.tmp 9)) w';rw[zan F C (by decide)];exact⟨K,rfl,ok⟩
  ·intro a w' F A J;obtain⟨K,pm,ok⟩:∃K,a.eval (.tmp 9)=.tuple #[K,.int .i64 (doneE j.disk s)]∧okD I.heap.size (.agg #[.slice da j.disk.safe.length dc,.slice db j.disk.wr.length dd]) (zbh j.disk s) K w':=J ⟨11,.data⟩ (by simp) rfl;refine zar (K) rfl rfl (by revert pm;generalize a.eval=ρ;intro pm;simp only[execOp];go_simp) ⟨_,rfl,A,?_,fun _ _ _ h=>h⟩;show zh8 _ _ _ _ _ _ _ _ _ _ _ _ _ ((a.put (some 21) _).eval (.tmp 21)) w';rw[zan F C (by decide)];exact ok
  ·intro a w' F A J;obtain⟨K,pm,ok⟩:∃K,a.eval (.tmp 9)=.tuple #[K,.int .i64 (doneE j.disk s)]∧okD I.heap.size (.agg #[.slice da j.disk.safe.length dc,.slice db j.disk.wr.length dd]) (zbh j.disk s) K w':=J ⟨11,.data⟩ (by simp) rfl;exact zgo _ rfl rfl (by revert pm;generalize a.eval=ρ;intro pm;simp only[execOp];go_simp) F C A rfl
  ·intro a w' F A J;refine zfl (.pointer (some ⟨w'.heap.size,0,none⟩)) rfl rfl (w':=w'.alloc (.cells #[.slice none 0 0,.slice none 0 0] 46)) (by simp only[execOp];go_simp) ⟨_,rfl,A.alloc A.size _,?_,zkt (zaa _ _)⟩;show zh8 _ _ _ _ _ _ _ _ _ _ _ _ _ ((a.put (some 3) _).eval (.tmp 3)) _;rw[zan F C (by decide)];exact⟨_,_,_,_,_,_,_,rfl,A.size,heap_alloc_new _ _⟩
  ·intro a w' F A J;obtain⟨T,a1,n1,c1,q,n2,c2,pT,B0,m⟩:∃(T:Nat) (a1:Option Addr) (n1 c1:Nat) (q:Option Addr) (n2 c2:Nat),a.eval (.tmp 3)=.pointer (some ⟨T,0,none⟩)∧I.heap.size≤T∧w'.heap[T]?=some (.cells #[.slice a1 n1 c1,.slice q n2 c2] 46 (0,0)):=J ⟨14,.data⟩ (by simp) rfl;have ok:okD I.heap.size (.agg #[.slice da j.disk.safe.length dc,.slice db j.disk.wr.length dd]) (zbh j.disk s) (a.eval (.tmp 21)) w':=J ⟨12,.data⟩ (by simp) rfl;obtain⟨U,b,Z,R,hv,_⟩:=id ok.1;rw[hv]at ok;obtain⟨⟨t0,t1⟩,tf⟩:=zgq m;refine zco rfl rfl (w':=((w'.setCell ⟨T,0,none⟩ (.slice U (zbh j.disk s).safe.length b)).setCell ⟨T,1,none⟩ (.slice Z (zbh j.disk s).wr.length R))) (by revert pT hv;generalize a.eval=ρ;intro pT hv;simp only[execOp];go_simp) ⟨_,rfl,?_,?_,zr0 m _ _ _ _ _ _⟩
   ·exact(A.setCell (p:=⟨T,0,none⟩) B0 _).setCell (p:=⟨T,1,none⟩) B0 _
   ·show zh8 _ _ _ _ _ _ _ _ _ _ _ _ _ (a.eval (.tmp 3)) _;exact⟨T,U,b,Z,R,pT,B0,zjs m _ _,ok.store m _ _ _ _ _ _⟩
  ·intro a W F A J;obtain⟨T,U,b,Z,R,pT,B0,m,ok⟩:∃(T:Nat) (U:Option Addr) (b:Nat) (Z:Option Addr) (R:Nat),a.eval (.tmp 3)=.pointer (some ⟨T,0,none⟩)∧I.heap.size≤T∧W.heap[T]?=some (.cells #[.slice U (zbh j.disk s).safe.length b,.slice Z (zbh j.disk s).wr.length R] 46 (0,0))∧okD I.heap.size (.agg #[.slice da j.disk.safe.length dc,.slice db j.disk.wr.length dd]) (zbh j.disk s) (.agg #[.slice U (zbh j.disk s).safe.length b,.slice Z (zbh j.disk s).wr.length R]) W:=J 15 (by decide);have pE:a.eval (.tmp 22)=.int .i64 (doneE j.disk s):=J 13 (by decide);show wpOps prog _ _ [16] a W;rw[wpOps_cons];refine zar (.int .i64 (doneE j.disk s)) rfl rfl (by revert pE;generalize a.eval=ρ;intro pE;simp only[execOp];go_simp) ?_;have B7:a.tmps.size=44:=F.size.trans C;obtain⟨q,A8⟩:∃q,q=a.put (some 4) (.int .i64 (doneE j.disk s)):=⟨_,rfl⟩;have f4:q.eval (.tmp 4)=.int .i64 (doneE j.disk s):=by rw[A8];exact Act.eval_put_same _ _ _ (by rw[B7];decide)
   have f0:q.eval (.tmp 0)=.pointer (some ⟨B,0,none⟩):=by rw[A8,Act.eval_put_ne _ _ _ _ (by decide)];exact(F.other 0 rfl).trans v0
   have f2:q.eval (.tmp 2)=.pointer (some ⟨w.heap.size,0,none⟩):=by rw[A8,Act.eval_put_ne _ _ _ _ (by decide)];exact(F.other 2 rfl).trans K
   have f3:q.eval (.tmp 3)=.pointer (some ⟨T,0,none⟩):=by rw[A8,Act.eval_put_ne _ _ _ _ (by decide)];exact pT
   have u:q=⟨#[_,_,_,_,_,_,_,_,_,_,_,_,_,_,_,_,_,_,_,_,_,_,_,_,_,_,_,_,_,_,_,_,_,_,_,_,_,_,_,_,_,_,_,_],[]⟩:=zcn q 44 (by rw[A8,Act.size_put];exact B7) (by rw[A8,Act.defers_put'];exact F.defers.trans E4);dsimp only at u;rw[f0,f2,f3,f4]at u;show KK (a.put (some 4) (.int .i64 (doneE j.disk s))) _;rw[←A8];exact(congrArg (fun x=>KK x _) u).mpr (E7.o (fun k=>q.eval (.tmp k)) _ T U b Z R B0 m ok A)
structure Ready (j:Jn):Prop where
 done:j.done.length≤900
 found:j.fL.length≤maxLen
 next:IntKind.i64.wrap (j.fN - 1)=j.fN - 1
 seq:IntKind.i64.wrap (j.now.seq+1)=j.now.seq+1
 last:IntKind.i64.wrap (j.last+1)=j.last+1
 info:j.now.info.length*24≤140737488355328
 data:j.now.data.length*24≤140737488355328
 few:j.down=true→j.steps=[]→∀t∈fndL j.disk,Few t
 used0:0≤j.ru
 used1:j.ru≤24
 acts0:0≤j.acts
 acts1:j.acts≤400
def zob (B:Nat)(D:Nat)(j:Jn)(X:List Nat)(na:Option Addr)(nc:Nat)(nb:Option Addr)(nd:Nat)(ne:Option Addr)(nf:Nat)(ah:Int)(an:Int):Nat→Value→World→Prop
 |0,v,_=>v=.pointer (some ⟨B,0,none⟩)
 |1,v,_=>v=.pointer (some ⟨B,0,none⟩)
 |2,v,_=>v=.pointer (some ⟨B,0,none⟩)
 |3,v,_=>v=.pointer (some ⟨B,31,none⟩)
 |4,v,_=>v=.agg #[.int .i64 j.now.seq,.slice na j.now.info.length nc,.slice nb j.now.data.length nd,.slice ne j.now.rev.length nf,.bool j.now.h0.on,.int .i64 j.now.h0.left,.bool j.now.h1.on,.int .i64 j.now.h1.left,.bool j.now.h2.on,.int .i64 j.now.h2.left]
 |5,v,_=>v=.pointer (some ⟨D,1,none⟩)
 |6,v,_=>v=.int .i64 ah
 |7,v,_=>v=.pointer (some ⟨D,3,none⟩)
 |8,v,_=>v=.int .i64 an
 |9,v,_=>v=.pointer (some ⟨B,0,none⟩)
 |10,v,_=>v=.pointer (some ⟨B,0,none⟩)
 |11,v,_=>v=.pointer (some ⟨B,3,none⟩)
 |12,v,_=>v=.agg #[.int .i64 j.rh,.int .i64 j.ru]
 |13,v,_=>v=.int .i64 (24 - j.ru)
 |14,v,w=>∃v2,v=.tuple #[v2,.int .i64 (zbc j.now ah an (24 - j.ru))]∧okTx X (zaw j.now ah an (24 - j.ru)) v2 undef w
 |15,v,w=>okTx X (zaw j.now ah an (24 - j.ru)) v undef w
 |16,v,_=>v=.int .i64 (zbc j.now ah an (24 - j.ru))
 |_,_,_=>True
theorem zku{B:Nat}{D:Nat}{j:Jn}{X:List Nat}{na:Option Addr}{nc:Nat}{nb:Option Addr}{nd:Nat}{ne:Option Addr}{nf:Nat}{ah:Int}{an:Int}{w w':World}(hb:Below w.heap.size w w'){i:Nat}:∀kk uu,kk≠i→zob B D j X na nc nb nd ne nf ah an kk uu w→zob B D j X na nc nb nd ne nf ah an kk uu w':=by
 intro kk uu _ h
 match kk,h with
 |0,h|1,h|2,h|3,h|4,h|5,h|6,h|7,h|8,h|9,h|10,h|11,h|12,h|13,h=>exact h
 |14,⟨v2,h1,h2⟩=>exact⟨v2,h1,h2.below hb⟩
 |15,h=>exact h.below hb
 |16,h=>exact h
 |_+17,_=>exact trivial
def zmq (B:Nat)(D:Nat)(j:Jn)(X:List Nat)(na:Option Addr)(nc:Nat)(nb:Option Addr)(nd:Nat)(ne:Option Addr)(nf:Nat)(ah:Int):Nat→Value→World→Prop
 |0,v,_=>v=.pointer (some ⟨B,0,none⟩)
 |1,v,_=>v=.pointer (some ⟨B,0,none⟩)
 |2,v,_=>v=.pointer (some ⟨B,0,none⟩)
 |3,v,_=>v=.pointer (some ⟨B,31,none⟩)
 |4,v,_=>v=.agg #[.int .i64 j.now.seq,.slice na j.now.info.length nc,.slice nb j.now.data.length nd,.slice ne j.now.rev.length nf,.bool j.now.h0.on,.int .i64 j.now.h0.left,.bool j.now.h1.on,.int .i64 j.now.h1.left,.bool j.now.h2.on,.int .i64 j.now.h2.left]
 |5,v,_=>v=.pointer (some ⟨D,1,none⟩)
 |6,v,_=>v=.int .i64 ah
 |7,v,w=>∃v2,v=.tuple #[v2,.int .i64 (zda j.now ah)]∧okTx X (zb3 j.now ah) v2 undef w
 |8,v,w=>okTx X (zb3 j.now ah) v undef w
 |9,v,_=>v=.int .i64 (zda j.now ah)
 |_,_,_=>True
theorem zpq{B:Nat}{D:Nat}{j:Jn}{X:List Nat}{na:Option Addr}{nc:Nat}{nb:Option Addr}{nd:Nat}{ne:Option Addr}{nf:Nat}{ah:Int}{w w':World}(hb:Below w.heap.size w w'){i:Nat}:∀kk uu,kk≠i→zmq B D j X na nc nb nd ne nf ah kk uu w→zmq B D j X na nc nb nd ne nf ah kk uu w':=by
 intro kk uu _ h
 match kk,h with
 |0,h|1,h|2,h|3,h|4,h|5,h|6,h=>exact h
 |7,⟨v2,h1,h2⟩=>exact⟨v2,h1,h2.below hb⟩
 |8,h=>exact h.below hb
 |9,h=>exact h
 |_+10,_=>exact trivial
theorem z0z(B:Nat)(X:List Nat)(j:Jn)(w:World)(h:JAt w B X j)(hX:∀x∈X,x<w.heap.size)(hK:Ready j)(ah ab an:Int)(at0:ByteArray)(ht:at0.size≤maxLen):
  Calls prog 47 #[.pointer (some ⟨B,0,none⟩),.agg #[.int .i64 1,.int .i64 ah,.int .i64 ab,.int .i64 an,.string at0]] w (zdj w B X (za5 j ⟨1,ah,ab,an,at0⟩)):=by
 have HJ:=zab h;have E8:=h.lt;have B7:=h.1;have HX:=zab hX;have D5:=zab hK.used0;have D2:=zab hK.used1;have C8:=zab hK.info;have C5:=zab hK.data;have E5:=zab hK.seq;have E7:=zab hK.last;have F1:=zab ht;have E9:Hid (j.done.length≤maxLen):=Nat.le_trans hK.done (by unfold maxLen;omega);clear h hX hK ht;have E6:¬w.heap.size=B:=by omega
 have E4:¬w.heap.size+1=B:=by omega
 have D9:Hid (za5 j ⟨1,ah,ab,an,at0⟩=zm2 j (zaw j.now ah an (24 - j.ru)) (zbc j.now ah an (24 - j.ru))):=by rw[Hid,za5];simp[]
 obtain⟨P,y⟩:∃P,P=zm2 j (zaw j.now ah an (24 - j.ru)) (zbc j.now ah an (24 - j.ru)):=⟨_,rfl⟩;have HE:Hid (za5 j ⟨1,ah,ab,an,at0⟩=(P.1,P.2)):=by rw[Hid,D9.o,←y]
 have E2:=zab y;clear y;go_enter func47,ntmps47;go_wp2;obtain⟨C,Q⟩:∃C,C=(w.alloc (.cells #[.int .i64 1,.int .i64 ah,.int .i64 ab,.int .i64 an,.string at0] 23)).alloc (.cells #[.int .i64 0,.int .i64 0,.string ⟨#[]⟩] 31):=⟨_,rfl⟩;have B4:(w.alloc (.cells #[.int .i64 1,.int .i64 ah,.int .i64 ab,.int .i64 an,.string at0] 23)).heap.size=w.heap.size+1:=by simp
 have A6:Below w.heap.size w C:=by rw[Q];exact zae (zaa _ _) (zaa _ _)
 have A5:Hid (JAt C B ((w.heap.size+1)::X) j):=HJ.o.more A6 (by omega);have B3:Hid (ButL [B] w.heap.size w C):=ButL.of_below A6;have KR:Hid (C.heap[w.heap.size+1]?=some (.cells #[.int .i64 0,.int .i64 0,.string ⟨#[]⟩] 31 (0,0))):=by rw[Q,←B4];exact heap_alloc_new _ _
 have KA:Hid (C.heap[w.heap.size]?=some (.cells #[.int .i64 1,.int .i64 ah,.int .i64 ab,.int .i64 an,.string at0] 23 (0,0))):=by rw[Q];exact zad (zaa _ _) (by omega) (heap_alloc_new _ _)
 have F0:C.heap.size=w.heap.size+2:=by rw[Q];simp
 have A7:w.heap.size+1<C.heap.size:=by omega
 have A8:w.heap.size+1≠B:=by omega
 have D3:Hid (∀x∈((w.heap.size+1)::X),x<C.heap.size):=fun x hx=>by
  rcases List.mem_cons.1 hx with rfl|hx
  ·exact A7
  ·have:=HX.o x hx;omega
 rw[←Q];clear Q B4;rename_i KK s;obtain⟨_,da,dc,db,dd,i,l,d,c,ne,m,sa,sc,sb,sd,se,sf,ca,cc,fa,fc,ta,tc,I,hr⟩:=id A5.o;have C3:Hid (C.cell? ⟨B,3,none⟩=some (.int .i64 j.rh)):=zak I 3;have C4:Hid (C.cell? ⟨B,4,none⟩=some (.int .i64 j.ru)):=zak I 4;have D4:Hid (C.cell? ⟨B,31,none⟩=some (.int .i64 j.now.seq)):=zak I 31;have D7:Hid (C.cell? ⟨B,32,none⟩=some (.slice i j.now.info.length l)):=zak I 32;have E3:Hid (C.cell? ⟨B,33,none⟩=some (.slice d j.now.data.length c)):=zak I 33;have C0:Hid (C.cell? ⟨B,34,none⟩=some (.slice ne j.now.rev.length m)):=zak I 34;have C7:Hid (C.cell? ⟨B,35,none⟩=some (.bool j.now.h0.on)):=zak I 35;have C2:Hid (C.cell? ⟨B,36,none⟩=some (.int .i64 j.now.h0.left)):=zak I 36;have D6:Hid (C.cell? ⟨B,37,none⟩=some (.bool j.now.h1.on)):=zak I 37;have D1:Hid (C.cell? ⟨B,38,none⟩=some (.int .i64 j.now.h1.left)):=zak I 38;have C6:Hid (C.cell? ⟨B,39,none⟩=some (.bool j.now.h2.on)):=zak I 39;have B8:Hid (C.cell? ⟨B,40,none⟩=some (.int .i64 j.now.h2.left)):=zak I 40;have A9:Hid (IsTx (zau C ((w.heap.size+1)::X)) (.agg #[.int .i64 j.now.seq,.slice i j.now.info.length l,.slice d j.now.data.length c,.slice ne j.now.rev.length m,.bool j.now.h0.on,.int .i64 j.now.h0.left,.bool j.now.h1.on,.int .i64 j.now.h1.left,.bool j.now.h2.on,.int .i64 j.now.h2.left]) j.now):=hr.2.1;have E1:=zab hr.2.2.2.2.2.2.1;clear I hr;obtain⟨⟨z0,z1,z2,z3,z4⟩,_⟩:=zis KA.o;have A1:=zab z1;have A3:=zab z3;clear z0 z1 z2 z3 z4;have E:B<C.heap.size:=by omega
 have B1:w.heap.size<C.heap.size:=by omega
 have r:∀(g:Nat→Value) (W3 M:World),zm2 j (zaw j.now ah an (24 - j.ru)) (zbc j.now ah an (24 - j.ru))=P→W3=(((M.setCell ⟨(w.heap.size+1),0,none⟩ (.int .i64 P.2.code)).setCell ⟨(w.heap.size+1),1,none⟩ (.int .i64 P.2.n)).setCell ⟨(w.heap.size+1),2,none⟩ (.string P.2.text))→M.heap[w.heap.size+1]?=some (.cells #[.int .i64 0,.int .i64 0,.string ⟨#[]⟩] 31 (0,0))→JAt M B ((w.heap.size+1)::X) P.1→ButL [B] w.heap.size w M→KK ⟨#[.pointer (some ⟨B,0,none⟩),g 1,g 2,.pointer (some ⟨w.heap.size,0,none⟩),.pointer (some ⟨w.heap.size+1,0,none⟩),g 5,g 6,g 7,g 8,g 9,g 10,g 11,g 12,g 13,g 14,g 15,g 16,g 17,g 18,g 19,g 20,g 21,g 22,g 23,g 24,g 25,g 26,g 27,g 28,g 29,g 30,g 31,g 32,g 33,g 34,g 35,g 36,g 37,g 38,g 39,g 40,g 41,g 42,g 43,g 44,g 45,g 46,g 47,g 48,g 49,g 50,g 51,g 52,g 53,g 54,g 55,g 56,g 57,g 58,g 59,g 60,g 61,g 62,g 63,g 64,g 65,g 66],[]⟩ W3:=by
  intro g W3 M _ hW b U Z;apply s;clear s;have hX:=zge b (.int .i64 P.2.code) (.int .i64 P.2.n) (.string P.2.text);rw[←hW]at hX;obtain⟨⟨u0,u1,u2⟩,_⟩:=zbn hX;have HW:=zab hW;clear hW hX;go_wp2;refine bodyPost_ret (v:=.agg #[.int .i64 P.2.code,.int .i64 P.2.n,.string P.2.text]) (by simp[results,results47,go_sem,u0,u1,u2]) rfl ⟨by rw[HE.o];rfl,?_,?_⟩
  ·rw[HE.o,HW.o];exact zw7 U A8 B7 _ _ _
  ·rw[HW.o];exact((Z.set (.inr (by omega)) 0 _).set (.inr (by omega)) 1 _).set (.inr (by omega)) 2 _
 have A2:=zab r;clear r s;refine(show∀A0:Act,A0=_→Code.wp prog _ _ A0 _ from fun A0 hA0=>?_) _ rfl;have D:A0.tmps.size=67:=by rw[hA0];rfl
 have E0:A0.defers=[]:=by rw[hA0]
 have v0:A0.eval (.tmp 0)=.pointer (some ⟨B,0,none⟩):=by rw[hA0];rfl
 have v3:A0.eval (.tmp 3)=.pointer (some ⟨w.heap.size,0,none⟩):=by rw[hA0];rfl
 have v4:A0.eval (.tmp 4)=.pointer (some ⟨w.heap.size+1,0,none⟩):=by rw[hA0];rfl
 clear hA0;refine zbi 17 (fun w'=>Below C.heap.size C w') [13,14,15,16,17,18,19,20,21,22,23,24,25,26,27,28,29] (zob B w.heap.size j ((w.heap.size+1)::X) i l d c ne m ah an) (by kernel_rfl) (by kernel_rfl) (by kernel_rfl) (by kernel_rfl) (by decide) ((Below.refl _ _).drew) ⟨?_,?_,?_,?_,?_,?_,?_,?_,?_,?_,?_,?_,?_,?_,?_,?_,?_,trivial⟩ ?_
 ·exact zbg v0 D (fun _=>rfl) fun ρ w' A z=>by simp only[execOp];go_simp
 ·exact zbg v0 D (fun _=>rfl) fun ρ w' A z=>by simp only[execOp];go_simp
 ·exact zam 1 14 D (fun _ _ h=>h) (fun _=>rfl) fun ρ w' A p=>by simp only[execOp];go_simp
 ·exact zam 2 15 D (fun _ _ h=>h) (fun _=>rfl) fun ρ w' A p=>by simp only[execOp];go_simp
 ·exact zam 3 16 D (fun _ _ h=>h) (fun _=>rfl) fun ρ w' A p=>by have c0:w'.cell? ⟨B,31,none⟩=some (.int .i64 j.now.seq):=zac A E D4.o;have c1:w'.cell? ⟨B,32,none⟩=some (.slice i j.now.info.length l):=zac A E D7.o;have c2:w'.cell? ⟨B,33,none⟩=some (.slice d j.now.data.length c):=zac A E E3.o;have c3:w'.cell? ⟨B,34,none⟩=some (.slice ne j.now.rev.length m):=zac A E C0.o;have c4:w'.cell? ⟨B,35,none⟩=some (.bool j.now.h0.on):=zac A E C7.o;have c5:w'.cell? ⟨B,36,none⟩=some (.int .i64 j.now.h0.left):=zac A E C2.o;have c6:w'.cell? ⟨B,37,none⟩=some (.bool j.now.h1.on):=zac A E D6.o;have c7:w'.cell? ⟨B,38,none⟩=some (.int .i64 j.now.h1.left):=zac A E D1.o;have c8:w'.cell? ⟨B,39,none⟩=some (.bool j.now.h2.on):=zac A E C6.o;have c9:w'.cell? ⟨B,40,none⟩=some (.int .i64 j.now.h2.left):=zac A E B8.o;simp only[execOp];go_simp
 ·exact zbg v3 D (fun _=>rfl) fun ρ w' A z=>by simp only[execOp];go_simp
 ·exact zam 5 18 D (fun _ _ h=>h) (fun _=>rfl) fun ρ w' A p=>by have c0:w'.cell? ⟨w.heap.size,1,none⟩=some (.int .i64 ah):=zac A B1 A1.o;simp only[execOp];go_simp
 ·exact zbg v3 D (fun _=>rfl) fun ρ w' A z=>by simp only[execOp];go_simp
 ·exact zam 7 20 D (fun _ _ h=>h) (fun _=>rfl) fun ρ w' A p=>by have c0:w'.cell? ⟨w.heap.size,3,none⟩=some (.int .i64 an):=zac A B1 A3.o;simp only[execOp];go_simp
 ·exact zbg v0 D (fun _=>rfl) fun ρ w' A z=>by simp only[execOp];go_simp
 ·exact zam 9 22 D (fun _ _ h=>h) (fun _=>rfl) fun ρ w' A p=>by simp only[execOp];go_simp
 ·exact zam 10 23 D (fun _ _ h=>h) (fun _=>rfl) fun ρ w' A p=>by simp only[execOp];go_simp
 ·exact zam 11 24 D (fun _ _ h=>h) (fun _=>rfl) fun ρ w' A p=>by have c0:w'.cell? ⟨B,3,none⟩=some (.int .i64 j.rh):=zac A E C3.o;have c1:w'.cell? ⟨B,4,none⟩=some (.int .i64 j.ru):=zac A E C4.o;simp only[execOp];go_simp
 ·intro a w' J A F;have p25:a.eval (.tmp 25)=.agg #[.int .i64 j.rh,.int .i64 j.ru]:=F ⟨12,.data⟩ (by simp) rfl;refine zbp 34 #[.agg #[.int .i64 j.rh,.int .i64 j.ru]] rfl rfl (by have R:=Act.eval_func a 34;revert p25 R;generalize a.eval=ρ;intro p25 R;simp only[execOp];go_simp) _ (zkj j.rh j.ru _ D5.o D2.o) ?_;rintro e w2 ⟨rfl,O⟩;refine⟨_,rfl,_,rfl,zae A O,?_,zku O⟩;show zob _ _ _ _ _ _ _ _ _ _ _ _ _ ((a.put (some 26) _).eval (.tmp 26)) w2;rw[zan J D (by decide)];exact rfl
 ·intro a w' J A F;have B6:a.eval (.tmp 17)=.agg #[.int .i64 j.now.seq,.slice i j.now.info.length l,.slice d j.now.data.length c,.slice ne j.now.rev.length m,.bool j.now.h0.on,.int .i64 j.now.h0.left,.bool j.now.h1.on,.int .i64 j.now.h1.left,.bool j.now.h2.on,.int .i64 j.now.h2.left]:=F ⟨4,.data⟩ (by simp) rfl;have B2:a.eval (.tmp 19)=.int .i64 ah:=F ⟨6,.data⟩ (by simp) rfl;have B5:a.eval (.tmp 21)=.int .i64 an:=F ⟨8,.data⟩ (by simp) rfl;have p26:a.eval (.tmp 26)=.int .i64 (24 - j.ru):=F ⟨13,.data⟩ (by simp) rfl;refine zbp 80 #[.agg #[.int .i64 j.now.seq,.slice i j.now.info.length l,.slice d j.now.data.length c,.slice ne j.now.rev.length m,.bool j.now.h0.on,.int .i64 j.now.h0.left,.bool j.now.h1.on,.int .i64 j.now.h1.left,.bool j.now.h2.on,.int .i64 j.now.h2.left],.int .i64 ah,.int .i64 an,.int .i64 (24 - j.ru)] rfl rfl (by have R:=Act.eval_func a 80;revert B6 B2 B5 p26 R;generalize a.eval=ρ;intro B6 B2 B5 p26 R;simp only[execOp];go_simp) _ (ztt _ j.now ah an (24 - j.ru) _ ((A9.o.ext (Ext.seenL C _)).below A) C8.o C5.o) ?_;rintro e w2 ⟨N,rfl,C1,O,C9⟩;refine⟨_,rfl,_,rfl,zae A O,?_,zku O⟩;show zob _ _ _ _ _ _ _ _ _ _ _ _ _ ((a.put (some 27) _).eval (.tmp 27)) w2;rw[zan J D (by decide)];exact⟨N,rfl,okTx.made D3.o A9.o E1.o ⟨A,.inl rfl⟩ C1 O C9⟩
 ·intro a w' J A F;obtain⟨N,q,ok⟩:∃N,a.eval (.tmp 27)=.tuple #[N,.int .i64 (zbc j.now ah an (24 - j.ru))]∧okTx ((w.heap.size+1)::X) (zaw j.now ah an (24 - j.ru)) N undef w':=F ⟨14,.data⟩ (by simp) rfl;refine zar (N) rfl rfl (by revert q;generalize a.eval=ρ;intro q;simp only[execOp];go_simp) ⟨_,rfl,A,?_,fun _ _ _ h=>h⟩;show zob _ _ _ _ _ _ _ _ _ _ _ _ _ ((a.put (some 28) _).eval (.tmp 28)) w';rw[zan J D (by decide)];exact ok
 ·intro a w' J A F;obtain⟨N,q,ok⟩:∃N,a.eval (.tmp 27)=.tuple #[N,.int .i64 (zbc j.now ah an (24 - j.ru))]∧okTx ((w.heap.size+1)::X) (zaw j.now ah an (24 - j.ru)) N undef w':=F ⟨14,.data⟩ (by simp) rfl;exact zgo _ rfl rfl (by revert q;generalize a.eval=ρ;intro q;simp only[execOp];go_simp) J D A rfl
 ·intro a W J A F;have ok:okTx ((w.heap.size+1)::X) (zaw j.now ah an (24 - j.ru)) (a.eval (.tmp 28)) undef W:=F 15 (by decide);have pE:a.eval (.tmp 29)=.int .i64 (zbc j.now ah an (24 - j.ru)):=F 16 (by decide);have pB:a.eval (.tmp 13)=.pointer (some ⟨B,0,none⟩):=F 0 (by decide);have B0:a.tmps.size=67:=J.size.trans D;have B9:=A5.o.below A;obtain⟨u,A4,_⟩:=ok;obtain⟨ua,uc,ub,ud,ue,uf,hv,_⟩:=id u;rw[hv]at u A4;show wpOps prog _ _ [17,18] a W;rw[wpOps_cons];refine zbp 79 #[.pointer (some ⟨B,0,none⟩),.agg #[.int .i64 (zaw j.now ah an (24 - j.ru)).seq,.slice ua (zaw j.now ah an (24 - j.ru)).info.length uc,.slice ub (zaw j.now ah an (24 - j.ru)).data.length ud,.slice ue (zaw j.now ah an (24 - j.ru)).rev.length uf,.bool (zaw j.now ah an (24 - j.ru)).h0.on,.int .i64 (zaw j.now ah an (24 - j.ru)).h0.left,.bool (zaw j.now ah an (24 - j.ru)).h1.on,.int .i64 (zaw j.now ah an (24 - j.ru)).h1.left,.bool (zaw j.now ah an (24 - j.ru)).h2.on,.int .i64 (zaw j.now ah an (24 - j.ru)).h2.left],.int .i64 (zbc j.now ah an (24 - j.ru))] rfl rfl (by have R:=Act.eval_func a 79;revert hv pE pB R;generalize a.eval=ρ;intro hv pE pB R;simp only[execOp];go_simp) _ (zjl B ((w.heap.size+1)::X) j W B9 (zaw j.now ah an (24 - j.ru)) ua uc ub ud ue uf u A4 (zbc j.now ah an (24 - j.ru))) ?_;rintro e M ⟨rfl,U,Z⟩;refine⟨_,rfl,?_⟩;obtain⟨P0,hP⟩:∃P0,P0=zm2 j (zaw j.now ah an (24 - j.ru)) (zbc j.now ah an (24 - j.ru)):=⟨_,rfl⟩;rw[←hP]at U⊢;have D8:P=P0:=E2.o.trans hP.symm;subst D8;obtain⟨L,K⟩:∃L,L=a.put (some 30) (vRp P.2):=⟨_,rfl⟩;have rr:L.eval (.tmp 30)=.agg #[.int .i64 P.2.code,.int .i64 P.2.n,.string P.2.text]:=by rw[K];exact Act.eval_put_same _ _ _ (by rw[B0];decide)
  have r4:L.eval (.tmp 4)=.pointer (some ⟨w.heap.size+1,0,none⟩):=by rw[K,Act.eval_put_ne _ _ _ _ (by decide)];exact(J.other 4 rfl).trans v4
  have r0:L.eval (.tmp 0)=.pointer (some ⟨B,0,none⟩):=by rw[K,Act.eval_put_ne _ _ _ _ (by decide)];exact(J.other 0 rfl).trans v0
  have r3:L.eval (.tmp 3)=.pointer (some ⟨w.heap.size,0,none⟩):=by rw[K,Act.eval_put_ne _ _ _ _ (by decide)];exact(J.other 3 rfl).trans v3
  have b:M.heap[w.heap.size+1]?=some (.cells #[.int .i64 0,.int .i64 0,.string ⟨#[]⟩] 31 (0,0)):=(Z.block _ (by have:=A.size;omega) (by simpa using A8)).trans (zad A A7 KR.o);obtain⟨⟨y0,y1,y2⟩,yf⟩:=zbn b;show wpOps prog _ _ [18] (a.put (some 30) (vRp P.2)) M;rw[←K,wpOps_cons];refine zco rfl rfl (w':=(((M.setCell ⟨(w.heap.size+1),0,none⟩ (.int .i64 P.2.code)).setCell ⟨(w.heap.size+1),1,none⟩ (.int .i64 P.2.n)).setCell ⟨(w.heap.size+1),2,none⟩ (.string P.2.text))) (by revert rr r4;generalize L.eval=ρ;intro rr r4;simp only[execOp];go_simp) ?_;have S:L=⟨#[_,_,_,_,_,_,_,_,_,_,_,_,_,_,_,_,_,_,_,_,_,_,_,_,_,_,_,_,_,_,_,_,_,_,_,_,_,_,_,_,_,_,_,_,_,_,_,_,_,_,_,_,_,_,_,_,_,_,_,_,_,_,_,_,_,_,_],[]⟩:=zcn L 67 (by rw[K,Act.size_put];exact B0) (by rw[K,Act.defers_put'];exact J.defers.trans E0);dsimp only at S;rw[r0,r3,r4]at S;show KK L _;exact(congrArg (fun x=>KK x _) S).mpr (A2.o (fun k=>L.eval (.tmp k)) _ M hP.symm rfl b U (B3.o.trans (Y:=[B]) ((ButL.of_below A).trans Z A.size (by simp)) B3.o.size (by simp)))
theorem z00(B:Nat)(X:List Nat)(j:Jn)(w:World)(h:JAt w B X j)(hX:∀x∈X,x<w.heap.size)(hK:Ready j)(ah ab an:Int)(at0:ByteArray)(ht:at0.size≤maxLen):
  Calls prog 47 #[.pointer (some ⟨B,0,none⟩),.agg #[.int .i64 5,.int .i64 ah,.int .i64 ab,.int .i64 an,.string at0]] w (zdj w B X (za5 j ⟨5,ah,ab,an,at0⟩)):=by
 have HJ:=zab h;have E0:=h.lt;have B2:=h.1;have HX:=zab hX;have E5:=zab hK.used0;have E4:=zab hK.used1;have C1:=zab hK.info;have B8:=zab hK.data;have D7:=zab hK.seq;have D9:=zab hK.last;have E3:=zab ht;have E1:Hid (j.done.length≤maxLen):=Nat.le_trans hK.done (by unfold maxLen;omega);clear h hX hK ht;have D8:¬w.heap.size=B:=by omega
 have D6:¬w.heap.size+1=B:=by omega
 have D1:Hid (za5 j ⟨5,ah,ab,an,at0⟩=zm2 j (zb3 j.now ah) (zda j.now ah)):=by rw[Hid,za5];simp[]
 obtain⟨P,s⟩:∃P,P=zm2 j (zb3 j.now ah) (zda j.now ah):=⟨_,rfl⟩;have HE:Hid (za5 j ⟨5,ah,ab,an,at0⟩=(P.1,P.2)):=by rw[Hid,D1.o,←s]
 have D4:=zab s;clear s;go_enter func47,ntmps47;go_wp2;obtain⟨C,O⟩:∃C,C=(w.alloc (.cells #[.int .i64 5,.int .i64 ah,.int .i64 ab,.int .i64 an,.string at0] 23)).alloc (.cells #[.int .i64 0,.int .i64 0,.string ⟨#[]⟩] 31):=⟨_,rfl⟩;have B1:(w.alloc (.cells #[.int .i64 5,.int .i64 ah,.int .i64 ab,.int .i64 an,.string at0] 23)).heap.size=w.heap.size+1:=by simp
 have A5:Below w.heap.size w C:=by rw[O];exact zae (zaa _ _) (zaa _ _)
 have A4:Hid (JAt C B ((w.heap.size+1)::X) j):=HJ.o.more A5 (by omega);have B0:Hid (ButL [B] w.heap.size w C):=ButL.of_below A5;have KR:Hid (C.heap[w.heap.size+1]?=some (.cells #[.int .i64 0,.int .i64 0,.string ⟨#[]⟩] 31 (0,0))):=by rw[O,←B1];exact heap_alloc_new _ _
 have KA:Hid (C.heap[w.heap.size]?=some (.cells #[.int .i64 5,.int .i64 ah,.int .i64 ab,.int .i64 an,.string at0] 23 (0,0))):=by rw[O];exact zad (zaa _ _) (by omega) (heap_alloc_new _ _)
 have E2:C.heap.size=w.heap.size+2:=by rw[O];simp
 have A6:w.heap.size+1<C.heap.size:=by omega
 have A7:w.heap.size+1≠B:=by omega
 have C4:Hid (∀x∈((w.heap.size+1)::X),x<C.heap.size):=fun x hx=>by
  rcases List.mem_cons.1 hx with rfl|hx
  ·exact A6
  ·have:=HX.o x hx;omega
 rw[←O];clear O B1;rename_i KK q;obtain⟨_,da,dc,db,dd,c,d,b,Z,ne,i,sa,sc,sb,sd,se,sf,ca,cc,fa,fc,ta,tc,I,hr⟩:=id A4.o;have C5:Hid (C.cell? ⟨B,31,none⟩=some (.int .i64 j.now.seq)):=zak I 31;have C8:Hid (C.cell? ⟨B,32,none⟩=some (.slice c j.now.info.length d)):=zak I 32;have D5:Hid (C.cell? ⟨B,33,none⟩=some (.slice b j.now.data.length Z)):=zak I 33;have B5:Hid (C.cell? ⟨B,34,none⟩=some (.slice ne j.now.rev.length i)):=zak I 34;have C0:Hid (C.cell? ⟨B,35,none⟩=some (.bool j.now.h0.on)):=zak I 35;have B7:Hid (C.cell? ⟨B,36,none⟩=some (.int .i64 j.now.h0.left)):=zak I 36;have C6:Hid (C.cell? ⟨B,37,none⟩=some (.bool j.now.h1.on)):=zak I 37;have C3:Hid (C.cell? ⟨B,38,none⟩=some (.int .i64 j.now.h1.left)):=zak I 38;have B9:Hid (C.cell? ⟨B,39,none⟩=some (.bool j.now.h2.on)):=zak I 39;have B3:Hid (C.cell? ⟨B,40,none⟩=some (.int .i64 j.now.h2.left)):=zak I 40;have A8:Hid (IsTx (zau C ((w.heap.size+1)::X)) (.agg #[.int .i64 j.now.seq,.slice c j.now.info.length d,.slice b j.now.data.length Z,.slice ne j.now.rev.length i,.bool j.now.h0.on,.int .i64 j.now.h0.left,.bool j.now.h1.on,.int .i64 j.now.h1.left,.bool j.now.h2.on,.int .i64 j.now.h2.left]) j.now):=hr.2.1;have D3:=zab hr.2.2.2.2.2.2.1;clear I hr;obtain⟨⟨z0,z1,z2,z3,z4⟩,_⟩:=zis KA.o;have A1:=zab z1;clear z0 z1 z2 z3 z4;have E:B<C.heap.size:=by omega
 have C7:w.heap.size<C.heap.size:=by omega
 have m:∀(g:Nat→Value) (W3 M:World),zm2 j (zb3 j.now ah) (zda j.now ah)=P→W3=(((M.setCell ⟨(w.heap.size+1),0,none⟩ (.int .i64 P.2.code)).setCell ⟨(w.heap.size+1),1,none⟩ (.int .i64 P.2.n)).setCell ⟨(w.heap.size+1),2,none⟩ (.string P.2.text))→M.heap[w.heap.size+1]?=some (.cells #[.int .i64 0,.int .i64 0,.string ⟨#[]⟩] 31 (0,0))→JAt M B ((w.heap.size+1)::X) P.1→ButL [B] w.heap.size w M→KK ⟨#[.pointer (some ⟨B,0,none⟩),g 1,g 2,.pointer (some ⟨w.heap.size,0,none⟩),.pointer (some ⟨w.heap.size+1,0,none⟩),g 5,g 6,g 7,g 8,g 9,g 10,g 11,g 12,g 13,g 14,g 15,g 16,g 17,g 18,g 19,g 20,g 21,g 22,g 23,g 24,g 25,g 26,g 27,g 28,g 29,g 30,g 31,g 32,g 33,g 34,g 35,g 36,g 37,g 38,g 39,g 40,g 41,g 42,g 43,g 44,g 45,g 46,g 47,g 48,g 49,g 50,g 51,g 52,g 53,g 54,g 55,g 56,g 57,g 58,g 59,g 60,g 61,g 62,g 63,g 64,g 65,g 66],[]⟩ W3:=by
  intro g W3 M _ hW U R S;apply q;clear q;have hX:=zge U (.int .i64 P.2.code) (.int .i64 P.2.n) (.string P.2.text);rw[←hW]at hX;obtain⟨⟨u0,u1,u2⟩,_⟩:=zbn hX;have HW:=zab hW;clear hW hX;go_wp2;refine bodyPost_ret (v:=.agg #[.int .i64 P.2.code,.int .i64 P.2.n,.string P.2.text]) (by simp[results,results47,go_sem,u0,u1,u2]) rfl ⟨by rw[HE.o];rfl,?_,?_⟩
  ·rw[HE.o,HW.o];exact zw7 R A7 B2 _ _ _
  ·rw[HW.o];exact((S.set (.inr (by omega)) 0 _).set (.inr (by omega)) 1 _).set (.inr (by omega)) 2 _
 have A2:=zab m;clear m q;refine(show∀A0:Act,A0=_→Code.wp prog _ _ A0 _ from fun A0 hA0=>?_) _ rfl;have D:A0.tmps.size=67:=by rw[hA0];rfl
 have D2:A0.defers=[]:=by rw[hA0]
 have v0:A0.eval (.tmp 0)=.pointer (some ⟨B,0,none⟩):=by rw[hA0];rfl
 have v3:A0.eval (.tmp 3)=.pointer (some ⟨w.heap.size,0,none⟩):=by rw[hA0];rfl
 have v4:A0.eval (.tmp 4)=.pointer (some ⟨w.heap.size+1,0,none⟩):=by rw[hA0];rfl
 clear hA0;refine zbi 10 (fun w'=>Below C.heap.size C w') [33,34,35,36,37,38,39,40,41,42] (zmq B w.heap.size j ((w.heap.size+1)::X) c d b Z ne i ah) (by kernel_rfl) (by kernel_rfl) (by kernel_rfl) (by kernel_rfl) (by decide) ((Below.refl _ _).drew) ⟨?_,?_,?_,?_,?_,?_,?_,?_,?_,?_,trivial⟩ ?_
 ·exact zbg v0 D (fun _=>rfl) fun ρ w' A z=>by simp only[execOp];go_simp
 ·exact zbg v0 D (fun _=>rfl) fun ρ w' A z=>by simp only[execOp];go_simp
 ·exact zam 1 34 D (fun _ _ h=>h) (fun _=>rfl) fun ρ w' A p=>by simp only[execOp];go_simp
 ·exact zam 2 35 D (fun _ _ h=>h) (fun _=>rfl) fun ρ w' A p=>by simp only[execOp];go_simp
 ·exact zam 3 36 D (fun _ _ h=>h) (fun _=>rfl) fun ρ w' A p=>by have c0:w'.cell? ⟨B,31,none⟩=some (.int .i64 j.now.seq):=zac A E C5.o;have c1:w'.cell? ⟨B,32,none⟩=some (.slice c j.now.info.length d):=zac A E C8.o;have c2:w'.cell? ⟨B,33,none⟩=some (.slice b j.now.data.length Z):=zac A E D5.o;have c3:w'.cell? ⟨B,34,none⟩=some (.slice ne j.now.rev.length i):=zac A E B5.o;have c4:w'.cell? ⟨B,35,none⟩=some (.bool j.now.h0.on):=zac A E C0.o;have c5:w'.cell? ⟨B,36,none⟩=some (.int .i64 j.now.h0.left):=zac A E B7.o;have c6:w'.cell? ⟨B,37,none⟩=some (.bool j.now.h1.on):=zac A E C6.o;have c7:w'.cell? ⟨B,38,none⟩=some (.int .i64 j.now.h1.left):=zac A E C3.o;have c8:w'.cell? ⟨B,39,none⟩=some (.bool j.now.h2.on):=zac A E B9.o;have c9:w'.cell? ⟨B,40,none⟩=some (.int .i64 j.now.h2.left):=zac A E B3.o;simp only[execOp];go_simp
 ·exact zbg v3 D (fun _=>rfl) fun ρ w' A z=>by simp only[execOp];go_simp
 ·exact zam 5 38 D (fun _ _ h=>h) (fun _=>rfl) fun ρ w' A p=>by have c0:w'.cell? ⟨w.heap.size,1,none⟩=some (.int .i64 ah):=zac A C7 A1.o;simp only[execOp];go_simp
 ·intro a w' J A L;have p37:a.eval (.tmp 37)=.agg #[.int .i64 j.now.seq,.slice c j.now.info.length d,.slice b j.now.data.length Z,.slice ne j.now.rev.length i,.bool j.now.h0.on,.int .i64 j.now.h0.left,.bool j.now.h1.on,.int .i64 j.now.h1.left,.bool j.now.h2.on,.int .i64 j.now.h2.left]:=L ⟨4,.data⟩ (by simp) rfl;have p39:a.eval (.tmp 39)=.int .i64 ah:=L ⟨6,.data⟩ (by simp) rfl;refine zbp 81 #[.agg #[.int .i64 j.now.seq,.slice c j.now.info.length d,.slice b j.now.data.length Z,.slice ne j.now.rev.length i,.bool j.now.h0.on,.int .i64 j.now.h0.left,.bool j.now.h1.on,.int .i64 j.now.h1.left,.bool j.now.h2.on,.int .i64 j.now.h2.left],.int .i64 ah] rfl rfl (by have y:=Act.eval_func a 81;revert p37 p39 y;generalize a.eval=ρ;intro p37 p39 y;simp only[execOp];go_simp) _ (zx4 _ j.now ah _ ((A8.o.ext (Ext.seenL C _)).below A) C1.o B8.o) ?_;rintro e w2 ⟨N,rfl,B6,u,C2⟩;refine⟨_,rfl,_,rfl,zae A u,?_,zpq u⟩;show zmq _ _ _ _ _ _ _ _ _ _ _ _ ((a.put (some 40) _).eval (.tmp 40)) w2;rw[zan J D (by decide)];exact⟨N,rfl,okTx.made C4.o A8.o D3.o ⟨A,.inl rfl⟩ B6 u C2⟩
 ·intro a w' J A L;obtain⟨N,l,ok⟩:∃N,a.eval (.tmp 40)=.tuple #[N,.int .i64 (zda j.now ah)]∧okTx ((w.heap.size+1)::X) (zb3 j.now ah) N undef w':=L ⟨7,.data⟩ (by simp) rfl;refine zar (N) rfl rfl (by revert l;generalize a.eval=ρ;intro l;simp only[execOp];go_simp) ⟨_,rfl,A,?_,fun _ _ _ h=>h⟩;show zmq _ _ _ _ _ _ _ _ _ _ _ _ ((a.put (some 41) _).eval (.tmp 41)) w';rw[zan J D (by decide)];exact ok
 ·intro a w' J A L;obtain⟨N,l,ok⟩:∃N,a.eval (.tmp 40)=.tuple #[N,.int .i64 (zda j.now ah)]∧okTx ((w.heap.size+1)::X) (zb3 j.now ah) N undef w':=L ⟨7,.data⟩ (by simp) rfl;exact zgo _ rfl rfl (by revert l;generalize a.eval=ρ;intro l;simp only[execOp];go_simp) J D A rfl
 ·intro a W J A L;have ok:okTx ((w.heap.size+1)::X) (zb3 j.now ah) (a.eval (.tmp 41)) undef W:=L 8 (by decide);have pE:a.eval (.tmp 42)=.int .i64 (zda j.now ah):=L 9 (by decide);have pB:a.eval (.tmp 33)=.pointer (some ⟨B,0,none⟩):=L 0 (by decide);have A9:a.tmps.size=67:=J.size.trans D;have B4:=A4.o.below A;obtain⟨r,A3,_⟩:=ok;obtain⟨ua,uc,ub,ud,ue,uf,hv,_⟩:=id r;rw[hv]at r A3;show wpOps prog _ _ [10,11] a W;rw[wpOps_cons];refine zbp 79 #[.pointer (some ⟨B,0,none⟩),.agg #[.int .i64 (zb3 j.now ah).seq,.slice ua (zb3 j.now ah).info.length uc,.slice ub (zb3 j.now ah).data.length ud,.slice ue (zb3 j.now ah).rev.length uf,.bool (zb3 j.now ah).h0.on,.int .i64 (zb3 j.now ah).h0.left,.bool (zb3 j.now ah).h1.on,.int .i64 (zb3 j.now ah).h1.left,.bool (zb3 j.now ah).h2.on,.int .i64 (zb3 j.now ah).h2.left],.int .i64 (zda j.now ah)] rfl rfl (by have y:=Act.eval_func a 79;revert hv pE pB y;generalize a.eval=ρ;intro hv pE pB y;simp only[execOp];go_simp) _ (zjl B ((w.heap.size+1)::X) j W B4 (zb3 j.now ah) ua uc ub ud ue uf r A3 (zda j.now ah)) ?_;rintro e M ⟨rfl,R,S⟩;refine⟨_,rfl,?_⟩;obtain⟨P0,hP⟩:∃P0,P0=zm2 j (zb3 j.now ah) (zda j.now ah):=⟨_,rfl⟩;rw[←hP]at R⊢;have C9:P=P0:=D4.o.trans hP.symm;subst C9;obtain⟨K,F⟩:∃K,K=a.put (some 43) (vRp P.2):=⟨_,rfl⟩;have rr:K.eval (.tmp 43)=.agg #[.int .i64 P.2.code,.int .i64 P.2.n,.string P.2.text]:=by rw[F];exact Act.eval_put_same _ _ _ (by rw[A9];decide)
  have r4:K.eval (.tmp 4)=.pointer (some ⟨w.heap.size+1,0,none⟩):=by rw[F,Act.eval_put_ne _ _ _ _ (by decide)];exact(J.other 4 rfl).trans v4
  have r0:K.eval (.tmp 0)=.pointer (some ⟨B,0,none⟩):=by rw[F,Act.eval_put_ne _ _ _ _ (by decide)];exact(J.other 0 rfl).trans v0
  have r3:K.eval (.tmp 3)=.pointer (some ⟨w.heap.size,0,none⟩):=by rw[F,Act.eval_put_ne _ _ _ _ (by decide)];exact(J.other 3 rfl).trans v3
  have U:M.heap[w.heap.size+1]?=some (.cells #[.int .i64 0,.int .i64 0,.string ⟨#[]⟩] 31 (0,0)):=(S.block _ (by have:=A.size;omega) (by simpa using A7)).trans (zad A A6 KR.o);obtain⟨⟨y0,y1,y2⟩,yf⟩:=zbn U;show wpOps prog _ _ [11] (a.put (some 43) (vRp P.2)) M;rw[←F,wpOps_cons];refine zco rfl rfl (w':=(((M.setCell ⟨(w.heap.size+1),0,none⟩ (.int .i64 P.2.code)).setCell ⟨(w.heap.size+1),1,none⟩ (.int .i64 P.2.n)).setCell ⟨(w.heap.size+1),2,none⟩ (.string P.2.text))) (by revert rr r4;generalize K.eval=ρ;intro rr r4;simp only[execOp];go_simp) ?_;have Q:K=⟨#[_,_,_,_,_,_,_,_,_,_,_,_,_,_,_,_,_,_,_,_,_,_,_,_,_,_,_,_,_,_,_,_,_,_,_,_,_,_,_,_,_,_,_,_,_,_,_,_,_,_,_,_,_,_,_,_,_,_,_,_,_,_,_,_,_,_,_],[]⟩:=zcn K 67 (by rw[F,Act.size_put];exact A9) (by rw[F,Act.defers_put'];exact J.defers.trans D2);dsimp only at Q;rw[r0,r3,r4]at Q;show KK K _;exact(congrArg (fun x=>KK x _) Q).mpr (A2.o (fun k=>K.eval (.tmp k)) _ M hP.symm rfl U R (B0.o.trans (Y:=[B]) ((ButL.of_below A).trans S A.size (by simp)) B0.o.size (by simp)))
theorem z01(B:Nat)(X:List Nat)(j:Jn)(w:World)(h:JAt w B X j)(hX:∀x∈X,x<w.heap.size)(hK:Ready j)(ah ab an:Int)(at0:ByteArray)(ht:at0.size≤maxLen):
  Calls prog 47 #[.pointer (some ⟨B,0,none⟩),.agg #[.int .i64 2,.int .i64 ah,.int .i64 ab,.int .i64 an,.string at0]] w (zdj w B X (za5 j ⟨2,ah,ab,an,at0⟩)):=by
 have l:=zab h;have A5:=h.lt;have Q:=h.1;have k:=zab hX;have A8:=zab hK.used0;have A4:=zab hK.used1;have Y:=zab hK.info;have c:=zab hK.data;have A1:=zab hK.seq;have A3:=zab hK.last;have d:=zab ht;have A7:Hid (j.done.length≤maxLen):=Nat.le_trans hK.done (by unfold maxLen;omega);clear h hX hK ht;have A2:¬w.heap.size=B:=by omega
 have A0:¬w.heap.size+1=B:=by omega
 have O:Hid (za5 j ⟨2,ah,ab,an,at0⟩=zg8 j ⟨2,ah,ab,an,at0⟩):=by rw[Hid,za5];simp[]
 go_enter func47,ntmps47;go_wp2_with fail;obtain⟨A,C⟩:∃A,A=(w.alloc (.cells #[.int .i64 2,.int .i64 ah,.int .i64 ab,.int .i64 an,.string at0] 23)).alloc (.cells #[.int .i64 0,.int .i64 0,.string ⟨#[]⟩] 31):=⟨_,rfl⟩;have J:(w.alloc (.cells #[.int .i64 2,.int .i64 ah,.int .i64 ab,.int .i64 an,.string at0] 23)).heap.size=w.heap.size+1:=by simp
 have L:Below w.heap.size w A:=by rw[C];exact zae (zaa _ _) (zaa _ _)
 have b:Hid (JAt A B ((w.heap.size+1)::X) j):=l.o.more L (by omega);have F:Hid (ButL [B] w.heap.size w A):=ButL.of_below L;have i:Hid (A.heap[w.heap.size+1]?=some (.cells #[.int .i64 0,.int .i64 0,.string ⟨#[]⟩] 31 (0,0))):=by rw[C,←J];exact heap_alloc_new _ _
 have KA:Hid (A.heap[w.heap.size]?=some (.cells #[.int .i64 2,.int .i64 ah,.int .i64 ab,.int .i64 an,.string at0] 23 (0,0))):=by rw[C];exact zad (zaa _ _) (by omega) (heap_alloc_new _ _)
 have A9:A.heap.size=w.heap.size+2:=by rw[C];simp
 have Z:w.heap.size+1<A.heap.size:=by omega
 have E:w.heap.size+1≠B:=by omega
 have a:Hid (∀x∈((w.heap.size+1)::X),x<A.heap.size):=fun x hx=>by
  rcases List.mem_cons.1 hx with rfl|hx
  ·exact Z
  ·have:=k.o x hx;omega
 rw[←C];clear C J;refine(zx2 B ((w.heap.size+1)::X) j A b.o a.o ⟨2,ah,ab,an,at0⟩ d.o Y.o c.o).mono ?_;rintro e N ⟨rfl,K,D⟩;have I:Hid (N.heap[w.heap.size+1]?=some (.cells #[.int .i64 0,.int .i64 0,.string ⟨#[]⟩] 31 (0,0))):=(D.block _ (by omega) (by simpa using E)).trans i.o;have M:=zab K;have S:Hid (ButL [B] w.heap.size w N):=F.o.trans D F.o.size (by simp);have A6:A.heap.size≤N.heap.size:=D.size;clear K D;obtain⟨P,U⟩:∃P,P=zg8 j ⟨2,ah,ab,an,at0⟩:=⟨_,rfl⟩;rw[←U]at O M⊢;have R:Hid (za5 j ⟨2,ah,ab,an,at0⟩=(P.1,⟨P.2.code,P.2.n,P.2.text⟩)):=O.o;rw[show vRp P.2=.agg #[.int .i64 P.2.code,.int .i64 P.2.n,.string P.2.text] from rfl];clear U O;obtain⟨⟨y0,y1,y2⟩,yf⟩:=zbn I.o;go_wp2;exact zbd R.o I.o M.o S.o E Q fun W u0 u1 u2=>by simp[results,results47,go_sem,u0,u1,u2]
theorem z02(B:Nat)(X:List Nat)(j:Jn)(w:World)(h:JAt w B X j)(hX:∀x∈X,x<w.heap.size)(hK:Ready j)(ah ab an:Int)(at0:ByteArray)(ht:at0.size≤maxLen):
  Calls prog 47 #[.pointer (some ⟨B,0,none⟩),.agg #[.int .i64 3,.int .i64 ah,.int .i64 ab,.int .i64 an,.string at0]] w (zdj w B X (za5 j ⟨3,ah,ab,an,at0⟩)):=by
 have l:=zab h;have A5:=h.lt;have Q:=h.1;have k:=zab hX;have A8:=zab hK.used0;have A4:=zab hK.used1;have Y:=zab hK.info;have c:=zab hK.data;have A1:=zab hK.seq;have A3:=zab hK.last;have d:=zab ht;have A7:Hid (j.done.length≤maxLen):=Nat.le_trans hK.done (by unfold maxLen;omega);clear h hX hK ht;have A2:¬w.heap.size=B:=by omega
 have A0:¬w.heap.size+1=B:=by omega
 have O:Hid (za5 j ⟨3,ah,ab,an,at0⟩=zjz j ⟨3,ah,ab,an,at0⟩):=by rw[Hid,za5];simp[]
 go_enter func47,ntmps47;go_wp2_with fail;obtain⟨A,C⟩:∃A,A=(w.alloc (.cells #[.int .i64 3,.int .i64 ah,.int .i64 ab,.int .i64 an,.string at0] 23)).alloc (.cells #[.int .i64 0,.int .i64 0,.string ⟨#[]⟩] 31):=⟨_,rfl⟩;have J:(w.alloc (.cells #[.int .i64 3,.int .i64 ah,.int .i64 ab,.int .i64 an,.string at0] 23)).heap.size=w.heap.size+1:=by simp
 have L:Below w.heap.size w A:=by rw[C];exact zae (zaa _ _) (zaa _ _)
 have b:Hid (JAt A B ((w.heap.size+1)::X) j):=l.o.more L (by omega);have F:Hid (ButL [B] w.heap.size w A):=ButL.of_below L;have i:Hid (A.heap[w.heap.size+1]?=some (.cells #[.int .i64 0,.int .i64 0,.string ⟨#[]⟩] 31 (0,0))):=by rw[C,←J];exact heap_alloc_new _ _
 have KA:Hid (A.heap[w.heap.size]?=some (.cells #[.int .i64 3,.int .i64 ah,.int .i64 ab,.int .i64 an,.string at0] 23 (0,0))):=by rw[C];exact zad (zaa _ _) (by omega) (heap_alloc_new _ _)
 have A9:A.heap.size=w.heap.size+2:=by rw[C];simp
 have Z:w.heap.size+1<A.heap.size:=by omega
 have E:w.heap.size+1≠B:=by omega
 have a:Hid (∀x∈((w.heap.size+1)::X),x<A.heap.size):=fun x hx=>by
  rcases List.mem_cons.1 hx with rfl|hx
  ·exact Z
  ·have:=k.o x hx;omega
 rw[←C];clear C J;refine(z0u B ((w.heap.size+1)::X) j A b.o a.o ⟨3,ah,ab,an,at0⟩ d.o Y.o c.o).mono ?_;rintro e N ⟨rfl,K,D⟩;have I:Hid (N.heap[w.heap.size+1]?=some (.cells #[.int .i64 0,.int .i64 0,.string ⟨#[]⟩] 31 (0,0))):=(D.block _ (by omega) (by simpa using E)).trans i.o;have M:=zab K;have S:Hid (ButL [B] w.heap.size w N):=F.o.trans D F.o.size (by simp);have A6:A.heap.size≤N.heap.size:=D.size;clear K D;obtain⟨P,U⟩:∃P,P=zjz j ⟨3,ah,ab,an,at0⟩:=⟨_,rfl⟩;rw[←U]at O M⊢;have R:Hid (za5 j ⟨3,ah,ab,an,at0⟩=(P.1,⟨P.2.code,P.2.n,P.2.text⟩)):=O.o;rw[show vRp P.2=.agg #[.int .i64 P.2.code,.int .i64 P.2.n,.string P.2.text] from rfl];clear U O;obtain⟨⟨y0,y1,y2⟩,yf⟩:=zbn I.o;go_wp2;exact zbd R.o I.o M.o S.o E Q fun W u0 u1 u2=>by simp[results,results47,go_sem,u0,u1,u2]
theorem z03(B:Nat)(X:List Nat)(j:Jn)(w:World)(h:JAt w B X j)(hX:∀x∈X,x<w.heap.size)(hK:Ready j)(ah ab an:Int)(at0:ByteArray)(ht:at0.size≤maxLen):
  Calls prog 47 #[.pointer (some ⟨B,0,none⟩),.agg #[.int .i64 4,.int .i64 ah,.int .i64 ab,.int .i64 an,.string at0]] w (zdj w B X (za5 j ⟨4,ah,ab,an,at0⟩)):=by
 have k:=zab h;have A5:=h.lt;have Q:=h.1;have i:=zab hX;have A8:=zab hK.used0;have A4:=zab hK.used1;have Y:=zab hK.info;have c:=zab hK.data;have A1:=zab hK.seq;have A3:=zab hK.last;have B0:=zab ht;have A7:Hid (j.done.length≤maxLen):=Nat.le_trans hK.done (by unfold maxLen;omega);clear h hX hK ht;have A2:¬w.heap.size=B:=by omega
 have A0:¬w.heap.size+1=B:=by omega
 have O:Hid (za5 j ⟨4,ah,ab,an,at0⟩=zey j ⟨4,ah,ab,an,at0⟩):=by rw[Hid,za5];simp[]
 go_enter func47,ntmps47;go_wp2_with fail;obtain⟨A,C⟩:∃A,A=(w.alloc (.cells #[.int .i64 4,.int .i64 ah,.int .i64 ab,.int .i64 an,.string at0] 23)).alloc (.cells #[.int .i64 0,.int .i64 0,.string ⟨#[]⟩] 31):=⟨_,rfl⟩;have J:(w.alloc (.cells #[.int .i64 4,.int .i64 ah,.int .i64 ab,.int .i64 an,.string at0] 23)).heap.size=w.heap.size+1:=by simp
 have L:Below w.heap.size w A:=by rw[C];exact zae (zaa _ _) (zaa _ _)
 have b:Hid (JAt A B ((w.heap.size+1)::X) j):=k.o.more L (by omega);have F:Hid (ButL [B] w.heap.size w A):=ButL.of_below L;have d:Hid (A.heap[w.heap.size+1]?=some (.cells #[.int .i64 0,.int .i64 0,.string ⟨#[]⟩] 31 (0,0))):=by rw[C,←J];exact heap_alloc_new _ _
 have KA:Hid (A.heap[w.heap.size]?=some (.cells #[.int .i64 4,.int .i64 ah,.int .i64 ab,.int .i64 an,.string at0] 23 (0,0))):=by rw[C];exact zad (zaa _ _) (by omega) (heap_alloc_new _ _)
 have A9:A.heap.size=w.heap.size+2:=by rw[C];simp
 have Z:w.heap.size+1<A.heap.size:=by omega
 have E:w.heap.size+1≠B:=by omega
 have a:Hid (∀x∈((w.heap.size+1)::X),x<A.heap.size):=fun x hx=>by
  rcases List.mem_cons.1 hx with rfl|hx
  ·exact Z
  ·have:=i.o x hx;omega
 rw[←C];clear C J;refine(zuj B ((w.heap.size+1)::X) j A b.o a.o ⟨4,ah,ab,an,at0⟩ Y.o c.o).mono ?_;rintro e N ⟨rfl,K,D⟩;have I:Hid (N.heap[w.heap.size+1]?=some (.cells #[.int .i64 0,.int .i64 0,.string ⟨#[]⟩] 31 (0,0))):=(D.block _ (by omega) (by simpa using E)).trans d.o;have M:=zab K;have S:Hid (ButL [B] w.heap.size w N):=F.o.trans D F.o.size (by simp);have A6:A.heap.size≤N.heap.size:=D.size;clear K D;obtain⟨P,U⟩:∃P,P=zey j ⟨4,ah,ab,an,at0⟩:=⟨_,rfl⟩;rw[←U]at O M⊢;have R:Hid (za5 j ⟨4,ah,ab,an,at0⟩=(P.1,⟨P.2.code,P.2.n,P.2.text⟩)):=O.o;rw[show vRp P.2=.agg #[.int .i64 P.2.code,.int .i64 P.2.n,.string P.2.text] from rfl];clear U O;obtain⟨⟨y0,y1,y2⟩,yf⟩:=zbn I.o;go_wp2;exact zbd R.o I.o M.o S.o E Q fun W u0 u1 u2=>by simp[results,results47,go_sem,u0,u1,u2]
theorem z04(B:Nat)(X:List Nat)(j:Jn)(w:World)(h:JAt w B X j)(hX:∀x∈X,x<w.heap.size)(hK:Ready j)(ah ab an:Int)(at0:ByteArray)(ht:at0.size≤maxLen):
  Calls prog 47 #[.pointer (some ⟨B,0,none⟩),.agg #[.int .i64 6,.int .i64 ah,.int .i64 ab,.int .i64 an,.string at0]] w (zdj w B X (za5 j ⟨6,ah,ab,an,at0⟩)):=by
 have l:=zab h;have A4:=h.lt;have Q:=h.1;have k:=zab hX;have A7:=zab hK.used0;have A3:=zab hK.used1;have Z:=zab hK.info;have d:=zab hK.data;have R:=zab hK.seq;have A2:=zab hK.last;have A9:=zab ht;have A6:Hid (j.done.length≤maxLen):=Nat.le_trans hK.done (by unfold maxLen;omega);clear h hX hK ht;have A1:¬w.heap.size=B:=by omega
 have A0:¬w.heap.size+1=B:=by omega
 have O:Hid (za5 j ⟨6,ah,ab,an,at0⟩=zcx j):=by rw[Hid,za5];simp[]
 go_enter func47,ntmps47;go_wp2_with fail;obtain⟨A,C⟩:∃A,A=(w.alloc (.cells #[.int .i64 6,.int .i64 ah,.int .i64 ab,.int .i64 an,.string at0] 23)).alloc (.cells #[.int .i64 0,.int .i64 0,.string ⟨#[]⟩] 31):=⟨_,rfl⟩;have J:(w.alloc (.cells #[.int .i64 6,.int .i64 ah,.int .i64 ab,.int .i64 an,.string at0] 23)).heap.size=w.heap.size+1:=by simp
 have L:Below w.heap.size w A:=by rw[C];exact zae (zaa _ _) (zaa _ _)
 have c:Hid (JAt A B ((w.heap.size+1)::X) j):=l.o.more L (by omega);have F:Hid (ButL [B] w.heap.size w A):=ButL.of_below L;have i:Hid (A.heap[w.heap.size+1]?=some (.cells #[.int .i64 0,.int .i64 0,.string ⟨#[]⟩] 31 (0,0))):=by rw[C,←J];exact heap_alloc_new _ _
 have KA:Hid (A.heap[w.heap.size]?=some (.cells #[.int .i64 6,.int .i64 ah,.int .i64 ab,.int .i64 an,.string at0] 23 (0,0))):=by rw[C];exact zad (zaa _ _) (by omega) (heap_alloc_new _ _)
 have A8:A.heap.size=w.heap.size+2:=by rw[C];simp
 have a:w.heap.size+1<A.heap.size:=by omega
 have E:w.heap.size+1≠B:=by omega
 have b:Hid (∀x∈((w.heap.size+1)::X),x<A.heap.size):=fun x hx=>by
  rcases List.mem_cons.1 hx with rfl|hx
  ·exact a
  ·have:=k.o x hx;omega
 rw[←C];clear C J;refine(zub B ((w.heap.size+1)::X) j A c.o b.o Z.o d.o R.o).mono ?_;rintro e N ⟨rfl,K,D⟩;have I:Hid (N.heap[w.heap.size+1]?=some (.cells #[.int .i64 0,.int .i64 0,.string ⟨#[]⟩] 31 (0,0))):=(D.block _ (by omega) (by simpa using E)).trans i.o;have M:=zab K;have U:Hid (ButL [B] w.heap.size w N):=F.o.trans D F.o.size (by simp);have A5:A.heap.size≤N.heap.size:=D.size;clear K D;obtain⟨P,Y⟩:∃P,P=zcx j:=⟨_,rfl⟩;rw[←Y]at O M⊢;have S:Hid (za5 j ⟨6,ah,ab,an,at0⟩=(P.1,⟨P.2.code,P.2.n,P.2.text⟩)):=O.o;rw[show vRp P.2=.agg #[.int .i64 P.2.code,.int .i64 P.2.n,.string P.2.text] from rfl];clear Y O;obtain⟨⟨y0,y1,y2⟩,yf⟩:=zbn I.o;go_wp2;exact zbd S.o I.o M.o U.o E Q fun W u0 u1 u2=>by simp[results,results47,go_sem,u0,u1,u2]
theorem z05(B:Nat)(X:List Nat)(j:Jn)(w:World)(h:JAt w B X j)(hX:∀x∈X,x<w.heap.size)(hK:Ready j)(ah ab an:Int)(at0:ByteArray)(ht:at0.size≤maxLen):
  Calls prog 47 #[.pointer (some ⟨B,0,none⟩),.agg #[.int .i64 7,.int .i64 ah,.int .i64 ab,.int .i64 an,.string at0]] w (zdj w B X (za5 j ⟨7,ah,ab,an,at0⟩)):=by
 have k:=zab h;have A5:=h.lt;have Q:=h.1;have i:=zab hX;have A8:=zab hK.used0;have A4:=zab hK.used1;have A3:=zab hK.info;have A7:=zab hK.data;have A1:=zab hK.seq;have S:=zab hK.last;have B0:=zab ht;have b:Hid (j.done.length≤maxLen):=Nat.le_trans hK.done (by unfold maxLen;omega);clear h hX hK ht;have A2:¬w.heap.size=B:=by omega
 have A0:¬w.heap.size+1=B:=by omega
 have O:Hid (za5 j ⟨7,ah,ab,an,at0⟩=zg9 j):=by rw[Hid,za5];simp[]
 go_enter func47,ntmps47;go_wp2_with fail;obtain⟨A,C⟩:∃A,A=(w.alloc (.cells #[.int .i64 7,.int .i64 ah,.int .i64 ab,.int .i64 an,.string at0] 23)).alloc (.cells #[.int .i64 0,.int .i64 0,.string ⟨#[]⟩] 31):=⟨_,rfl⟩;have J:(w.alloc (.cells #[.int .i64 7,.int .i64 ah,.int .i64 ab,.int .i64 an,.string at0] 23)).heap.size=w.heap.size+1:=by simp
 have L:Below w.heap.size w A:=by rw[C];exact zae (zaa _ _) (zaa _ _)
 have c:Hid (JAt A B ((w.heap.size+1)::X) j):=k.o.more L (by omega);have F:Hid (ButL [B] w.heap.size w A):=ButL.of_below L;have d:Hid (A.heap[w.heap.size+1]?=some (.cells #[.int .i64 0,.int .i64 0,.string ⟨#[]⟩] 31 (0,0))):=by rw[C,←J];exact heap_alloc_new _ _
 have KA:Hid (A.heap[w.heap.size]?=some (.cells #[.int .i64 7,.int .i64 ah,.int .i64 ab,.int .i64 an,.string at0] 23 (0,0))):=by rw[C];exact zad (zaa _ _) (by omega) (heap_alloc_new _ _)
 have A9:A.heap.size=w.heap.size+2:=by rw[C];simp
 have Z:w.heap.size+1<A.heap.size:=by omega
 have E:w.heap.size+1≠B:=by omega
 have a:Hid (∀x∈((w.heap.size+1)::X),x<A.heap.size):=fun x hx=>by
  rcases List.mem_cons.1 hx with rfl|hx
  ·exact Z
  ·have:=i.o x hx;omega
 rw[←C];clear C J;refine(zx1 B ((w.heap.size+1)::X) j A c.o a.o b.o S.o).mono ?_;rintro e N ⟨rfl,K,D⟩;have I:Hid (N.heap[w.heap.size+1]?=some (.cells #[.int .i64 0,.int .i64 0,.string ⟨#[]⟩] 31 (0,0))):=(D.block _ (by omega) (by simpa using E)).trans d.o;have M:=zab K;have U:Hid (ButL [B] w.heap.size w N):=F.o.trans D F.o.size (by simp);have A6:A.heap.size≤N.heap.size:=D.size;clear K D;obtain⟨P,Y⟩:∃P,P=zg9 j:=⟨_,rfl⟩;rw[←Y]at O M⊢;have R:Hid (za5 j ⟨7,ah,ab,an,at0⟩=(P.1,⟨P.2.code,P.2.n,P.2.text⟩)):=O.o;rw[show vRp P.2=.agg #[.int .i64 P.2.code,.int .i64 P.2.n,.string P.2.text] from rfl];clear Y O;obtain⟨⟨y0,y1,y2⟩,yf⟩:=zbn I.o;go_wp2;exact zbd R.o I.o M.o U.o E Q fun W u0 u1 u2=>by simp[results,results47,go_sem,u0,u1,u2]
theorem z06(B:Nat)(X:List Nat)(j:Jn)(w:World)(h:JAt w B X j)(hX:∀x∈X,x<w.heap.size)(hK:Ready j)(ak ah ab an:Int)(at0:ByteArray)(ht:at0.size≤maxLen)(k1:¬ak=1)(k5:¬ak=5)(k2:¬ak=2)(k3:¬ak=3)(k4:¬ak=4)(k6:¬ak=6)(k7:¬ak=7):
  Calls prog 47 #[.pointer (some ⟨B,0,none⟩),.agg #[.int .i64 ak,.int .i64 ah,.int .i64 ab,.int .i64 an,.string at0]] w (zdj w B X (za5 j ⟨ak,ah,ab,an,at0⟩)):=by
 have d:=zab h;have A7:=h.lt;have Q:=h.1;have c:=zab hX;have B0:=zab hK.used0;have A5:=zab hK.used1;have A4:=zab hK.info;have A9:=zab hK.data;have A1:=zab hK.seq;have A3:=zab hK.last;have B2:=zab ht;have Z:Hid (j.done.length≤maxLen):=Nat.le_trans hK.done (by unfold maxLen;omega);clear h hX hK ht;have A2:¬w.heap.size=B:=by omega
 have A0:¬w.heap.size+1=B:=by omega
 have b1:(ak==1)=false:=by simpa using k1
 have b5:(ak==5)=false:=by simpa using k5
 have b2:(ak==2)=false:=by simpa using k2
 have b3:(ak==3)=false:=by simpa using k3
 have b4:(ak==4)=false:=by simpa using k4
 have b6:(ak==6)=false:=by simpa using k6
 have b7:(ak==7)=false:=by simpa using k7
 have O:Hid (za5 j ⟨ak,ah,ab,an,at0⟩=(j,zj0 j ab)):=by rw[Hid,za5];simp[k1,k5,k2,k3,k4,k6,k7]
 clear k1 k5 k2 k3 k4 k6 k7;go_enter func47,ntmps47;go_wp2_with fail;obtain⟨A,C⟩:∃A,A=(w.alloc (.cells #[.int .i64 ak,.int .i64 ah,.int .i64 ab,.int .i64 an,.string at0] 23)).alloc (.cells #[.int .i64 0,.int .i64 0,.string ⟨#[]⟩] 31):=⟨_,rfl⟩;have J:(w.alloc (.cells #[.int .i64 ak,.int .i64 ah,.int .i64 ab,.int .i64 an,.string at0] 23)).heap.size=w.heap.size+1:=by simp
 have L:Below w.heap.size w A:=by rw[C];exact zae (zaa _ _) (zaa _ _)
 have a:Hid (JAt A B ((w.heap.size+1)::X) j):=d.o.more L (by omega);have F:Hid (ButL [B] w.heap.size w A):=ButL.of_below L;have b:Hid (A.heap[w.heap.size+1]?=some (.cells #[.int .i64 0,.int .i64 0,.string ⟨#[]⟩] 31 (0,0))):=by rw[C,←J];exact heap_alloc_new _ _
 have KA:Hid (A.heap[w.heap.size]?=some (.cells #[.int .i64 ak,.int .i64 ah,.int .i64 ab,.int .i64 an,.string at0] 23 (0,0))):=by rw[C];exact zad (zaa _ _) (by omega) (heap_alloc_new _ _)
 have B1:A.heap.size=w.heap.size+2:=by rw[C];simp
 have Y:w.heap.size+1<A.heap.size:=by omega
 have E:w.heap.size+1≠B:=by omega
 have A6:Hid (∀x∈((w.heap.size+1)::X),x<A.heap.size):=fun x hx=>by
  rcases List.mem_cons.1 hx with rfl|hx
  ·exact Y
  ·have:=c.o x hx;omega
 rw[←C];clear C J;refine(z0h B ((w.heap.size+1)::X) j A ab a.o Z.o).mono ?_;rintro e N ⟨rfl,K,D⟩;have I:Hid (N.heap[w.heap.size+1]?=some (.cells #[.int .i64 0,.int .i64 0,.string ⟨#[]⟩] 31 (0,0))):=(D.block _ (by omega) (by simpa using E)).trans b.o;have M:=zab K;have S:Hid (ButL [B] w.heap.size w N):=F.o.trans D F.o.size (by simp);have A8:A.heap.size≤N.heap.size:=D.size;clear K D;obtain⟨P,U⟩:∃P,P=(j,zj0 j ab):=⟨_,rfl⟩;rw[←U]at O M⊢;have R:Hid (za5 j ⟨ak,ah,ab,an,at0⟩=(P.1,⟨P.2.code,P.2.n,P.2.text⟩)):=O.o;rw[show vRp P.2=.agg #[.int .i64 P.2.code,.int .i64 P.2.n,.string P.2.text] from rfl];clear U O;obtain⟨⟨y0,y1,y2⟩,yf⟩:=zbn I.o;go_wp2;exact zbd R.o I.o M.o S.o E Q fun W u0 u1 u2=>by simp[results,results47,go_sem,u0,u1,u2]
theorem zr5(B:Nat)(X:List Nat)(j:Jn)(w:World)(h:JAt w B X j)(hX:∀x∈X,x<w.heap.size)(hK:Ready j)(ac:Ac)(ht:ac.text.size≤maxLen):
  Calls prog 47 #[.pointer (some ⟨B,0,none⟩),.agg #[.int .i64 ac.kind,.int .i64 ac.h,.int .i64 ac.b,.int .i64 ac.n,.string ac.text]] w (zdj w B X (za5 j ac)):=by
 obtain⟨D,E,C,an,A⟩:=ac;by_cases k1:D=1
 ·subst k1;exact z0z B X j w h hX hK E C an A ht
 by_cases k5:D=5
 ·subst k5;exact z00 B X j w h hX hK E C an A ht
 by_cases k2:D=2
 ·subst k2;exact z01 B X j w h hX hK E C an A ht
 by_cases k3:D=3
 ·subst k3;exact z02 B X j w h hX hK E C an A ht
 by_cases k4:D=4
 ·subst k4;exact z03 B X j w h hX hK E C an A ht
 by_cases k6:D=6
 ·subst k6;exact z04 B X j w h hX hK E C an A ht
 by_cases k7:D=7
 ·subst k7;exact z05 B X j w h hX hK E C an A ht
 exact z06 B X j w h hX hK D E C an A ht k1 k5 k2 k3 k4 k6 k7
theorem Ready.bump{j:Jn}(h:Ready j)(x:Int)(h0:0≤x)(h1:x≤400):Ready {j with acts:=x}:=⟨h.done,h.found,h.next,h.seq,h.last,h.info,h.data,h.few,h.used0,h.used1,h0,h1⟩
theorem zuk(B:Nat)(X:List Nat)(j:Jn)(w:World)(h:JAt w B X j)(hX:∀x∈X,x<w.heap.size)(hK:Ready j)(ak ah ab an:Int)(at0:ByteArray)(hn:an≤9223372036854775807)(ht:at0.size≤maxLen)(hf:400≤j.acts):
  Calls prog 15 #[.pointer (some ⟨B,0,none⟩),.agg #[.int .i64 ak,.int .i64 ah,.int .i64 ab,.int .i64 an,.string at0]] w (zdj w B X (doJ j ⟨ak,ah,ab,an,at0⟩)):=by
 have d:=zab h;have A5:=h.lt;have N:=h.1;have c:=zab hX;have HK:=zab hK;have B2:=zab ht;have A7:=zab hn;have A6:=hK.acts0;have B1:=hK.acts1;have A1:IntKind.i64.wrap (j.acts+1)=j.acts+1:=by rw[IntKind.wrap_i64];omega
 obtain⟨_,da,dc,db,dd,na,nc,nb,nd,ne,nf,sa,sc,sb,sd,se,sf,ca,cc,fa,fc,ta,tc,E,_⟩:=id h;have c0:w.cell? ⟨B,0,none⟩=some (.int .i64 j.acts):=zak E 0;have B0:w.frozen? ⟨B,0,none⟩=false:=frozen_of_row w _ _ _ _ E;have c6:w.cell? ⟨B,6,none⟩=some (.bool j.down):=zak E 6;have A3:w.frozen? ⟨B,6,none⟩=false:=frozen_of_row w _ _ _ _ E;clear h hX hK hn ht E;have A2:¬w.heap.size=B:=by omega
 have A0:¬w.heap.size+1=B:=by omega
 have b:Hid (doJ j ⟨ak,ah,ab,an,at0⟩=(j,zat 11)):=by rw[Hid,doJ,if_pos hf]
 have U:(400:Int)≤j.acts:=hf;go_enter func15,ntmps15;go_wp2_with fail;have A8:w.heap.size=w.heap.size:=rfl;have R:=d;have Q:Hid (ButL [B] w.heap.size w w):=ButL.refl _ _ _;obtain⟨A,C⟩:∃A,A=(w.alloc (.cells #[.int .i64 ak,.int .i64 ah,.int .i64 ab,.int .i64 an,.string at0] 23)).alloc (.cells #[.int .i64 0,.int .i64 0,.string ⟨#[]⟩] 31):=⟨_,rfl⟩;have K:(w.alloc (.cells #[.int .i64 ak,.int .i64 ah,.int .i64 ab,.int .i64 an,.string at0] 23)).heap.size=w.heap.size+1:=by simp
 have L:Below w.heap.size w A:=by rw[C];exact zae (zaa _ _) (zaa _ _)
 have S:Hid (JAt A B ((w.heap.size+1)::X) j):=R.o.more L (by omega);have I:Hid (ButL [B] w.heap.size w A):=Q.o.trans (Y:=[]) (ButL.of_below L) (by omega) (by simp);have a:Hid (A.heap[w.heap.size+1]?=some (.cells #[.int .i64 0,.int .i64 0,.string ⟨#[]⟩] 31 (0,0))):=by rw[C,←K];exact heap_alloc_new _ _
 have A9:A.heap.size=w.heap.size+2:=by rw[C];simp
 have F:w.heap.size+1<A.heap.size:=by omega
 have M:w.heap.size+1≠B:=by omega
 have A4:Hid (∀x∈((w.heap.size+1)::X),x<A.heap.size):=fun x hx=>by
  rcases List.mem_cons.1 hx with rfl|hx
  ·exact F
  ·have:=c.o x hx;omega
 rw[←C];clear C K;clear hf U;refine(zav 11 _).mono ?_;rintro e w2 ⟨rfl,D⟩;have J:=zab (zad D F a.o);have Z:=zab (S.o.below D);have O:=zab (I.o.trans (Y:=[]) (ButL.of_below D) I.o.size (by simp));clear D;obtain⟨⟨y0,y1,y2⟩,yf⟩:=zbn J.o;go_wp2;exact zbd b.o J.o Z.o O.o M N fun W u0 u1 u2=>by simp[results,results15,go_sem,u0,u1,u2]
theorem zx6(B:Nat)(X:List Nat)(j:Jn)(w:World)(h:JAt w B X j)(hX:∀x∈X,x<w.heap.size)(hK:Ready j)(ak ah ab an:Int)(at0:ByteArray)(hn:an≤9223372036854775807)(ht:at0.size≤maxLen)(hf:¬400≤j.acts)(hk:ak<1):
  Calls prog 15 #[.pointer (some ⟨B,0,none⟩),.agg #[.int .i64 ak,.int .i64 ah,.int .i64 ab,.int .i64 an,.string at0]] w (zdj w B X (doJ j ⟨ak,ah,ab,an,at0⟩)):=by
 have l:=zab h;have A5:=h.lt;have R:=h.1;have k:=zab hX;have HK:=zab hK;have B1:=zab ht;have A7:=zab hn;have A6:=hK.acts0;have B0:=hK.acts1;have A1:IntKind.i64.wrap (j.acts+1)=j.acts+1:=by rw[IntKind.wrap_i64];omega
 obtain⟨_,da,dc,db,dd,na,nc,nb,nd,ne,nf,sa,sc,sb,sd,se,sf,ca,cc,fa,fc,ta,tc,I,_⟩:=id h;have c0:w.cell? ⟨B,0,none⟩=some (.int .i64 j.acts):=zak I 0;have A9:w.frozen? ⟨B,0,none⟩=false:=frozen_of_row w _ _ _ _ I;have c6:w.cell? ⟨B,6,none⟩=some (.bool j.down):=zak I 6;have A3:w.frozen? ⟨B,6,none⟩=false:=frozen_of_row w _ _ _ _ I;clear h hX hK hn ht I;have A2:¬w.heap.size=B:=by omega
 have A0:¬w.heap.size+1=B:=by omega
 have i:Hid (doJ j ⟨ak,ah,ab,an,at0⟩=(({j with acts:=j.acts+1}:Jn),zat 3)):=by rw[Hid,doJ,if_neg hf,zk2,if_pos (.inl hk)]
 have b:¬(j.acts≥400):=hf;go_enter func15,ntmps15;go_wp2_with fail;obtain⟨C,D⟩:∃C,C=w.setCell ⟨B,0,none⟩ (.int .i64 (j.acts+1)):=⟨_,rfl⟩;rw[←D];have M:C.heap.size=w.heap.size:=by rw[D];simp[World.setCell]
 have Z:Hid (JAt C B X ({j with acts:=j.acts+1}:Jn)):=by rw[D];exact l.o.putActs _
 have U:Hid (ButL [B] w.heap.size w C):=by rw[D];exact(ButL.refl _ _ _).set (.inl (by simp)) 0 _
 clear D;obtain⟨A,E⟩:∃A,A=(C.alloc (.cells #[.int .i64 ak,.int .i64 ah,.int .i64 ab,.int .i64 an,.string at0] 23)).alloc (.cells #[.int .i64 0,.int .i64 0,.string ⟨#[]⟩] 31):=⟨_,rfl⟩;have N:(C.alloc (.cells #[.int .i64 ak,.int .i64 ah,.int .i64 ab,.int .i64 an,.string at0] 23)).heap.size=w.heap.size+1:=by simp[M]
 have O:Below C.heap.size C A:=by rw[E];exact zae (zaa _ _) (zaa _ _)
 have a:Hid (JAt A B ((w.heap.size+1)::X) ({j with acts:=j.acts+1}:Jn)):=Z.o.more O (by omega);have K:Hid (ButL [B] w.heap.size w A):=U.o.trans (Y:=[]) (ButL.of_below O) (by omega) (by simp);have d:Hid (A.heap[w.heap.size+1]?=some (.cells #[.int .i64 0,.int .i64 0,.string ⟨#[]⟩] 31 (0,0))):=by rw[E,←N];exact heap_alloc_new _ _
 have A8:A.heap.size=w.heap.size+2:=by rw[E];simp[M]
 have J:w.heap.size+1<A.heap.size:=by omega
 have Q:w.heap.size+1≠B:=by omega
 have A4:Hid (∀x∈((w.heap.size+1)::X),x<A.heap.size):=fun x hx=>by
  rcases List.mem_cons.1 hx with rfl|hx
  ·exact J
  ·have:=k.o x hx;omega
 rw[←E];clear E N;clear hf b hk;refine(zav 3 _).mono ?_;rintro e w2 ⟨rfl,F⟩;have L:=zab (zad F J d.o);have c:=zab (a.o.below F);have S:=zab (K.o.trans (Y:=[]) (ButL.of_below F) K.o.size (by simp));clear F;obtain⟨⟨y0,y1,y2⟩,yf⟩:=zbn L.o;go_wp2;exact zbd i.o L.o c.o S.o Q R fun W u0 u1 u2=>by simp[results,results15,go_sem,u0,u1,u2]
theorem zul(B:Nat)(X:List Nat)(j:Jn)(w:World)(h:JAt w B X j)(hX:∀x∈X,x<w.heap.size)(hK:Ready j)(ak ah ab an:Int)(at0:ByteArray)(hn:an≤9223372036854775807)(ht:at0.size≤maxLen)(hf:¬400≤j.acts)(hk:11<ak):
  Calls prog 15 #[.pointer (some ⟨B,0,none⟩),.agg #[.int .i64 ak,.int .i64 ah,.int .i64 ab,.int .i64 an,.string at0]] w (zdj w B X (doJ j ⟨ak,ah,ab,an,at0⟩)):=by
 have m:=zab h;have A5:=h.lt;have R:=h.1;have l:=zab hX;have HK:=zab hK;have B1:=zab ht;have A7:=zab hn;have A6:=hK.acts0;have B0:=hK.acts1;have A1:IntKind.i64.wrap (j.acts+1)=j.acts+1:=by rw[IntKind.wrap_i64];omega
 obtain⟨_,da,dc,db,dd,na,nc,nb,nd,ne,nf,sa,sc,sb,sd,se,sf,ca,cc,fa,fc,ta,tc,I,_⟩:=id h;have c0:w.cell? ⟨B,0,none⟩=some (.int .i64 j.acts):=zak I 0;have A9:w.frozen? ⟨B,0,none⟩=false:=frozen_of_row w _ _ _ _ I;have c6:w.cell? ⟨B,6,none⟩=some (.bool j.down):=zak I 6;have A3:w.frozen? ⟨B,6,none⟩=false:=frozen_of_row w _ _ _ _ I;clear h hX hK hn ht I;have A2:¬w.heap.size=B:=by omega
 have A0:¬w.heap.size+1=B:=by omega
 have k:Hid (doJ j ⟨ak,ah,ab,an,at0⟩=(({j with acts:=j.acts+1}:Jn),zat 3)):=by rw[Hid,doJ,if_neg hf,zk2,if_pos (.inr hk)]
 have c:¬(j.acts≥400):=hf;have S:¬ak<1:=by omega
 go_enter func15,ntmps15;go_wp2_with fail;obtain⟨C,D⟩:∃C,C=w.setCell ⟨B,0,none⟩ (.int .i64 (j.acts+1)):=⟨_,rfl⟩;rw[←D];have M:C.heap.size=w.heap.size:=by rw[D];simp[World.setCell]
 have a:Hid (JAt C B X ({j with acts:=j.acts+1}:Jn)):=by rw[D];exact m.o.putActs _
 have Z:Hid (ButL [B] w.heap.size w C):=by rw[D];exact(ButL.refl _ _ _).set (.inl (by simp)) 0 _
 clear D;obtain⟨A,E⟩:∃A,A=(C.alloc (.cells #[.int .i64 ak,.int .i64 ah,.int .i64 ab,.int .i64 an,.string at0] 23)).alloc (.cells #[.int .i64 0,.int .i64 0,.string ⟨#[]⟩] 31):=⟨_,rfl⟩;have N:(C.alloc (.cells #[.int .i64 ak,.int .i64 ah,.int .i64 ab,.int .i64 an,.string at0] 23)).heap.size=w.heap.size+1:=by simp[M]
 have O:Below C.heap.size C A:=by rw[E];exact zae (zaa _ _) (zaa _ _)
 have b:Hid (JAt A B ((w.heap.size+1)::X) ({j with acts:=j.acts+1}:Jn)):=a.o.more O (by omega);have K:Hid (ButL [B] w.heap.size w A):=Z.o.trans (Y:=[]) (ButL.of_below O) (by omega) (by simp);have i:Hid (A.heap[w.heap.size+1]?=some (.cells #[.int .i64 0,.int .i64 0,.string ⟨#[]⟩] 31 (0,0))):=by rw[E,←N];exact heap_alloc_new _ _
 have A8:A.heap.size=w.heap.size+2:=by rw[E];simp[M]
 have J:w.heap.size+1<A.heap.size:=by omega
 have Q:w.heap.size+1≠B:=by omega
 have A4:Hid (∀x∈((w.heap.size+1)::X),x<A.heap.size):=fun x hx=>by
  rcases List.mem_cons.1 hx with rfl|hx
  ·exact J
  ·have:=l.o x hx;omega
 rw[←E];clear E N;clear hf c hk S;refine(zav 3 _).mono ?_;rintro e w2 ⟨rfl,F⟩;have L:=zab (zad F J i.o);have d:=zab (b.o.below F);have U:=zab (K.o.trans (Y:=[]) (ButL.of_below F) K.o.size (by simp));clear F;obtain⟨⟨y0,y1,y2⟩,yf⟩:=zbn L.o;go_wp2;exact zbd k.o L.o d.o U.o Q R fun W u0 u1 u2=>by simp[results,results15,go_sem,u0,u1,u2]
theorem z3k(B:Nat)(X:List Nat)(j:Jn)(w:World)(h:JAt w B X j)(hX:∀x∈X,x<w.heap.size)(hK:Ready j)(ah ab an:Int)(at0:ByteArray)(hn:an≤9223372036854775807)(ht:at0.size≤maxLen)(hf:¬400≤j.acts):
  Calls prog 15 #[.pointer (some ⟨B,0,none⟩),.agg #[.int .i64 8,.int .i64 ah,.int .i64 ab,.int .i64 an,.string at0]] w (zdj w B X (doJ j ⟨8,ah,ab,an,at0⟩)):=by
 have u:=zab h;have A4:=h.lt;have a:=h.1;have s:=zab hX;have Z:=zab hK;have B1:=zab ht;have A7:=zab hn;have A6:=hK.acts0;have B0:=hK.acts1;have A1:IntKind.i64.wrap (j.acts+1)=j.acts+1:=by rw[IntKind.wrap_i64];omega
 obtain⟨_,da,dc,db,dd,na,nc,nb,nd,ne,nf,sa,sc,sb,sd,se,sf,ca,cc,fa,fc,ta,tc,I,_⟩:=id h;have c0:w.cell? ⟨B,0,none⟩=some (.int .i64 j.acts):=zak I 0;have A9:w.frozen? ⟨B,0,none⟩=false:=frozen_of_row w _ _ _ _ I;have c6:w.cell? ⟨B,6,none⟩=some (.bool j.down):=zak I 6;have A3:w.frozen? ⟨B,6,none⟩=false:=frozen_of_row w _ _ _ _ I;clear h hX hK hn ht I;have A2:¬w.heap.size=B:=by omega
 have A0:¬w.heap.size+1=B:=by omega
 have U:Hid (doJ j ⟨8,ah,ab,an,at0⟩=zjc ({j with acts:=j.acts+1}:Jn)):=by rw[Hid,doJ,if_neg hf,zk2];simp
 have q:¬(j.acts≥400):=hf;go_enter func15,ntmps15;go_wp2_with fail;obtain⟨C,D⟩:∃C,C=w.setCell ⟨B,0,none⟩ (.int .i64 (j.acts+1)):=⟨_,rfl⟩;rw[←D];have M:C.heap.size=w.heap.size:=by rw[D];simp[World.setCell]
 have l:Hid (JAt C B X ({j with acts:=j.acts+1}:Jn)):=by rw[D];exact u.o.putActs _
 have i:Hid (ButL [B] w.heap.size w C):=by rw[D];exact(ButL.refl _ _ _).set (.inl (by simp)) 0 _
 clear D;obtain⟨A,E⟩:∃A,A=(C.alloc (.cells #[.int .i64 8,.int .i64 ah,.int .i64 ab,.int .i64 an,.string at0] 23)).alloc (.cells #[.int .i64 0,.int .i64 0,.string ⟨#[]⟩] 31):=⟨_,rfl⟩;have N:(C.alloc (.cells #[.int .i64 8,.int .i64 ah,.int .i64 ab,.int .i64 an,.string at0] 23)).heap.size=w.heap.size+1:=by simp[M]
 have Q:Below C.heap.size C A:=by rw[E];exact zae (zaa _ _) (zaa _ _)
 have p:Hid (JAt A B ((w.heap.size+1)::X) ({j with acts:=j.acts+1}:Jn)):=l.o.more Q (by omega);have K:Hid (ButL [B] w.heap.size w A):=i.o.trans (Y:=[]) (ButL.of_below Q) (by omega) (by simp);have r:Hid (A.heap[w.heap.size+1]?=some (.cells #[.int .i64 0,.int .i64 0,.string ⟨#[]⟩] 31 (0,0))):=by rw[E,←N];exact heap_alloc_new _ _
 have A8:A.heap.size=w.heap.size+2:=by rw[E];simp[M]
 have k:w.heap.size+1<A.heap.size:=by omega
 have J:w.heap.size+1≠B:=by omega
 have m:Hid (∀x∈((w.heap.size+1)::X),x<A.heap.size):=fun x hx=>by
  rcases List.mem_cons.1 hx with rfl|hx
  ·exact k
  ·have:=s.o x hx;omega
 rw[←E];clear E N;clear hf q;refine(z0t B ((w.heap.size+1)::X) ({j with acts:=j.acts+1}:Jn) A p.o m.o Z.o.done Z.o.found Z.o.next).mono ?_;rintro e S ⟨rfl,O,F⟩;have L:Hid (S.heap[w.heap.size+1]?=some (.cells #[.int .i64 0,.int .i64 0,.string ⟨#[]⟩] 31 (0,0))):=(F.block _ (by omega) (by simpa using J)).trans r.o;have R:=zab O;have c:Hid (ButL [B] w.heap.size w S):=K.o.trans F K.o.size (by simp);have A5:A.heap.size≤S.heap.size:=F.size;clear O F;obtain⟨P,d⟩:∃P,P=zjc ({j with acts:=j.acts+1}:Jn):=⟨_,rfl⟩;rw[←d]at U R⊢;have b:Hid (doJ j ⟨8,ah,ab,an,at0⟩=(P.1,⟨P.2.code,P.2.n,P.2.text⟩)):=U.o;rw[show vRp P.2=.agg #[.int .i64 P.2.code,.int .i64 P.2.n,.string P.2.text] from rfl];clear d U;obtain⟨⟨y0,y1,y2⟩,yf⟩:=zbn L.o;go_wp2;exact zbd b.o L.o R.o c.o J a fun W u0 u1 u2=>by simp[results,results15,go_sem,u0,u1,u2]
theorem z07(B:Nat)(X:List Nat)(j:Jn)(w:World)(h:JAt w B X j)(hX:∀x∈X,x<w.heap.size)(hK:Ready j)(ah ab an:Int)(at0:ByteArray)(hn:an≤9223372036854775807)(ht:at0.size≤maxLen)(hf:¬400≤j.acts):
  Calls prog 15 #[.pointer (some ⟨B,0,none⟩),.agg #[.int .i64 10,.int .i64 ah,.int .i64 ab,.int .i64 an,.string at0]] w (zdj w B X (doJ j ⟨10,ah,ab,an,at0⟩)):=by
 have u:=zab h;have A4:=h.lt;have Z:=h.1;have s:=zab hX;have HK:=zab hK;have B0:=zab ht;have m:=zab hn;have A6:=hK.acts0;have A9:=hK.acts1;have A1:IntKind.i64.wrap (j.acts+1)=j.acts+1:=by rw[IntKind.wrap_i64];omega
 obtain⟨_,da,dc,db,dd,na,nc,nb,nd,ne,nf,sa,sc,sb,sd,se,sf,ca,cc,fa,fc,ta,tc,I,_⟩:=id h;have c0:w.cell? ⟨B,0,none⟩=some (.int .i64 j.acts):=zak I 0;have A8:w.frozen? ⟨B,0,none⟩=false:=frozen_of_row w _ _ _ _ I;have c6:w.cell? ⟨B,6,none⟩=some (.bool j.down):=zak I 6;have A3:w.frozen? ⟨B,6,none⟩=false:=frozen_of_row w _ _ _ _ I;clear h hX hK hn ht I;have A2:¬w.heap.size=B:=by omega
 have A0:¬w.heap.size+1=B:=by omega
 have U:Hid (doJ j ⟨10,ah,ab,an,at0⟩=zjd ({j with acts:=j.acts+1}:Jn) an):=by rw[Hid,doJ,if_neg hf,zk2];simp
 have q:¬(j.acts≥400):=hf;go_enter func15,ntmps15;go_wp2_with fail;obtain⟨C,D⟩:∃C,C=w.setCell ⟨B,0,none⟩ (.int .i64 (j.acts+1)):=⟨_,rfl⟩;rw[←D];have M:C.heap.size=w.heap.size:=by rw[D];simp[World.setCell]
 have k:Hid (JAt C B X ({j with acts:=j.acts+1}:Jn)):=by rw[D];exact u.o.putActs _
 have d:Hid (ButL [B] w.heap.size w C):=by rw[D];exact(ButL.refl _ _ _).set (.inl (by simp)) 0 _
 clear D;obtain⟨A,E⟩:∃A,A=(C.alloc (.cells #[.int .i64 10,.int .i64 ah,.int .i64 ab,.int .i64 an,.string at0] 23)).alloc (.cells #[.int .i64 0,.int .i64 0,.string ⟨#[]⟩] 31):=⟨_,rfl⟩;have N:(C.alloc (.cells #[.int .i64 10,.int .i64 ah,.int .i64 ab,.int .i64 an,.string at0] 23)).heap.size=w.heap.size+1:=by simp[M]
 have Q:Below C.heap.size C A:=by rw[E];exact zae (zaa _ _) (zaa _ _)
 have p:Hid (JAt A B ((w.heap.size+1)::X) ({j with acts:=j.acts+1}:Jn)):=k.o.more Q (by omega);have K:Hid (ButL [B] w.heap.size w A):=d.o.trans (Y:=[]) (ButL.of_below Q) (by omega) (by simp);have r:Hid (A.heap[w.heap.size+1]?=some (.cells #[.int .i64 0,.int .i64 0,.string ⟨#[]⟩] 31 (0,0))):=by rw[E,←N];exact heap_alloc_new _ _
 have A7:A.heap.size=w.heap.size+2:=by rw[E];simp[M]
 have i:w.heap.size+1<A.heap.size:=by omega
 have J:w.heap.size+1≠B:=by omega
 have l:Hid (∀x∈((w.heap.size+1)::X),x<A.heap.size):=fun x hx=>by
  rcases List.mem_cons.1 hx with rfl|hx
  ·exact i
  ·have:=s.o x hx;omega
 rw[←E];clear E N;clear hf q;refine(zx5 B ((w.heap.size+1)::X) ({j with acts:=j.acts+1}:Jn) A p.o l.o an m.o).mono ?_;rintro e S ⟨rfl,O,F⟩;have L:Hid (S.heap[w.heap.size+1]?=some (.cells #[.int .i64 0,.int .i64 0,.string ⟨#[]⟩] 31 (0,0))):=(F.block _ (by omega) (by simpa using J)).trans r.o;have R:=zab O;have b:Hid (ButL [B] w.heap.size w S):=K.o.trans F K.o.size (by simp);have A5:A.heap.size≤S.heap.size:=F.size;clear O F;obtain⟨P,c⟩:∃P,P=zjd ({j with acts:=j.acts+1}:Jn) an:=⟨_,rfl⟩;rw[←c]at U R⊢;have a:Hid (doJ j ⟨10,ah,ab,an,at0⟩=(P.1,⟨P.2.code,P.2.n,P.2.text⟩)):=U.o;rw[show vRp P.2=.agg #[.int .i64 P.2.code,.int .i64 P.2.n,.string P.2.text] from rfl];clear c U;obtain⟨⟨y0,y1,y2⟩,yf⟩:=zbn L.o;go_wp2;exact zbd a.o L.o R.o b.o J Z fun W u0 u1 u2=>by simp[results,results15,go_sem,u0,u1,u2]
theorem z08(B:Nat)(X:List Nat)(j:Jn)(w:World)(h:JAt w B X j)(hX:∀x∈X,x<w.heap.size)(hK:Ready j)(ah ab an:Int)(at0:ByteArray)(hn:an≤9223372036854775807)(ht:at0.size≤maxLen)(hf:¬400≤j.acts):
  Calls prog 15 #[.pointer (some ⟨B,0,none⟩),.agg #[.int .i64 11,.int .i64 ah,.int .i64 ab,.int .i64 an,.string at0]] w (zdj w B X (doJ j ⟨11,ah,ab,an,at0⟩)):=by
 have u:=zab h;have A4:=h.lt;have Z:=h.1;have r:=zab hX;have s:=zab hK;have B1:=zab ht;have A7:=zab hn;have A6:=hK.acts0;have B0:=hK.acts1;have A1:IntKind.i64.wrap (j.acts+1)=j.acts+1:=by rw[IntKind.wrap_i64];omega
 obtain⟨_,da,dc,db,dd,na,nc,nb,nd,ne,nf,sa,sc,sb,sd,se,sf,ca,cc,fa,fc,ta,tc,I,_⟩:=id h;have c0:w.cell? ⟨B,0,none⟩=some (.int .i64 j.acts):=zak I 0;have A9:w.frozen? ⟨B,0,none⟩=false:=frozen_of_row w _ _ _ _ I;have c6:w.cell? ⟨B,6,none⟩=some (.bool j.down):=zak I 6;have A3:w.frozen? ⟨B,6,none⟩=false:=frozen_of_row w _ _ _ _ I;clear h hX hK hn ht I;have A2:¬w.heap.size=B:=by omega
 have A0:¬w.heap.size+1=B:=by omega
 have U:Hid (doJ j ⟨11,ah,ab,an,at0⟩=zb8 ({j with acts:=j.acts+1}:Jn)):=by rw[Hid,doJ,if_neg hf,zk2];simp
 have p:¬(j.acts≥400):=hf;go_enter func15,ntmps15;go_wp2_with fail;obtain⟨C,D⟩:∃C,C=w.setCell ⟨B,0,none⟩ (.int .i64 (j.acts+1)):=⟨_,rfl⟩;rw[←D];have M:C.heap.size=w.heap.size:=by rw[D];simp[World.setCell]
 have k:Hid (JAt C B X ({j with acts:=j.acts+1}:Jn)):=by rw[D];exact u.o.putActs _
 have d:Hid (ButL [B] w.heap.size w C):=by rw[D];exact(ButL.refl _ _ _).set (.inl (by simp)) 0 _
 clear D;obtain⟨A,E⟩:∃A,A=(C.alloc (.cells #[.int .i64 11,.int .i64 ah,.int .i64 ab,.int .i64 an,.string at0] 23)).alloc (.cells #[.int .i64 0,.int .i64 0,.string ⟨#[]⟩] 31):=⟨_,rfl⟩;have N:(C.alloc (.cells #[.int .i64 11,.int .i64 ah,.int .i64 ab,.int .i64 an,.string at0] 23)).heap.size=w.heap.size+1:=by simp[M]
 have Q:Below C.heap.size C A:=by rw[E];exact zae (zaa _ _) (zaa _ _)
 have m:Hid (JAt A B ((w.heap.size+1)::X) ({j with acts:=j.acts+1}:Jn)):=k.o.more Q (by omega);have K:Hid (ButL [B] w.heap.size w A):=d.o.trans (Y:=[]) (ButL.of_below Q) (by omega) (by simp);have q:Hid (A.heap[w.heap.size+1]?=some (.cells #[.int .i64 0,.int .i64 0,.string ⟨#[]⟩] 31 (0,0))):=by rw[E,←N];exact heap_alloc_new _ _
 have A8:A.heap.size=w.heap.size+2:=by rw[E];simp[M]
 have i:w.heap.size+1<A.heap.size:=by omega
 have J:w.heap.size+1≠B:=by omega
 have l:Hid (∀x∈((w.heap.size+1)::X),x<A.heap.size):=fun x hx=>by
  rcases List.mem_cons.1 hx with rfl|hx
  ·exact i
  ·have:=r.o x hx;omega
 rw[←E];clear E N;clear hf p;refine(z0k B ((w.heap.size+1)::X) ({j with acts:=j.acts+1}:Jn) A m.o l.o s.o.few).mono ?_;rintro e S ⟨rfl,O,F⟩;have L:Hid (S.heap[w.heap.size+1]?=some (.cells #[.int .i64 0,.int .i64 0,.string ⟨#[]⟩] 31 (0,0))):=(F.block _ (by omega) (by simpa using J)).trans q.o;have R:=zab O;have b:Hid (ButL [B] w.heap.size w S):=K.o.trans F K.o.size (by simp);have A5:A.heap.size≤S.heap.size:=F.size;clear O F;obtain⟨P,c⟩:∃P,P=zb8 ({j with acts:=j.acts+1}:Jn):=⟨_,rfl⟩;rw[←c]at U R⊢;have a:Hid (doJ j ⟨11,ah,ab,an,at0⟩=(P.1,⟨P.2.code,P.2.n,P.2.text⟩)):=U.o;rw[show vRp P.2=.agg #[.int .i64 P.2.code,.int .i64 P.2.n,.string P.2.text] from rfl];clear c U;obtain⟨⟨y0,y1,y2⟩,yf⟩:=zbn L.o;go_wp2;exact zbd a.o L.o R.o b.o J Z fun W u0 u1 u2=>by simp[results,results15,go_sem,u0,u1,u2]
theorem zum(B:Nat)(X:List Nat)(j:Jn)(w:World)(h:JAt w B X j)(hX:∀x∈X,x<w.heap.size)(hK:Ready j)(ak ah ab an:Int)(at0:ByteArray)(hn:an≤9223372036854775807)(ht:at0.size≤maxLen)(hf:¬400≤j.acts)(h0:1≤ak)(h11:ak≤11)(k8:¬ak=8)(k10:¬ak=10)(k11:¬ak=11)(hd:j.down=true):
  Calls prog 15 #[.pointer (some ⟨B,0,none⟩),.agg #[.int .i64 ak,.int .i64 ah,.int .i64 ab,.int .i64 an,.string at0]] w (zdj w B X (doJ j ⟨ak,ah,ab,an,at0⟩)):=by
 have s:=zab h;have A5:=h.lt;have R:=h.1;have r:=zab hX;have HK:=zab hK;have B1:=zab ht;have A7:=zab hn;have A6:=hK.acts0;have B0:=hK.acts1;have A1:IntKind.i64.wrap (j.acts+1)=j.acts+1:=by rw[IntKind.wrap_i64];omega
 obtain⟨_,da,dc,db,dd,na,nc,nb,nd,ne,nf,sa,sc,sb,sd,se,sf,ca,cc,fa,fc,ta,tc,I,_⟩:=id h;have c0:w.cell? ⟨B,0,none⟩=some (.int .i64 j.acts):=zak I 0;have A9:w.frozen? ⟨B,0,none⟩=false:=frozen_of_row w _ _ _ _ I;have k:w.cell? ⟨B,6,none⟩=some (.bool j.down):=zak I 6;have A3:w.frozen? ⟨B,6,none⟩=false:=frozen_of_row w _ _ _ _ I;clear h hX hK hn ht I;have A2:¬w.heap.size=B:=by omega
 have A0:¬w.heap.size+1=B:=by omega
 have q:Hid (doJ j ⟨ak,ah,ab,an,at0⟩=(({j with acts:=j.acts+1}:Jn),zat 10)):=by rw[Hid,doJ,if_neg hf,zk2,if_neg (by simp only;omega),if_neg k8,if_neg k10,if_neg k11,if_pos hd]
 have d:¬(j.acts≥400):=hf;have n:(ak==8)=false:=by simpa using k8
 have b:(ak==10)=false:=by simpa using k10
 have S:(ak==11)=false:=by simpa using k11
 have l:¬ak<1:=by omega
 have p:¬ak>11:=by omega
 rw[hd]at k;go_enter func15,ntmps15;go_wp2_with fail;obtain⟨C,D⟩:∃C,C=w.setCell ⟨B,0,none⟩ (.int .i64 (j.acts+1)):=⟨_,rfl⟩;rw[←D];have M:C.heap.size=w.heap.size:=by rw[D];simp[World.setCell]
 have a:Hid (JAt C B X ({j with acts:=j.acts+1}:Jn)):=by rw[D];exact s.o.putActs _
 have Z:Hid (ButL [B] w.heap.size w C):=by rw[D];exact(ButL.refl _ _ _).set (.inl (by simp)) 0 _
 clear D;obtain⟨A,E⟩:∃A,A=(C.alloc (.cells #[.int .i64 ak,.int .i64 ah,.int .i64 ab,.int .i64 an,.string at0] 23)).alloc (.cells #[.int .i64 0,.int .i64 0,.string ⟨#[]⟩] 31):=⟨_,rfl⟩;have N:(C.alloc (.cells #[.int .i64 ak,.int .i64 ah,.int .i64 ab,.int .i64 an,.string at0] 23)).heap.size=w.heap.size+1:=by simp[M]
 have O:Below C.heap.size C A:=by rw[E];exact zae (zaa _ _) (zaa _ _)
 have c:Hid (JAt A B ((w.heap.size+1)::X) ({j with acts:=j.acts+1}:Jn)):=a.o.more O (by omega);have K:Hid (ButL [B] w.heap.size w A):=Z.o.trans (Y:=[]) (ButL.of_below O) (by omega) (by simp);have m:Hid (A.heap[w.heap.size+1]?=some (.cells #[.int .i64 0,.int .i64 0,.string ⟨#[]⟩] 31 (0,0))):=by rw[E,←N];exact heap_alloc_new _ _
 have A8:A.heap.size=w.heap.size+2:=by rw[E];simp[M]
 have J:w.heap.size+1<A.heap.size:=by omega
 have Q:w.heap.size+1≠B:=by omega
 have A4:Hid (∀x∈((w.heap.size+1)::X),x<A.heap.size):=fun x hx=>by
  rcases List.mem_cons.1 hx with rfl|hx
  ·exact J
  ·have:=r.o x hx;omega
 rw[←E];clear E N;clear hf d k8 n k10 b k11 S l p h0 h11;refine(zav 10 _).mono ?_;rintro e w2 ⟨rfl,F⟩;have L:=zab (zad F J m.o);have i:=zab (c.o.below F);have U:=zab (K.o.trans (Y:=[]) (ButL.of_below F) K.o.size (by simp));clear F;obtain⟨⟨y0,y1,y2⟩,yf⟩:=zbn L.o;go_wp2;exact zbd q.o L.o i.o U.o Q R fun W u0 u1 u2=>by simp[results,results15,go_sem,u0,u1,u2]
theorem z09(B:Nat)(X:List Nat)(j:Jn)(w:World)(h:JAt w B X j)(hX:∀x∈X,x<w.heap.size)(hK:Ready j)(ak ah ab an:Int)(at0:ByteArray)(hn:an≤9223372036854775807)(ht:at0.size≤maxLen)(hf:¬400≤j.acts)(h0:1≤ak)(h11:ak≤11)(k8:¬ak=8)(k10:¬ak=10)(k11:¬ak=11)(hd:j.down=false):
  Calls prog 15 #[.pointer (some ⟨B,0,none⟩),.agg #[.int .i64 ak,.int .i64 ah,.int .i64 ab,.int .i64 an,.string at0]] w (zdj w B X (doJ j ⟨ak,ah,ab,an,at0⟩)):=by
 have HJ:=zab h;have A5:=h.lt;have Z:=h.1;have HX:=zab hX;have HK:=zab hK;have u:=zab ht;have A8:=zab hn;have A7:=hK.acts0;have B0:=hK.acts1;have A3:IntKind.i64.wrap (j.acts+1)=j.acts+1:=by rw[IntKind.wrap_i64];omega
 obtain⟨_,da,dc,db,dd,na,nc,nb,nd,ne,nf,sa,sc,sb,sd,se,sf,ca,cc,fa,fc,ta,tc,I,_⟩:=id h;have c0:w.cell? ⟨B,0,none⟩=some (.int .i64 j.acts):=zak I 0;have A2:w.frozen? ⟨B,0,none⟩=false:=frozen_of_row w _ _ _ _ I;have c6:w.cell? ⟨B,6,none⟩=some (.bool j.down):=zak I 6;have A1:w.frozen? ⟨B,6,none⟩=false:=frozen_of_row w _ _ _ _ I;clear h hX hK hn ht I;have A4:¬w.heap.size=B:=by omega
 have A0:¬w.heap.size+1=B:=by omega
 have U:Hid (doJ j ⟨ak,ah,ab,an,at0⟩=za5 ({j with acts:=j.acts+1}:Jn) ⟨ak,ah,ab,an,at0⟩):=by rw[Hid,doJ,if_neg hf,zk2,if_neg (by simp only;omega),if_neg k8,if_neg k10,if_neg k11,if_neg (by simp[hd])]
 have k:Hid (Ready ({j with acts:=j.acts+1}:Jn)):=HK.o.bump _ (by omega) (by omega);have s:¬(j.acts≥400):=hf;have b8:(ak==8)=false:=by simpa using k8
 have d:(ak==10)=false:=by simpa using k10
 have l:(ak==11)=false:=by simpa using k11
 have y:¬ak<1:=by omega
 have r2:¬ak>11:=by omega
 rw[hd]at c6;go_enter func15,ntmps15;go_wp2_with fail;obtain⟨C,D⟩:∃C,C=w.setCell ⟨B,0,none⟩ (.int .i64 (j.acts+1)):=⟨_,rfl⟩;rw[←D];have O:C.heap.size=w.heap.size:=by rw[D];simp[World.setCell]
 have r:Hid (JAt C B X ({j with acts:=j.acts+1}:Jn)):=by rw[D];exact HJ.o.putActs _
 have p:Hid (ButL [B] w.heap.size w C):=by rw[D];exact(ButL.refl _ _ _).set (.inl (by simp)) 0 _
 clear D;obtain⟨A,E⟩:∃A,A=(C.alloc (.cells #[.int .i64 ak,.int .i64 ah,.int .i64 ab,.int .i64 an,.string at0] 23)).alloc (.cells #[.int .i64 0,.int .i64 0,.string ⟨#[]⟩] 31):=⟨_,rfl⟩;have Q:(C.alloc (.cells #[.int .i64 ak,.int .i64 ah,.int .i64 ab,.int .i64 an,.string at0] 23)).heap.size=w.heap.size+1:=by simp[O]
 have K:Below C.heap.size C A:=by rw[E];exact zae (zaa _ _) (zaa _ _)
 have i:Hid (JAt A B ((w.heap.size+1)::X) ({j with acts:=j.acts+1}:Jn)):=r.o.more K (by omega);have M:Hid (ButL [B] w.heap.size w A):=p.o.trans (Y:=[]) (ButL.of_below K) (by omega) (by simp);have z:Hid (A.heap[w.heap.size+1]?=some (.cells #[.int .i64 0,.int .i64 0,.string ⟨#[]⟩] 31 (0,0))):=by rw[E,←Q];exact heap_alloc_new _ _
 have A9:A.heap.size=w.heap.size+2:=by rw[E];simp[O]
 have q:w.heap.size+1<A.heap.size:=by omega
 have J:w.heap.size+1≠B:=by omega
 have c:Hid (∀x∈((w.heap.size+1)::X),x<A.heap.size):=fun x hx=>by
  rcases List.mem_cons.1 hx with rfl|hx
  ·exact q
  ·have:=HX.o x hx;omega
 rw[←E];clear E Q;clear hf s k8 b8 k10 d k11 l y r2 h0 h11;refine(zr5 B ((w.heap.size+1)::X) ({j with acts:=j.acts+1}:Jn) A i.o c.o k.o ⟨ak,ah,ab,an,at0⟩ u.o).mono ?_;rintro e S ⟨rfl,R,F⟩;have N:Hid (S.heap[w.heap.size+1]?=some (.cells #[.int .i64 0,.int .i64 0,.string ⟨#[]⟩] 31 (0,0))):=(F.block _ (by omega) (by simpa using J)).trans z.o;have L:=zab R;have b:Hid (ButL [B] w.heap.size w S):=M.o.trans F M.o.size (by simp);have A6:A.heap.size≤S.heap.size:=F.size;clear R F;obtain⟨P,m⟩:∃P,P=za5 ({j with acts:=j.acts+1}:Jn) ⟨ak,ah,ab,an,at0⟩:=⟨_,rfl⟩;rw[←m]at U L⊢;have a:Hid (doJ j ⟨ak,ah,ab,an,at0⟩=(P.1,⟨P.2.code,P.2.n,P.2.text⟩)):=U.o;rw[show vRp P.2=.agg #[.int .i64 P.2.code,.int .i64 P.2.n,.string P.2.text] from rfl];clear m U;obtain⟨⟨y0,y1,y2⟩,yf⟩:=zbn N.o;go_wp2;exact zbd a.o N.o L.o b.o J Z fun W u0 u1 u2=>by simp[results,results15,go_sem,u0,u1,u2]
theorem zmr(B:Nat)(X:List Nat)(j:Jn)(w:World)(h:JAt w B X j)(hX:∀x∈X,x<w.heap.size)(hK:Ready j)(ac:Ac)(hn:ac.n≤9223372036854775807)(ht:ac.text.size≤maxLen):
  Calls prog 15 #[.pointer (some ⟨B,0,none⟩),vAc ac] w (zdj w B X (doJ j ac)):=by
 obtain⟨C,E,D,an,A⟩:=ac;by_cases hf:400≤j.acts
 ·exact zuk B X j w h hX hK C E D an A hn ht hf
 by_cases hl:C<1
 ·exact zx6 B X j w h hX hK C E D an A hn ht hf hl
 by_cases hh:11<C
 ·exact zul B X j w h hX hK C E D an A hn ht hf hh
 by_cases k8:C=8
 ·subst k8;exact z3k B X j w h hX hK E D an A hn ht hf
 by_cases k10:C=10
 ·subst k10;exact z07 B X j w h hX hK E D an A hn ht hf
 by_cases k11:C=11
 ·subst k11;exact z08 B X j w h hX hK E D an A hn ht hf
 cases hd:j.down with
 |true=>exact zum B X j w h hX hK C E D an A hn ht hf (by omega) (by omega) k8 k10 k11 hd
 |false=>exact z09 B X j w h hX hK C E D an A hn ht hf (by omega) (by omega) k8 k10 k11 hd
theorem z3w:goodM (zbq 0 1)=0:=by kernel_rfl
def z1b:Dk:=⟨encT (zbq 0 1)::List.replicate 36 (fitT ⟨#[]⟩),[]⟩
theorem z4q:zwr=zfe z1b 0 1:=rfl
def zms (bs:Nat)(D:Nat)(g:Nat)(c:Nat)(s:ByteArray):Nat→Value→World→Prop
 |0,v,_=>v=.pointer (some ⟨D,0,none⟩)
 |1,v,_=>v=.slice (some ⟨g,0,none⟩) 37 c
 |2,v,_=>v=.agg #[.int .i64 1,.int .i64 1,.int .i64 0,.slice none 0 0,.slice none 0 0]
 |3,v,_=>v=.tuple #[.string s,.int .i64 0]
 |4,v,_=>v=.tuple #[.string s,.int .i64 0]
 |5,v,_=>v=.string s
 |6,v,_=>v=.int .i64 0
 |7,v,_=>v=.pointer (some ⟨g,0,none⟩)
 |8,_,w=>w.ownsRow bs 9 1 (.slice (some ⟨g,0,none⟩) 37 c) 37 (cellsS (s::List.replicate 36 (fitT ⟨#[]⟩)))
 |_,_,_=>True
theorem zr6{bs:Nat}{D:Nat}{g:Nat}{c:Nat}{s:ByteArray}{w w':World}(hb:Below w.heap.size w w'){i:Nat}:∀kk uu,kk≠i→zms bs D g c s kk uu w→zms bs D g c s kk uu w':=by
 intro kk uu _ h
 match kk,h with
 |0,h|1,h|2,h|3,h|4,h|5,h|6,h|7,h=>exact h
 |8,h=>exact zah h hb
 |_+9,_=>exact trivial
theorem zx7{bs:Nat}{D:Nat}{g:Nat}{c:Nat}{s:ByteArray}{w w':World}:∀kk x,kk≠8→zms bs D g c s kk x w→zms bs D g c s kk x w':=by
 intro kk x A h
 match kk,h with
 |0,h|1,h|2,h|3,h|4,h|5,h|6,h|7,h=>exact h
 |8,_=>exact absurd rfl A
 |_+9,_=>exact trivial
def newR (w:World)(D g c:Nat)(w':World):Prop:=Below w.heap.size w w'∧w'.heap[D]?=some (.cells #[.slice (some ⟨g,0,none⟩) 37 c,.slice none 0 0] 46 (0,0))∧∃t,w'.ownsRow w.heap.size 9 1 (.slice (some ⟨g,0,none⟩) 37 c) 37 (cellsS (t::List.replicate 36 (fitT ⟨#[]⟩)))
theorem newR.below{w:World}{D g c:Nat}{w' w2:World}(h:newR w D g c w')(hb:Below w'.heap.size w' w2):newR w D g c w2:=⟨zae h.1 hb,zad hb (Array.getElem?_eq_some_iff.1 h.2.1).1 h.2.1,h.2.2.imp fun _ ho=>zah ho hb⟩
theorem zvj(w:World):
  Calls prog 41 #[] w fun e w'=>∃B,e=.returned (.pointer (some ⟨B,0,none⟩))∧w.heap.size≤B∧(∀X:List Nat,(∀x∈X,x<w.heap.size)→JAt w' B (B::X) zwr)∧Below w.heap.size w w':=by
 obtain⟨s,hs⟩:∃s,s=encT (zbq 0 1):=⟨_,rfl⟩;have HS:=zab hs;clear hs;go_enter func41,ntmps41;go_wp2_with fail;refine(z4p _).mono ?_;rintro e C ⟨g,c,rfl,L,j⟩;have k:=L.lt g rfl;have A7:w.heap.size≤g:=k.1;have C6:g<C.heap.size:=k.2;go_wp2;rename_i KK l;obtain⟨Y,K⟩:∃Y,Y=C.alloc (.cells #[.slice (some ⟨g,0,none⟩) 37 c,.slice none 0 0] 46):=⟨_,rfl⟩;have N:Below C.heap.size C Y:=by rw[K];exact zaa _ _
 have C0:=zab (zah L N);have B8:=zab (zae j N);have KD:Hid (Y.heap[C.heap.size]?=some (.cells #[.slice (some ⟨g,0,none⟩) 37 c,.slice none 0 0] 46 (0,0))):=by rw[K];exact heap_alloc_new _ _
 have C7:Y.heap.size=C.heap.size+1:=by rw[K];simp
 have C1:w.heap.size≤C.heap.size:=j.size;rw[←K];clear K N L j k;have B6:Hid (newR w C.heap.size g c Y):=⟨B8.o,KD.o,fitT ⟨#[]⟩,C0.o⟩
 have Z:∀(g0 g2 g3 g4 g5 g6 g7 g8 g9 A1 u A2 A5:Value) (W:World),W.ownsRow w.heap.size 9 1 (.slice (some ⟨g,0,none⟩) 37 c) 37 (cellsS (s::List.replicate 36 (fitT ⟨#[]⟩)))→Below w.heap.size w W→W.heap[C.heap.size]?=some (.cells #[.slice (some ⟨g,0,none⟩) 37 c,.slice none 0 0] 46 (0,0))→KK ⟨#[g0,.pointer (some ⟨C.heap.size,0,none⟩),g2,g3,g4,g5,g6,g7,g8,g9,A1,u,A2,A5],[]⟩ W:=by
  intro g0 g2 g3 g4 g5 g6 g7 g8 g9 A1 u A2 A5 W3 F A3 y;apply l;clear l;have B9:=zab F;have B0:=zab A3;have A8:=zab y;obtain⟨⟨y0,y1⟩,_⟩:=zgq A8.o;clear F A3 y;go_wp2_with fail;refine(zru z1b (some ⟨g,0,none⟩) c none 0 0 1 W3 (by decide+kernel)).mono ?_;rintro e U ⟨rfl,S⟩;have m:=zab (zah B9.o S);have R:=zab (zae B0.o S);have C5:W3.heap.size≤U.heap.size:=S.size;clear y0 y1 S;obtain⟨O,n⟩:∃O,O=zbs (zfe z1b 0 1) (some ⟨g,0,none⟩) c none 0 none 0 none 0 none 0 none 0 none 0 none 0 none 0 none 0 none 0:=⟨_,rfl⟩;rw[←n];have Q:=zab n;have B1:Hid ((prog.info? 93).map (·.size)=some O.size):=by rw[Hid,Q.o];exact z3d _ _ _ _ _ _ _ _ _ _ _ _ _ _ _ _ _ _ _ _ _ _ _
  have B4:Hid (O.all (·.oneCell')=true):=by rw[Hid,Q.o];exact zh1 _ _ _ _ _ _ _ _ _ _ _ _ _ _ _ _ _ _ _ _ _ _ _
  have B5:Hid (57=O.size):=by rw[Hid,Q.o];kernel_rfl
  clear n;dsimp only
  repeat (first|(refine wpList_store_rowTo rfl _ _ _ rfl rfl U.heap.size O rfl rfl _ _ (heap_alloc_new _ _) B1.o B5.o B4.o ?_)|go_step)
  refine bodyPost_ret (results_tmp rfl _ _ _) rfl ⟨U.heap.size,rfl,R.o.size,fun X hX=>?_,?_⟩
  ·rw[Q.o,z4q];refine JAt.putAll (by simp) (heap_alloc_new U _) (some ⟨g,0,none⟩) c none 0 none 0 none 0 none 0 none 0 none 0 none 0 none 0 none 0 none 0 ⟨?_,zrc _ _,zrc _ _,.inl rfl,.inl rfl,.inl rfl,z3c _,Nat.le_refl _,Nat.le_refl _,Nat.le_refl _⟩;have C2:g<U.heap.size:=(m.o.lt g rfl).2;obtain⟨a2,c2,hv,hS,_⟩:=SegS.of_owns (zah m.o (zaa U _));simp only[Value.slice.injEq]at hv;obtain⟨rfl,_,rfl⟩:=hv;rw[HS.o]at hS;refine⟨some ⟨g,0,none⟩,c,none,0,rfl,?_,.inl rfl,by decide+kernel,by decide+kernel⟩;rcases hS with h0|⟨b,off,he,hlt,hc⟩
   ·cases h0
   ·cases he;refine .inr ⟨g,0,rfl,by rw[zbf];exact hlt,fun i hi=>zbz ?_ (hc i hi)⟩;simp only[List.mem_cons,not_or];exact⟨by omega,fun hx=>by have:=hX g hx;omega⟩
  ·exact((ButL.of_below (X:=[]) (R.o.alloc R.o.size _)).setRow (.inr R.o.size) O).below
 have r:=zab Z;clear Z l;refine(show∀A0:Act,A0=_→Code.wp prog _ _ A0 _ from fun A0 hA0=>?_) _ rfl;have D:A0.tmps.size=14:=by rw[hA0];rfl
 have B7:A0.defers=[]:=by rw[hA0]
 have v1:A0.eval (.tmp 1)=.pointer (some ⟨C.heap.size,0,none⟩):=by rw[hA0];rfl
 clear hA0;refine ze2 (fun w'=>newR w C.heap.size g c w') [5,6,7,8,4,9,10,11,11] (zms w.heap.size C.heap.size g c s) (by kernel_rfl) (by kernel_rfl) (by kernel_rfl) (B6.o.below (Below.refl _ _).drew) ⟨?_,?_,?_,?_,?_,?_,?_,?_,?_,trivial⟩ ?_
 ·exact zbg v1 D (fun _=>rfl) fun ρ w' A z=>by simp only[execOp];go_simp
 ·exact zam 0 5 D (fun _ _ h=>h) (fun _=>rfl) fun ρ w' A p=>by have c0:w'.cell? ⟨C.heap.size,0,none⟩=some (.slice (some ⟨g,0,none⟩) 37 c):=(zgq A.2.1).1.1;simp only[execOp];go_simp
 ·intro a w' E A I;exact zgo _ rfl rfl (by have J:=Act.eval_const a (.int .i64 1);revert J;generalize a.eval=ρ;intro J;simp only[execOp];go_simp) E D A rfl
 ·intro a w' E A I;have p7:a.eval (.tmp 7)=.agg #[.int .i64 1,.int .i64 1,.int .i64 0,.slice none 0 0,.slice none 0 0]:=I ⟨2,.data⟩ (by simp) rfl;refine zbp 70 #[.agg #[.int .i64 1,.int .i64 1,.int .i64 0,.slice none 0 0,.slice none 0 0]] rfl rfl (by have pf:=Act.eval_func a 70;revert p7 pf;generalize a.eval=ρ;intro p7 pf;simp only[execOp];go_simp) _ (zds _ (zbq 0 1) _ ⟨none,0,none,0,rfl,.inl rfl,.inl rfl,Nat.zero_le _,Nat.zero_le _⟩) ?_;rintro e w2 ⟨rfl,A4⟩;refine⟨_,rfl,_,rfl,A.below A4,?_,zr6 A4⟩;show zms _ _ _ _ _ _ ((a.put (some 8) _).eval (.tmp 8)) w2;rw[zan E D (by decide)];rw[HS.o,z3w];exact rfl
 ·exact zam 3 8 D (fun _ _ h=>h) (fun _=>rfl) fun ρ w' A p=>by simp only[execOp];go_simp
 ·exact zam 4 4 D (fun _ _ h=>h) (fun _=>rfl) fun ρ w' A p=>by simp only[execOp];go_simp
 ·exact zam 4 4 D (fun _ _ h=>h) (fun _=>rfl) fun ρ w' A p=>by simp only[execOp];go_simp
 ·intro a w' E A I;have p6:a.eval (.tmp 6)=.slice (some ⟨g,0,none⟩) 37 c:=I ⟨1,.data⟩ (by simp) rfl;exact zgo _ rfl rfl (by have J:=Act.eval_const a (.int .i64 0);revert p6 J;generalize a.eval=ρ;intro p6 J;simp only[execOp];go_simp) E D A rfl
 ·intro a w' E A I;have p9:a.eval (.tmp 9)=.string s:=I ⟨5,.data⟩ (by simp) rfl;have A6:a.eval (.tmp 11)=.pointer (some ⟨g,0,none⟩):=I ⟨7,.data⟩ (by simp) rfl;obtain⟨B2,B3,t,q⟩:=A;have C3:w'.cell? ⟨g,0,none⟩=some (.string t):=by rw[q.cellAt 0 (by decide)];rfl
  have C4:w'.frozen? ⟨g,0,none⟩=false:=q.frozenAt 0;have F:=(q.stored 0 (.string s)).1;have d:(w'.setCell ⟨g,0,none⟩ (.string s)).ownsRow w.heap.size 9 1 (.slice (some ⟨g,0,none⟩) 37 c) 37 (cellsS (s::List.replicate 36 (fitT ⟨#[]⟩))):=F;refine zco rfl rfl (w':=w'.setCell ⟨g,0,none⟩ (.string s)) (by revert p9 A6;generalize a.eval=ρ;intro p9 A6;simp only[execOp];go_simp) ⟨_,rfl,⟨B2.setCell (p:=⟨g,0,none⟩) A7 _,(Below.heap_setCell _ _ _ _ (by simp only;omega)).trans B3,s,d⟩,?_,zx7⟩;show zms _ _ _ _ _ _ _ _;exact d
 ·intro a W E A I;have F:W.ownsRow w.heap.size 9 1 (.slice (some ⟨g,0,none⟩) 37 c) 37 (cellsS (s::List.replicate 36 (fitT ⟨#[]⟩))):=I 8 (by decide);have A9:a.tmps.size=14:=E.size.trans D;have f1:a.eval (.tmp 1)=.pointer (some ⟨C.heap.size,0,none⟩):=(E.other 1 rfl).trans v1;have M:a=⟨#[_,_,_,_,_,_,_,_,_,_,_,_,_,_],[]⟩:=zcn a 14 A9 (E.defers.trans B7);dsimp only at M;rw[f1]at M;show KK a _;exact(congrArg (fun x=>KK x _) M).mpr (r.o (a.eval (.tmp 0)) (a.eval (.tmp 2)) (a.eval (.tmp 3)) (a.eval (.tmp 4)) (a.eval (.tmp 5)) (a.eval (.tmp 6)) (a.eval (.tmp 7)) (a.eval (.tmp 8)) (a.eval (.tmp 9)) (a.eval (.tmp 10)) (a.eval (.tmp 11)) (a.eval (.tmp 12)) (a.eval (.tmp 13)) W F A.1 A.2.1)
theorem Move.acts{j:Jn}{a:Ac}{j':Jn}{r:Rp}(m:Move j a j' r):j'.acts=j.acts:=by
 cases m with
 |last hk s hs he=>
  rw[zb4];split
  ·rfl
  split
  ·rfl
  split
  ·rfl
  ·rfl
 |_=>rfl
theorem z3x{j:Jn}{D:Dk}(h:Md j D)(a:Ac)(h0:0≤j.acts)(h1:j.acts≤400):
  (400≤j.acts∧doJ j a=(j,zat 11))∨(j.acts<400∧(doJ j a).1.acts=j.acts+1∧∃D',Md (doJ j a).1 D'∧Trans {j with acts:=j.acts+1} D a (doJ j a).1 (doJ j a).2 D'):=by
 by_cases hf:400≤j.acts
 ·exact .inl ⟨hf,by rw[doJ,if_pos hf]⟩
 ·have e:doJ j a=zk2 {j with acts:=j.acts+1} a:=by rw[doJ,if_neg hf]
  have m:=zzo {j with acts:=j.acts+1} a;rw[e];refine .inr ⟨by omega,m.acts,(h.bump (x:=j.acts+1) (by omega)).move m (fun hk hs=>?_)⟩;show j.now.seq≤j.acts+1
  cases h with
  |idle p hs hz hD ht hq=>exact p.seq
  |commit P U k p hw hk hs hD ht he hse hrh hru hq hN=>exact p.seq
  |check k p hw hz hk hs hD ht hq=>exact p.seq
  |off l N P U p hs hf hD ht=>rw[p.now];show(0:Int)≤_;omega
  |back U k p hw hk hs hD ht=>rw[p.now];show(0:Int)≤_;omega
theorem z1c:Tells z1b [] 1 0 0:=by
 have B:za3 z1b=true:=by kernel_rfl
 refine zq4 B rfl (by kernel_rfl) z3w (fun n h1 h2=>?_)
 have C:zal z1b n=fitT ⟨#[]⟩:=by
  rw[z1b,zg2 B (by omega)];obtain⟨m,rfl⟩:∃m,n=m+1:=⟨n - 1,by omega⟩;rw[List.getD_cons_succ,List.getD,List.getElem?_replicate,if_pos (by omega)];rfl
 rw[C];intro A;rw[z1a]at A;cases A
theorem z3y:Md zwr z1b:=.idle ⟨rfl,zpe (by decide) (by decide),by decide,rfl,rfl,fun hb=>by cases hb⟩ rfl rfl rfl z1c rfl
theorem Md.ready{j:Jn}{D:Dk}(h:Md j D)(h0:0≤j.acts)(h1:j.acts≤400):Ready j:=by
 have B:∀x:Int, -10≤x→x≤1000→IntKind.i64.wrap x=x:=fun x _ _=>by rw[IntKind.wrap_i64];omega
 have I:∀{l:List Tx} {N P U:Int},Pow j→j.done.length≤24→j.now.seq≤j.last+2→j.last+1≤j.now.seq→0≤j.last→0≤j.ru→j.ru≤24→Ready j:=by
  intro _ _ _ _ p hd F A6 hl M R;have E:=zaz p.good;have A5:=p.seq;refine⟨by omega,by rw[p.fL];exact Nat.zero_le _,by rw[p.fN];exact B _ (by omega) (by omega),B _ (by omega) (by omega),B _ (by omega) (by omega),by omega,by omega,(fun hd2=>by rw[p.up]at hd2;cases hd2),M,R,h0,h1⟩
 have len:∀{N P U:Int},Tells D (j.done.map zdv) N P U→j.done.length≤24:=by
  intro N P U A;have C:=zou D;rw[A.tL,List.length_map]at C;exact C
 have O:∀{N:Int},Dn j N→j.fL.length≤24→ -1≤j.fN→j.fN≤402→(j.steps=[]→∀t∈fndL j.disk,Few t)→Ready j:=by
  intro N p K A2 A0 J;have C:=p.lo;have S:=p.seq;have L:=p.last0;refine⟨by rw[p.done];exact Nat.zero_le _,by unfold maxLen;omega,B _ (by omega) (by omega),by rw[p.now];exact B _ (by decide) (by decide),B _ (by omega) (by omega),by rw[p.now];decide,by rw[p.now];decide,fun _=>J,by rw[p.ru];exact Int.le_refl _,by rw[p.ru];decide,h0,h1⟩
 cases h with
 |idle p E hz hD A F=>have:=A.range;exact I (l:=[]) (N:=0) (P:=0) (U:=0) p (len A) (by omega) (by omega) (by omega) (by omega) (by omega)
 |commit P U k p hw hk E hD A he hse hrh hru F hN=>
  have:=A.range;obtain⟨_,Q,_,A4,A3⟩:=zbx he;have hn:=zex j.sealed (zaz Q).1 (zaz Q).2.2
  have A1:zce P U j.sealed=U+needN j.sealed.info.length j.sealed.rev.length:=by
   have C:=he;unfold sealE at C;split at C
   ·cases C
   ·rw[zce,if_pos he,takeU,if_pos C]
  exact I (l:=[]) (N:=0) (P:=0) (U:=0) p (len A) (by omega) (by omega) (by omega) (by omega) (by omega)
 |check k p hw hz hk E hD A F=>have:=A.range;exact I (l:=[]) (N:=0) (P:=0) (U:=0) p (len A) (by omega) (by omega) (by omega) (by omega) (by omega)
 |off l N P U p E K hD A=>
  refine O p (by rw[K.1];exact Nat.zero_le _) (by omega) (by omega) (fun _ t ht2=>z2v (A.goods t ?_))
  rwa [hD,A.tL]at ht2
 |back U k p hw hk E hD A=>
  have C:=A.range;have S:=p.seq;refine O p (by have L:=zou D;rwa [A.tL]at L) (by omega) (by omega) (fun hs2=>?_);rw[hs2]at E;have:=congrArg List.length E;rw[List.length_drop]at this;simp at this;omega
def PJ (j:Jn):Prop:=∃D,Md j D∧0≤j.acts∧j.acts≤400
theorem PJ.ready{j:Jn}(h:PJ j):Ready j:=by
 obtain⟨D,B,A,C⟩:=h;exact B.ready A C
theorem PJ.do{j:Jn}(h:PJ j)(a:Ac):PJ (doJ j a).1:=by
 obtain⟨D,B,A,C⟩:=h;rcases z3x B a A C with⟨h4,h5⟩|⟨h4,h5,D',h6,_⟩
 ·rw[h5];exact⟨D,B,A,C⟩
 ·exact⟨D',h6,by omega,by omega⟩
theorem PJ.new:PJ zwr:=⟨z1b,z3y,by decide,by decide⟩
def al1:Jn:=(doJ zwr ⟨1,0,0,2,⟨#[]⟩⟩).1
def al2:Jn:=(doJ al1 ⟨2,0,3,0,⟨#[120]⟩⟩).1
def al3:Jn:=(doJ al2 ⟨9,0,3,0,⟨#[]⟩⟩).1
theorem z5s:(doJ zwr ⟨1,0,0,2,⟨#[]⟩⟩).2.code=0:=by kernel_rfl
theorem z5t:(doJ al1 ⟨2,0,3,0,⟨#[120]⟩⟩).2.code=0:=by kernel_rfl
theorem z3z:(doJ al2 ⟨9,0,3,0,⟨#[]⟩⟩).2.n=1∧(doJ al2 ⟨9,0,3,0,⟨#[]⟩⟩).2.text=fitT ⟨#[120]⟩:=⟨by kernel_rfl,by kernel_rfl⟩
theorem z5u:(doJ al3 ⟨6,0,0,0,⟨#[]⟩⟩).2.code=9:=by kernel_rfl
def zvk (R1:Nat)(R2:Nat)(R3:Nat)(R4:Nat)(z:ByteArray):Nat→Value→World→Prop
 |0,v,_=>v=.pointer (some ⟨R1,0,none⟩)
 |1,v,_=>v=.int .i64 0
 |2,v,_=>v=.bool true
 |3,v,_=>v=.bool true
 |4,v,_=>v=.pointer (some ⟨R2,0,none⟩)
 |5,v,_=>v=.int .i64 0
 |6,v,_=>v=.bool true
 |7,v,_=>v=.bool true
 |8,v,_=>v=.bool true
 |9,v,_=>v=.pointer (some ⟨R3,2,none⟩)
 |10,v,_=>v=.string z
 |11,v,_=>v=.string z
 |12,v,_=>v=.bool true
 |13,v,_=>v=.bool true
 |14,v,_=>v=.bool true
 |15,v,_=>v=.pointer (some ⟨R3,1,none⟩)
 |16,v,_=>v=.int .i64 1
 |17,v,_=>v=.bool true
 |18,v,_=>v=.bool true
 |19,v,_=>v=.bool true
 |20,v,_=>v=.pointer (some ⟨R4,0,none⟩)
 |21,v,_=>v=.int .i64 9
 |22,v,_=>v=.bool true
 |23,v,_=>v=.bool true
 |24,v,_=>v=.bool true
 |_,_,_=>True
theorem zr7{R1:Nat}{R2:Nat}{R3:Nat}{R4:Nat}{z:ByteArray}{w w':World}(_hb:Below w.heap.size w w'){i:Nat}:∀kk uu,kk≠i→zvk R1 R2 R3 R4 z kk uu w→zvk R1 R2 R3 R4 z kk uu w':=by
 intro kk uu _ h
 match kk,h with
 |0,h|1,h|2,h|3,h|4,h|5,h|6,h|7,h|8,h|9,h|10,h|11,h|12,h|13,h|14,h|15,h|16,h|17,h|18,h|19,h|20,h|21,h|22,h|23,h|24,h=>exact h
 |_+25,_=>exact trivial
theorem z1d(w:World):Calls Tryz.prog 39 #[] w fun e w'=>e=.returned (.bool true)∧Below w.heap.size w w':=by
 obtain⟨z,hz⟩:∃z,z=fitT ⟨#[120]⟩:=⟨_,rfl⟩;have HZ:=zab hz;clear hz;go_enter Tryz.func39,Tryz.ntmps39;go_wp2_with fail;refine(zvj _).mono ?_;rintro e w1 ⟨B,rfl,G1,R,F⟩;have B0:=zab (R [] (by simp));have G5:B<w1.heap.size:=B0.o.lt;have B6:=zab F;have G6:w.heap.size≤w1.heap.size:=F.size;have B3:=zab PJ.new
 have D3:Hid (∀P,P=doJ zwr ⟨1,0,0,2,⟨#[]⟩⟩→P.2.code=0∧∀j1,j1=P.1→∀P,P=doJ j1 ⟨2,0,3,0,⟨#[120]⟩⟩→P.2.code=0∧∀j2,j2=P.1→∀P,P=doJ j2 ⟨9,0,3,0,⟨#[]⟩⟩→P.2.n=1∧P.2.text=z∧∀j3,j3=P.1→∀P,P=doJ j3 ⟨6,0,0,0,⟨#[]⟩⟩→P.2.code=9∧True):=by
  rintro P rfl;refine⟨z5s,?_⟩;rintro j1 rfl P rfl;refine⟨z5t,?_⟩;rintro j2 rfl P rfl;refine⟨z3z.1,z3z.2.trans HZ.o.symm,?_⟩;rintro j3 rfl P rfl;exact⟨z5u,trivial⟩
 clear R F;obtain⟨j0,C9⟩:∃j0,j0=zwr:=⟨_,rfl⟩;rw[←C9]at B0 B3 D3;clear C9;go_wp2_with fail;refine(zmr B [B] j0 w1 B0.o (fun x K=>by rw[List.mem_singleton.1 K];omega) B3.o.ready ⟨1,0,0,2,⟨#[]⟩⟩ (by decide) (by decide)).mono ?_;rintro e d ⟨rfl,R,I⟩;obtain⟨P,U⟩:∃P,P=doJ j0 ⟨1,0,0,2,⟨#[]⟩⟩:=⟨_,rfl⟩;have A5:Hid (PJ P.1):=by rw[U];exact B3.o.do _
 have C7:=zab (D3.o P U);rw[←U]at R⊢
 have Y:vRp P.2=.agg #[.int .i64 0,.int .i64 P.2.n,.string P.2.text]:=by
  show Value.agg #[.int .i64 P.2.code,.int .i64 P.2.n,.string P.2.text]=_;rw[C7.o.1]
 rw[Y];obtain⟨j1,C3⟩:∃x,x=P.1:=⟨_,rfl⟩;rw[←C3]at A5 R;have E5:=zab (C7.o.2 j1 C3);clear C3 Y;generalize P.2.n=n1 at *;generalize P.2.text=t1 at *;generalize P.2.code=c1 at *;clear U;have C0:w1.heap.size≤d.heap.size:=I.size
 have B1:Hid (Below w.heap.size w d):=by
  have K:=B6.o;exact⟨I.os.trans K.os,I.tape.trans K.tape,I.output.trans K.output,Nat.le_trans K.size I.size,fun q hq=>(I.block q (by have:=K.size;omega) (by simp;omega)).trans (K.block q hq)⟩
 go_wp2_with fail;obtain⟨W1,N⟩:∃W,W=d.alloc (.cells #[.int .i64 0,.int .i64 n1,.string t1] 31):=⟨_,rfl⟩;rw[←N];have F:Below d.heap.size d W1:=by rw[N];exact zaa _ _
 have E0:=zab (R.below F);have A8:=zab (zae B1.o F);have F6:W1.heap.size=d.heap.size+1:=by rw[N];simp
 have J:Hid (W1.heap[d.heap.size]?=some (.cells #[.int .i64 0,.int .i64 n1,.string t1] 31 (0,0))):=by rw[N];exact heap_alloc_new _ _
 clear N F R I B1 B6;refine(zmr B [B] j1 W1 E0.o (fun x K=>by rw[List.mem_singleton.1 K];omega) A5.o.ready ⟨2,0,3,0,⟨#[120]⟩⟩ (by decide) (by decide)).mono ?_;rintro e c ⟨rfl,R,I⟩;obtain⟨P,U⟩:∃P,P=doJ j1 ⟨2,0,3,0,⟨#[120]⟩⟩:=⟨_,rfl⟩;have B7:Hid (PJ P.1):=by rw[U];exact A5.o.do _
 have C6:=zab (E5.o P U);rw[←U]at R⊢
 have Y:vRp P.2=.agg #[.int .i64 0,.int .i64 P.2.n,.string P.2.text]:=by
  show Value.agg #[.int .i64 P.2.code,.int .i64 P.2.n,.string P.2.text]=_;rw[C6.o.1]
 rw[Y];obtain⟨j2,C2⟩:∃x,x=P.1:=⟨_,rfl⟩;rw[←C2]at B7 R;have D8:=zab (C6.o.2 j2 C2);clear C2 Y;generalize P.2.n=n2 at *;generalize P.2.text=t2 at *;generalize P.2.code=c2 at *;clear U;have C0:W1.heap.size≤c.heap.size:=I.size;have L:=zab ((I.block _ (by omega) (by simp;omega)).trans J.o);clear J;have J:=L;clear L
 have C1:Hid (Below w.heap.size w c):=by
  have K:=A8.o;exact⟨I.os.trans K.os,I.tape.trans K.tape,I.output.trans K.output,Nat.le_trans K.size I.size,fun q hq=>(I.block q (by have:=K.size;omega) (by simp;omega)).trans (K.block q hq)⟩
 go_wp2_with fail;obtain⟨W2,N⟩:∃W,W=c.alloc (.cells #[.int .i64 0,.int .i64 n2,.string t2] 31):=⟨_,rfl⟩;rw[←N];have F:Below c.heap.size c W2:=by rw[N];exact zaa _ _
 have E1:=zab (R.below F);have B5:=zab (zae C1.o F);have F5:W2.heap.size=c.heap.size+1:=by rw[N];simp
 have M:Hid (W2.heap[c.heap.size]?=some (.cells #[.int .i64 0,.int .i64 n2,.string t2] 31 (0,0))):=by rw[N];exact heap_alloc_new _ _
 have L:=zab (zad F (by omega) J.o);clear J;have J:=L;clear L;clear N F R I C1 A8;refine(zmr B [B] j2 W2 E1.o (fun x K=>by rw[List.mem_singleton.1 K];omega) B7.o.ready ⟨9,0,3,0,⟨#[]⟩⟩ (by decide) (by decide)).mono ?_;rintro e Z ⟨rfl,R,I⟩;obtain⟨P,U⟩:∃P,P=doJ j2 ⟨9,0,3,0,⟨#[]⟩⟩:=⟨_,rfl⟩;have A3:Hid (PJ P.1):=by rw[U];exact B7.o.do _
 have B4:=zab (D8.o P U);rw[←U]at R⊢
 have Y:vRp P.2=.agg #[.int .i64 P.2.code,.int .i64 1,.string z]:=by
  show Value.agg #[.int .i64 P.2.code,.int .i64 P.2.n,.string P.2.text]=_;rw[B4.o.1,B4.o.2.1]
 rw[Y];obtain⟨j3,B8⟩:∃x,x=P.1:=⟨_,rfl⟩;rw[←B8]at A3 R;have D9:=zab (B4.o.2.2 j3 B8);clear B8 Y;generalize P.2.n=n3 at *;generalize P.2.text=t3 at *;generalize P.2.code=c3 at *;clear U;have C0:W2.heap.size≤Z.heap.size:=I.size;have L:=zab ((I.block _ (by omega) (by simp;omega)).trans J.o);clear J;have J:=L;clear L;have Q:=zab ((I.block _ (by omega) (by simp;omega)).trans M.o);clear M;have M:=Q;clear Q
 have A6:Hid (Below w.heap.size w Z):=by
  have K:=B5.o;exact⟨I.os.trans K.os,I.tape.trans K.tape,I.output.trans K.output,Nat.le_trans K.size I.size,fun q hq=>(I.block q (by have:=K.size;omega) (by simp;omega)).trans (K.block q hq)⟩
 go_wp2_with fail;obtain⟨W3,N⟩:∃W,W=Z.alloc (.cells #[.int .i64 c3,.int .i64 1,.string z] 31):=⟨_,rfl⟩;rw[←N];have F:Below Z.heap.size Z W3:=by rw[N];exact zaa _ _
 have E2:=zab (R.below F);have B2:=zab (zae A6.o F);have F4:W3.heap.size=Z.heap.size+1:=by rw[N];simp
 have X:Hid (W3.heap[Z.heap.size]?=some (.cells #[.int .i64 c3,.int .i64 1,.string z] 31 (0,0))):=by rw[N];exact heap_alloc_new _ _
 have L:=zab (zad F (by omega) J.o);clear J;have J:=L;clear L;have Q:=zab (zad F (by omega) M.o);clear M;have M:=Q;clear Q;clear N F R I A6 B5;refine(zmr B [B] j3 W3 E2.o (fun x K=>by rw[List.mem_singleton.1 K];omega) A3.o.ready ⟨6,0,0,0,⟨#[]⟩⟩ (by decide) (by decide)).mono ?_;rintro e i ⟨rfl,R,I⟩;obtain⟨P,U⟩:∃P,P=doJ j3 ⟨6,0,0,0,⟨#[]⟩⟩:=⟨_,rfl⟩;have E3:Hid (PJ P.1):=by rw[U];exact A3.o.do _
 have E7:=zab (D9.o P U);rw[←U]at R⊢
 have Y:vRp P.2=.agg #[.int .i64 9,.int .i64 P.2.n,.string P.2.text]:=by
  show Value.agg #[.int .i64 P.2.code,.int .i64 P.2.n,.string P.2.text]=_;rw[E7.o.1]
 rw[Y];obtain⟨j4,C8⟩:∃x,x=P.1:=⟨_,rfl⟩;rw[←C8]at E3 R;clear C8 Y;generalize P.2.n=n4 at *;generalize P.2.text=t4 at *;generalize P.2.code=c4 at *;clear U;have C0:W3.heap.size≤i.heap.size:=I.size;have L:=zab ((I.block _ (by omega) (by simp;omega)).trans J.o);clear J;have J:=L;clear L;have Q:=zab ((I.block _ (by omega) (by simp;omega)).trans M.o);clear M;have M:=Q;clear Q;have j:=zab ((I.block _ (by omega) (by simp;omega)).trans X.o);clear X;have X:=j;clear j
 have B9:Hid (Below w.heap.size w i):=by
  have K:=B2.o;exact⟨I.os.trans K.os,I.tape.trans K.tape,I.output.trans K.output,Nat.le_trans K.size I.size,fun q hq=>(I.block q (by have:=K.size;omega) (by simp;omega)).trans (K.block q hq)⟩
 go_wp2;rename_i KK A7;obtain⟨W4,N⟩:∃W,W=i.alloc (.cells #[.int .i64 9,.int .i64 n4,.string t4] 31):=⟨_,rfl⟩;rw[←N];have F:Below i.heap.size i W4:=by rw[N];exact zaa _ _
 have F7:=zab (R.below F);have A9:=zab (zae B9.o F);have F3:W4.heap.size=i.heap.size+1:=by rw[N];simp
 have r:Hid (W4.heap[i.heap.size]?=some (.cells #[.int .i64 9,.int .i64 n4,.string t4] 31 (0,0))):=by rw[N];exact heap_alloc_new _ _
 have L:=zab (zad F (by omega) J.o);clear J;have J:=L;clear L;have Q:=zab (zad F (by omega) M.o);clear M;have M:=Q;clear Q;have j:=zab (zad F (by omega) X.o);clear X;have X:=j;clear j;clear N F R I B9 B2;obtain⟨R1,A1⟩:∃x,x=d.heap.size:=⟨_,rfl⟩;obtain⟨y,s⟩:∃x,x=c.heap.size:=⟨_,rfl⟩;obtain⟨l,m⟩:∃x,x=Z.heap.size:=⟨_,rfl⟩;obtain⟨R4,u⟩:∃x,x=i.heap.size:=⟨_,rfl⟩;obtain⟨W,N⟩:∃x,x=W4:=⟨_,rfl⟩;rw[←A1]at J;rw[←s]at M;rw[←m]at X;rw[←u]at r;rw[←N]at J M X r A9;rw[←A1,←s,←m,←u,←N];have E4:Hid (W.cell? ⟨R1,0,none⟩=some (.int .i64 0)):=(cell_of_row W _ 0 _ _ _ J.o).trans rfl;have G7:Hid (W.cell? ⟨R1,1,none⟩=some (.int .i64 n1)):=(cell_of_row W _ 1 _ _ _ J.o).trans rfl;have F9:Hid (W.cell? ⟨R1,2,none⟩=some (.string t1)):=(cell_of_row W _ 2 _ _ _ J.o).trans rfl;have E8:Hid (W.cell? ⟨y,0,none⟩=some (.int .i64 0)):=(cell_of_row W _ 0 _ _ _ M.o).trans rfl;have F8:Hid (W.cell? ⟨y,1,none⟩=some (.int .i64 n2)):=(cell_of_row W _ 1 _ _ _ M.o).trans rfl;have G4:Hid (W.cell? ⟨y,2,none⟩=some (.string t2)):=(cell_of_row W _ 2 _ _ _ M.o).trans rfl;have G0:Hid (W.cell? ⟨l,0,none⟩=some (.int .i64 c3)):=(cell_of_row W _ 0 _ _ _ X.o).trans rfl;have F0:Hid (W.cell? ⟨l,1,none⟩=some (.int .i64 1)):=(cell_of_row W _ 1 _ _ _ X.o).trans rfl;have E9:Hid (W.cell? ⟨l,2,none⟩=some (.string z)):=(cell_of_row W _ 2 _ _ _ X.o).trans rfl;have F2:Hid (W.cell? ⟨R4,0,none⟩=some (.int .i64 9)):=(cell_of_row W _ 0 _ _ _ r.o).trans rfl;have G2:Hid (W.cell? ⟨R4,1,none⟩=some (.int .i64 n4)):=(cell_of_row W _ 1 _ _ _ r.o).trans rfl;have G3:Hid (W.cell? ⟨R4,2,none⟩=some (.string t4)):=(cell_of_row W _ 2 _ _ _ r.o).trans rfl;have D7:R1<W.heap.size:=(Array.getElem?_eq_some_iff.1 J.o).1;have D4:y<W.heap.size:=(Array.getElem?_eq_some_iff.1 M.o).1;have D6:l<W.heap.size:=(Array.getElem?_eq_some_iff.1 X.o).1;have D5:R4<W.heap.size:=(Array.getElem?_eq_some_iff.1 r.o).1
 clear A1 s m u N;have A1:=D7;have s:=D4;have m:=D6;have u:=D5
 have A4:∀(g:Nat→Value) (W':World),Below W.heap.size W W'→KK ⟨#[.bool true,g 1,g 2,g 3,g 4,g 5,g 6,g 7,g 8,g 9,g 10,g 11,g 12,g 13,g 14,g 15,g 16,g 17,g 18,g 19,g 20,g 21,g 22,g 23,g 24,g 25,g 26,g 27,g 28,g 29,g 30,g 31,g 32,g 33,g 34,g 35,g 36,g 37,g 38,g 39,g 40,g 41,g 42,g 43,g 44],[]⟩ W':=by
  intro g W' hb;apply A7;clear A7;go_wp2;go_ret;exact⟨rfl,zae A9.o hb⟩
 have C4:=zab A4;clear A4 A7;refine(show∀A0:Act,A0=_→Code.wp Tryz.prog _ _ A0 _ from fun A0 hA0=>?_) _ rfl;have E:A0.tmps.size=45:=by rw[hA0];rfl
 have F1:A0.defers=[]:=by rw[hA0]
 have v2:A0.eval (.tmp 2)=.pointer (some ⟨R1,0,none⟩):=by rw[hA0];rfl
 have v3:A0.eval (.tmp 3)=.pointer (some ⟨y,0,none⟩):=by rw[hA0];rfl
 have v4:A0.eval (.tmp 4)=.pointer (some ⟨l,0,none⟩):=by rw[hA0];rfl
 have v5:A0.eval (.tmp 5)=.pointer (some ⟨R4,0,none⟩):=by rw[hA0];rfl
 clear hA0;refine ze2 (fun w'=>Below W.heap.size W w') [21,22,23,24,25,26,27,28,29,30,31,32,33,34,35,36,37,38,39,40,41,42,43,44,0] (zvk R1 y l R4 z) (by kernel_rfl) (by kernel_rfl) (by kernel_rfl) ((Below.refl _ _).drew) ⟨?_,?_,?_,?_,?_,?_,?_,?_,?_,?_,?_,?_,?_,?_,?_,?_,?_,?_,?_,?_,?_,?_,?_,?_,?_,trivial⟩ ?_
 ·exact zbg v2 E (fun _=>rfl) fun ρ w' C z=>by simp only[execOp];go_simp
 ·exact zam 0 21 E (fun _ _ h=>h) (fun _=>rfl) fun ρ w' C p=>by have c0:w'.cell? ⟨R1,0,none⟩=some (.int .i64 0):=zac C A1 E4.o;simp only[execOp];go_simp
 ·intro a w' D C A;have D2:a.eval (.tmp 22)=.int .i64 0:=A ⟨1,.data⟩ (by simp) rfl;exact zgo _ rfl rfl (by have S:=Act.eval_const a (.int .i64 0);revert D2 S;generalize a.eval=ρ;intro D2 S;simp only[execOp];go_simp) D E C rfl
 ·exact zam 2 23 E (fun _ _ h=>h) (fun _=>rfl) fun ρ w' C p=>by simp only[execOp];go_simp
 ·intro a w' D C A;have O:a.eval (.tmp 24)=.bool true:=A ⟨3,Ground.guard⟩ (by simp) rfl;have z3:=(D.other 3 rfl).trans v3;exact zgl _ rfl (zb5 (b:=true) rfl rfl O) (by revert z3;generalize a.eval=ρ;intro z3;simp only[execOp];go_simp) D E C rfl
 ·intro a w' D C A;have O:a.eval (.tmp 24)=.bool true:=A ⟨3,Ground.guard⟩ (by simp) rfl;have p25:a.eval (.tmp 25)=.pointer (some ⟨y,0,none⟩):=A ⟨4,.data⟩ (by simp) rfl;have c0:w'.cell? ⟨y,0,none⟩=some (.int .i64 0):=zac C s E8.o;exact zgl _ rfl (zb5 (b:=true) rfl rfl O) (by revert p25;generalize a.eval=ρ;intro p25;simp only[execOp];go_simp) D E C rfl
 ·intro a w' D C A;have O:a.eval (.tmp 24)=.bool true:=A ⟨3,Ground.guard⟩ (by simp) rfl;have p26:a.eval (.tmp 26)=.int .i64 0:=A ⟨5,.data⟩ (by simp) rfl;exact zgl _ rfl (zb5 (b:=true) rfl rfl O) (by have S:=Act.eval_const a (.int .i64 0);revert p26 S;generalize a.eval=ρ;intro p26 S;simp only[execOp];go_simp) D E C rfl
 ·intro a w' D C A;have D1:a.eval (.tmp 24)=.bool true:=A ⟨3,.data⟩ (by simp) rfl;have p27:a.eval (.tmp 27)=.bool true:=A ⟨6,.data⟩ (by simp) rfl;exact zgo _ rfl rfl (by revert D1 p27;generalize a.eval=ρ;intro D1 p27;simp only[execOp];go_simp) D E C rfl
 ·exact zam 7 28 E (fun _ _ h=>h) (fun _=>rfl) fun ρ w' C p=>by simp only[execOp];go_simp
 ·intro a w' D C A;have O:a.eval (.tmp 29)=.bool true:=A ⟨8,Ground.guard⟩ (by simp) rfl;have z4:=(D.other 4 rfl).trans v4;exact zgl _ rfl (zb5 (b:=true) rfl rfl O) (by revert z4;generalize a.eval=ρ;intro z4;simp only[execOp];go_simp) D E C rfl
 ·intro a w' D C A;have O:a.eval (.tmp 29)=.bool true:=A ⟨8,Ground.guard⟩ (by simp) rfl;have p30:a.eval (.tmp 30)=.pointer (some ⟨l,2,none⟩):=A ⟨9,.data⟩ (by simp) rfl;have c0:w'.cell? ⟨l,2,none⟩=some (.string z):=zac C m E9.o;exact zgl _ rfl (zb5 (b:=true) rfl rfl O) (by revert p30;generalize a.eval=ρ;intro p30;simp only[execOp];go_simp) D E C rfl
 ·intro a w' D C A;have O:a.eval (.tmp 29)=.bool true:=A ⟨8,Ground.guard⟩ (by simp) rfl;refine zxa 25 #[.string ⟨#[120]⟩] rfl (zb5 (b:=true) rfl rfl O) (by have pf:=Act.eval_func a 25;have S:=Act.eval_const a (.string ⟨#[120]⟩);revert pf S;generalize a.eval=ρ;intro pf S;simp only[execOp];go_simp) _ (zgb ⟨#[120]⟩ _ (by decide)) ?_;rintro e w2 ⟨rfl,C5⟩;refine⟨_,rfl,_,rfl,zae C C5,?_,zr7 C5⟩;show zvk _ _ _ _ _ _ ((a.put (some 32) _).eval (.tmp 32)) w2;rw[zan D E (by decide)];rw[←HZ.o];exact rfl
 ·intro a w' D C A;have O:a.eval (.tmp 29)=.bool true:=A ⟨8,Ground.guard⟩ (by simp) rfl;have p31:a.eval (.tmp 31)=.string z:=A ⟨10,.data⟩ (by simp) rfl;have p32:a.eval (.tmp 32)=.string z:=A ⟨11,.data⟩ (by simp) rfl;exact zgl _ rfl (zb5 (b:=true) rfl rfl O) (by revert p31 p32;generalize a.eval=ρ;intro p31 p32;simp only[execOp];go_simp) D E C rfl
 ·intro a w' D C A;have p29:a.eval (.tmp 29)=.bool true:=A ⟨8,.data⟩ (by simp) rfl;have p33:a.eval (.tmp 33)=.bool true:=A ⟨12,.data⟩ (by simp) rfl;exact zgo _ rfl rfl (by revert p29 p33;generalize a.eval=ρ;intro p29 p33;simp only[execOp];go_simp) D E C rfl
 ·exact zam 13 34 E (fun _ _ h=>h) (fun _=>rfl) fun ρ w' C p=>by simp only[execOp];go_simp
 ·intro a w' D C A;have O:a.eval (.tmp 35)=.bool true:=A ⟨14,Ground.guard⟩ (by simp) rfl;have z4:=(D.other 4 rfl).trans v4;exact zgl _ rfl (zb5 (b:=true) rfl rfl O) (by revert z4;generalize a.eval=ρ;intro z4;simp only[execOp];go_simp) D E C rfl
 ·intro a w' D C A;have O:a.eval (.tmp 35)=.bool true:=A ⟨14,Ground.guard⟩ (by simp) rfl;have p36:a.eval (.tmp 36)=.pointer (some ⟨l,1,none⟩):=A ⟨15,.data⟩ (by simp) rfl;have c0:w'.cell? ⟨l,1,none⟩=some (.int .i64 1):=zac C m F0.o;exact zgl _ rfl (zb5 (b:=true) rfl rfl O) (by revert p36;generalize a.eval=ρ;intro p36;simp only[execOp];go_simp) D E C rfl
 ·intro a w' D C A;have O:a.eval (.tmp 35)=.bool true:=A ⟨14,Ground.guard⟩ (by simp) rfl;have p37:a.eval (.tmp 37)=.int .i64 1:=A ⟨16,.data⟩ (by simp) rfl;exact zgl _ rfl (zb5 (b:=true) rfl rfl O) (by have S:=Act.eval_const a (.int .i64 1);revert p37 S;generalize a.eval=ρ;intro p37 S;simp only[execOp];go_simp) D E C rfl
 ·intro a w' D C A;have p35:a.eval (.tmp 35)=.bool true:=A ⟨14,.data⟩ (by simp) rfl;have p38:a.eval (.tmp 38)=.bool true:=A ⟨17,.data⟩ (by simp) rfl;exact zgo _ rfl rfl (by revert p35 p38;generalize a.eval=ρ;intro p35 p38;simp only[execOp];go_simp) D E C rfl
 ·exact zam 18 39 E (fun _ _ h=>h) (fun _=>rfl) fun ρ w' C p=>by simp only[execOp];go_simp
 ·intro a w' D C A;have O:a.eval (.tmp 40)=.bool true:=A ⟨19,Ground.guard⟩ (by simp) rfl;have z5:=(D.other 5 rfl).trans v5;exact zgl _ rfl (zb5 (b:=true) rfl rfl O) (by revert z5;generalize a.eval=ρ;intro z5;simp only[execOp];go_simp) D E C rfl
 ·intro a w' D C A;have O:a.eval (.tmp 40)=.bool true:=A ⟨19,Ground.guard⟩ (by simp) rfl;have p41:a.eval (.tmp 41)=.pointer (some ⟨R4,0,none⟩):=A ⟨20,.data⟩ (by simp) rfl;have c0:w'.cell? ⟨R4,0,none⟩=some (.int .i64 9):=zac C u F2.o;exact zgl _ rfl (zb5 (b:=true) rfl rfl O) (by revert p41;generalize a.eval=ρ;intro p41;simp only[execOp];go_simp) D E C rfl
 ·intro a w' D C A;have O:a.eval (.tmp 40)=.bool true:=A ⟨19,Ground.guard⟩ (by simp) rfl;have p42:a.eval (.tmp 42)=.int .i64 9:=A ⟨21,.data⟩ (by simp) rfl;exact zgl _ rfl (zb5 (b:=true) rfl rfl O) (by have S:=Act.eval_const a (.int .i64 9);revert p42 S;generalize a.eval=ρ;intro p42 S;simp only[execOp];go_simp) D E C rfl
 ·intro a w' D C A;have p40:a.eval (.tmp 40)=.bool true:=A ⟨19,.data⟩ (by simp) rfl;have p43:a.eval (.tmp 43)=.bool true:=A ⟨22,.data⟩ (by simp) rfl;exact zgo _ rfl rfl (by revert p40 p43;generalize a.eval=ρ;intro p40 p43;simp only[execOp];go_simp) D E C rfl
 ·exact zam 23 44 E (fun _ _ h=>h) (fun _=>rfl) fun ρ w' C p=>by simp only[execOp];go_simp
 ·intro a W' D C A;have p0:a.eval (.tmp 0)=.bool true:=A 24 (by decide);have E6:a.tmps.size=45:=D.size.trans E;have A2:a=⟨#[_,_,_,_,_,_,_,_,_,_,_,_,_,_,_,_,_,_,_,_,_,_,_,_,_,_,_,_,_,_,_,_,_,_,_,_,_,_,_,_,_,_,_,_,_],[]⟩:=zcn a 45 E6 (D.defers.trans F1);dsimp only at A2;rw[p0]at A2;show KK a _;exact(congrArg (fun x=>KK x _) A2).mpr (C4.o (fun k=>a.eval (.tmp k)) _ C)
section
variable (j:Jn) (D:Dk) (j':Jn) (D':Dk) (b:Nat)
structure SameB:Prop where
 hi:zai b j'.now.info=zai b j.now.info
 hd:zai b j'.now.data=zai b j.now.data
 hv:zay j'.now.rev b=zay j.now.rev b
 hq:j'.now.seq=j.now.seq
 hs:j'.sealed=j.sealed
 hdn:j'.done=j.done
 hr:j'.role b=j.role b
 hf:j'.freed b=j.freed b
 hl:j'.last=j.last
 hD:D'=D
structure WriteB (s:ByteArray):Prop where
 hi:zai b j'.now.info=some s
 hd0:zai b j.now.data=none
 hd:zai b j'.now.data=none
 hv:zay j'.now.rev b=false
 hq:j'.now.seq=j.now.seq
 hs:j'.sealed=j.sealed
 hdn:j'.done=j.done
 hr:j'.role b=1
 hr0:j.role b≠2
 hf:j'.freed b=j.freed b
 hl:j'.last=j.last
 hD:D'=D
structure FillB (s:ByteArray):Prop where
 hi0:zai b j.now.info=none
 hv0:zay j.now.rev b=false
 hi:zai b j'.now.info=none
 hv:zay j'.now.rev b=false
 hd:zai b j'.now.data=some s
 hq:j'.now.seq=j.now.seq
 hs:j'.sealed=j.sealed
 hdn:j'.done=j.done
 hr:j'.role b=2
 hr0:j.role b≠1
 hf0:j.freed b≤j.last
 hf:j'.freed b=j.freed b
 hl:j'.last=j.last
 hD:D'=D
structure RevokeB:Prop where
 hi:zai b j'.now.info=none
 hd:zai b j'.now.data=none
 hv:zay j'.now.rev b=true
 hq:j'.now.seq=j.now.seq
 hs:j'.sealed=j.sealed
 hdn:j'.done=j.done
 hr:j'.role b=0
 hr0:j.role b≠0
 hf:j'.freed b=j.now.seq
 hl:j'.last=j.last
 hD:D'=D
structure CommitB:Prop where
 hz:j.sealed=zcv 0
 hs:j'.sealed=j.now
 hn:j'.now=zcv (j.now.seq+1)
 hq:j.now.seq=j.last+1
 hdn:j'.done=j.done
 hr:j'.role b=j.role b
 hf:j'.freed b=j.freed b
 hl:j'.last=j.last
 hD:D'=D
structure ThroughB:Prop where
 hs:j'.sealed=zcv 0
 hn:j'.now=j.now
 hse:j.sealed.seq=j.last+1
 hq:j.now.seq=j.last+2
 hdn:j'.done=j.done++[j.sealed]
 hr:j'.role b=j.role b
 hf:j'.freed b=j.freed b
 hl:j'.last=j.last+1
 hh:zal D' ((25+b:Nat):Int)=(zai b j.sealed.data).getD (zal D ((25+b:Nat):Int))
structure HomeB:Prop where
 hz:j.sealed=zcv 0
 hs:j'.sealed=zcv 0
 hn:j'.now=j.now
 hdn:j'.done=[]
 hr:j'.role b=j.role b
 hf:j'.freed b=j.freed b
 hl:j'.last=j.last
 hh:zal D' ((25+b:Nat):Int)=(newestF j.done b).getD (zal D ((25+b:Nat):Int))
inductive KpB:Prop
 |same (h:SameB j D j' D' b)
 |commit (h:CommitB j D j' D' b)
 |through (h:ThroughB j D j' D' b)
 |home (h:HomeB j D j' D' b)
inductive EvB:Prop
 |keep (h:KpB j D j' D' b)
 |write (s:ByteArray) (h:WriteB j D j' D' b s)
 |fill (s:ByteArray) (h:FillB j D j' D' b s)
 |revoke (h:RevokeB j D j' D' b)
end
inductive Ev (j:Jn)(D:Dk)(a:Ac)(j':Jn)(r:Rp)(D':Dk):Prop
 |calm (hd:j'.down=j.down) (hD:D'=D) (all:∀b:Nat,b<12→SameB j D j' D' b) (hk:r.code=0→a.kind≠2∧a.kind≠3∧a.kind≠4∧a.kind≠6∧a.kind≠10) (h8:a.kind=8→r.n=0)
   (h9:r.code=0→a.kind=9→∃b:Nat,b<12∧a.b=b∧textJ j b=(r.text,0)∧j.down=false)
 |write (b:Nat) (hb:b<12) (hab:a.b=b) (hk:a.kind=2) (hu:j.down=false) (hu':j'.down=false) (hc:r=zat 0) (here:WriteB j D j' D' b (fitT a.text)) (others:∀x:Nat,x<12→x≠b→SameB j D j' D' x)
 |fill (b:Nat) (hb:b<12) (hab:a.b=b) (hk:a.kind=3) (hu:j.down=false) (hu':j'.down=false) (hc:r=zat 0) (here:FillB j D j' D' b (fitT a.text)) (others:∀x:Nat,x<12→x≠b→SameB j D j' D' x)
 |revoke (b:Nat) (hb:b<12) (hab:a.b=b) (hk:a.kind=4) (hu:j.down=false) (hu':j'.down=false) (hc:r=zat 0) (here:RevokeB j D j' D' b) (others:∀x:Nat,x<12→x≠b→SameB j D j' D' x)
 |commit (hk:a.kind=6) (hu:j.down=false) (hu':j'.down=false) (hc:r.code=0) (hn:r.n=j.last+1) (all:∀b:Nat,CommitB j D j' D' b)
 |through (hk:a.kind=8) (hu:j.down=false) (hu':j'.down=false) (hc:r.code=0) (hn:r.n=j.last+1) (all:∀b:Nat,b<12→ThroughB j D j' D' b)
 |home (hk:a.kind=8) (hu:j.down=false) (hu':j'.down=false) (hc:r=zat 0) (all:∀b:Nat,b<12→HomeB j D j' D' b)
 |on (hk:a.kind=8) (hd:j.down=true) (hu':j'.down=false) (hc:r=zat 0) (hl:j'.last=fndN D - 1) (hs:j'.sealed=zcv 0) (hn:j'.now=zcv (fndN D)) (hdn:j'.done=[]) (hr:∀b:Nat,j'.role b=zcf (fndL D).reverse b) (hf:∀b:Nat,j'.freed b=0)
   (hdk:j'.disk=D') (hh:∀b:Nat,b<12→zal D' ((25+b:Nat):Int)=zj5 D b)
 |crash (hk:a.kind=10) (hu':j'.down=true) (hc:r=zat 0) (hl:j'.last=j.last) (left:Left j D D')
theorem zll(f:Nat→Int){b:Int}{k:Nat}(x:Int)(h:b=k):upd f b x k=x:=by rw[upd,if_pos h.symm]
theorem zvl(f:Nat→Int){b:Int}{k:Nat}(x:Int)(h:b≠k):upd f b x k=f k:=by rw[upd,if_neg (fun e=>h e.symm)]
theorem zkv{l r:List (Int×ByteArray)}{x:Int}(hl:Up (·.1) l)(hr:Up (·.1) r)(h:l.filter (fun y=>decide (y.1=x))=r.filter (fun y=>decide (y.1=x))):zai x l=zai x r:=by
 have A:=zgc hl x;have B:=zgc hr x;rw[h,B]at A
 cases e1:zai x l with
 |none=>
  cases e2:zai x r with
  |none=>rfl
  |some s=>rw[e1,e2]at A;simp at A
 |some s=>
  cases e2:zai x r with
  |none=>rw[e1,e2]at A;simp at A
  |some u=>rw[e1,e2]at A;simp at A;rw[A]
theorem zmt{l:List (Int×ByteArray)}(h:Up (·.1) l){b x:Int}(s:ByteArray)(hx:x≠b):zai x (zbj (·.1) l b (b,s))=zai x l:=
 zkv (zuu h rfl) h (z44 b (b,s) rfl x hx)
theorem zkw{l:List (Int×ByteArray)}(h:Up (·.1) l){b x:Int}(hx:x≠b):zai x (zax (·.1) l b)=zai x l:=by
 refine zkv (zsl h b) h ?_;rw[zsm h,List.filter_filter];refine List.filter_congr fun y _=>?_;by_cases e:y.1=x
 ·simp[e,hx]
 ·simp[e]
theorem zoc{l r:List Int}{x y:Int}(h:x∈l↔y∈r):zay l x=zay r y:=by
 cases e1:zay l x with
 |true=>rw[zd9.1 (h.1 (zd9.2 e1))]
 |false=>
  cases e2:zay r y with
  |false=>rfl
  |true=>rw[zd9.1 (h.2 (zd9.2 e2))]at e1;cases e1
theorem zpr(l:List Int){b x:Int}(hx:x≠b):zay (zax id l b) x=zay l x:=zoc ⟨fun h=>(zd6.1 h).1,fun h=>zd6.2 ⟨h,hx⟩⟩
theorem zr8(l:List Int){b x:Int}(hx:x≠b):zay (zbj id l b b) x=zay l x:=zoc ⟨fun h=>by
 rcases zfj.1 h with e|e
 ·exact absurd e hx
 ·exact e.1,fun h=>zfj.2 (.inr ⟨h,hx⟩)⟩
theorem z1e(l:List Int)(b:Int):zay (zbj id l b b) b=true:=zd9.1 (zfj.2 (.inl rfl))
theorem zps{t:Tx}(hg:zba t=true):Up (·.1) t.info∧Up (·.1) t.data:=by
 have A:=(za9 t).1 hg;exact⟨(zfo _ _).1 ((za8 _).1 A.2.2.1.1).2,(zfo _ _).1 ((za8 _).1 A.2.2.1.2.1).2⟩
section
variable {j:Jn} {D:Dk} {a:Ac} {j':Jn} {r:Rp} {D':Dk}
theorem zod(t:Tx)(h:Int)(x:Hd):(ze6 t h x).info=t.info∧(ze6 t h x).data=t.data∧(ze6 t h x).rev=t.rev∧(ze6 t h x).seq=t.seq:=by
 unfold ze6;split
 ·exact⟨rfl,rfl,rfl,rfl⟩
 split<;>exact⟨rfl,rfl,rfl,rfl⟩
theorem Md.seqs(h:Md j D)(hu:j.down=false):fndL D=j.done.map zdv∧fndN D=j.last+1∧(j.sealed=zcv 0∧j.now.seq=j.last+1∨j.sealed.seq=j.last+1∧j.now.seq=j.last+2∧zba j.sealed=true):=by
 cases h with
 |idle p hs hz hD ht hq=>exact⟨ht.tL,ht.tN,.inl ⟨hz,hq⟩⟩
 |commit P U k p hw hk hs hD ht he hse hrh hru hq hN=>exact⟨ht.tL,ht.tN,.inr ⟨hse,hq,(zbx he).2.1⟩⟩
 |check k p hw hz hk hs hD ht hq=>exact⟨ht.tL,ht.tN,.inl ⟨hz,hq⟩⟩
 |off l N P U p hs hf hD ht=>rw[p.off]at hu;cases hu
 |back U k p hw hk hs hD ht=>rw[p.off]at hu;cases hu
theorem z6a(h:Md j D)(h':Md j' D')(t:Trans j D a j' r D'):Ev j D a j' r D':=by
 cases t with
 |plain m hp=>
  have refl:∀b:Nat,b<12→SameB j D j D b:=fun b _=>⟨rfl,rfl,rfl,rfl,rfl,rfl,rfl,rfl,rfl,rfl⟩
  cases m with
  |no e he=>exact .calm rfl rfl refl (fun O=>absurd O he) (fun _=>rfl) (fun O=>absurd O he)
  |read hd hk hb ht=>
   refine .calm rfl rfl refl (fun _=>by omega) (fun h8=>by omega) (fun _ _=>⟨a.b.toNat,by omega,by omega,?_,hd⟩);rw[show((a.b.toNat:Nat):Int)=a.b from by omega];exact Prod.ext rfl ht
  |begin hd hk he=>
   obtain⟨Y,d,Z,X⟩:=zod j.now a.h ⟨true,a.n⟩;have e:zaw j.now a.h a.n (24 - j.ru)=ze6 j.now a.h ⟨true,a.n⟩:=by rw[zaw,if_pos he]
   rw[e];exact .calm rfl rfl (fun b _=>⟨by rw[Y],by rw[d],by rw[Z],X,rfl,rfl,rfl,rfl,rfl,rfl⟩) (fun _=>by omega) (fun h8=>by omega) (fun _ h9=>by omega)
  |stop hd hk he=>
   obtain⟨Y,d,Z,X⟩:=zod j.now a.h ⟨false,0⟩;have e:zb3 j.now a.h=ze6 j.now a.h ⟨false,0⟩:=by rw[zb3,if_pos he]
   rw[e];exact .calm rfl rfl (fun b _=>⟨by rw[Y],by rw[d],by rw[Z],X,rfl,rfl,rfl,rfl,rfl,rfl⟩) (fun _=>by omega) (fun h8=>by omega) (fun _ h9=>by omega)
  |write hd hk he hr=>
   obtain⟨I,A0,R,C⟩:=zjj he;obtain⟨K,F,S,i,w⟩:=zcc I;obtain⟨u1,u2⟩:=zps K;obtain⟨n1,u,n3⟩:=zei j.now a.h a.b;have e:zaf j.now a.h a.b (fitT a.text)=zet j.now a.h a.b (fitT a.text):=by rw[zaf,if_pos he]
   have A:a.b=((a.b.toNat:Nat):Int):=by omega
   have Q:zai a.b j.now.data=none:=by
    cases hx:zai a.b j.now.data with
    |none=>rfl
    |some s=>rw[hx]at R;cases R
   rw[e];refine .write a.b.toNat (by omega) A hk hd hd rfl ⟨?_,?_,?_,?_,ze0 j.now a.h a.b,rfl,rfl,zll _ _ A,hr,rfl,rfl,rfl⟩ (fun x hx hne=>?_)
   ·rw[←A];exact zvd _ u1 _ _
   ·rw[←A];exact Q
   ·rw[←A];show zai a.b (nameT j.now a.h a.b).data=none;rw[u];exact Q
   ·rw[←A];exact zw2 _ _
   ·have B:(x:Int)≠a.b:=by omega
    exact⟨zmt u1 _ B,by show zai x (nameT j.now a.h a.b).data=_;rw[u],zpr _ B,ze0 j.now a.h a.b,rfl,rfl,zvl _ _ (by omega),rfl,rfl,rfl⟩
  |fill hd hk he hr hf=>
   obtain⟨I,A0,C⟩:=ztl he;obtain⟨K,F,S,i,w⟩:=zcc I;obtain⟨u1,u2⟩:=zps K;have e:zao j.now a.h a.b (fitT a.text)={j.now with data:=zbj (·.1) j.now.data a.b (a.b,fitT a.text)}:=by rw[zao,if_pos he]
   have A:a.b=((a.b.toNat:Nat):Int):=by omega
   have J:zai a.b j.now.info=none∧zay j.now.rev a.b=false:=by
    unfold zcq at C;simp only[Bool.or_eq_false_iff]at C;refine⟨?_,C.2⟩
    cases hx:zai a.b j.now.info with
    |none=>rfl
    |some s=>rw[hx]at C;cases C.1
   rw[e];refine .fill a.b.toNat (by omega) A hk hd hd rfl ⟨?_,?_,?_,?_,?_,rfl,rfl,rfl,zll _ _ A,hr,hf,rfl,rfl,rfl⟩ (fun x hx hne=>?_)
   ·rw[←A];exact J.1
   ·rw[←A];exact J.2
   ·rw[←A];exact J.1
   ·rw[←A];exact J.2
   ·rw[←A];exact zvd _ u2 _ _
   ·have B:(x:Int)≠a.b:=by omega
    exact⟨rfl,zmt u2 _ B,rfl,rfl,rfl,rfl,zvl _ _ (by omega),rfl,rfl,rfl⟩
  |revoke hd hk he hr=>
   obtain⟨I,A1,C⟩:=zjk he;obtain⟨K,F,S,i,w⟩:=zcc I;obtain⟨u1,u2⟩:=zps K;have e:zag j.now a.h a.b=zeu j.now a.h a.b:=by rw[zag,if_pos he]
   have A:a.b=((a.b.toNat:Nat):Int):=by omega
   have L:(zeu j.now a.h a.b).seq=j.now.seq:=ze0 j.now a.h a.b;rw[e];refine .revoke a.b.toNat (by omega) A hk hd hd rfl ⟨?_,?_,?_,L,rfl,rfl,zll _ _ A,hr,(zll _ _ A).trans L,rfl,rfl⟩ (fun x hx hne=>?_)
   ·rw[←A];exact zq7 _ _
   ·rw[←A];exact zq7 _ _
   ·rw[←A];exact z1e _ _
   ·have B:(x:Int)≠a.b:=by omega
    exact⟨zkw u1 B,zkw u2 B,zr8 _ B,L,rfl,rfl,zvl _ _ (by omega),zvl _ _ (by omega),rfl,rfl⟩
  |commit hd hk hs S hm z he=>
   have E:j.sealed=zcv 0∧j.now.seq=j.last+1:=by
    cases h with
    |idle p hs2 E hD ht hq2=>exact⟨E,hq2⟩
    |commit P U k p hw hk2 hs2 hD ht he2 hse hrh hru hq2 hN=>
     rw[hs]at hs2;have:=congrArg List.length hs2;rw[List.length_drop]at this;simp at this;omega
    |check k p hw E hk2 hs2 hD ht hq2=>exact⟨E,hq2⟩
    |off l N P U p hs2 hf hD ht=>rw[p.off]at hd;cases hd
    |back U k p hw hk2 hs2 hD ht=>rw[p.off]at hd;cases hd
   exact .commit hk hd hd rfl E.2 (fun b=>⟨E.1,rfl,rfl,E.2,rfl,rfl,rfl,rfl,rfl⟩)
  |check hd hk hs hn he=>exact .calm rfl rfl (fun b _=>⟨rfl,rfl,rfl,rfl,rfl,rfl,rfl,rfl,rfl,rfl⟩) (fun _=>by omega) (fun h8=>by omega) (fun _ h9=>by omega)
  |step hk s q hs he hr=>exact .calm rfl rfl (fun b _=>⟨rfl,rfl,rfl,rfl,rfl,rfl,rfl,rfl,rfl,rfl⟩) (fun _=>by omega) (fun _=>rfl) (fun _ h9=>by omega)
  |last hk s hs he=>
   have y:(zb4 {j with disk:=zbh j.disk s,steps:=[]}).2.code=0:=by
    rw[zb4];split
    ·rfl
    split
    ·rfl
    split
    ·rfl
    ·rfl
   obtain⟨s2,q,M,h2,_⟩:=(hp y).2 hk;rw[hs]at M
   injection M with _ c
   exact absurd c.symm h2
  |crash hk he=>exact absurd hk (hp rfl).1
  |back hk hd hs hE y=>exact .calm rfl rfl (fun b _=>⟨rfl,rfl,rfl,rfl,rfl,rfl,rfl,rfl,rfl,rfl⟩) (fun _=>by omega) (fun h8=>by omega) (fun _ h9=>by omega)
 |through _ hk hu hse K hN hL F=>
  obtain⟨_,_,c⟩:=h.seqs hu
  have z:j.now.seq=j.last+2:=by
   rcases c with⟨e,_⟩|⟨_,e,_⟩
   ·have O:=h.last0;rw[e]at hse;have:(0:Int)=j.last+1:=hse;omega
   ·exact e
  exact .through hk hu hu rfl hse (fun b hb=>⟨rfl,rfl,hse,z,rfl,rfl,rfl,hse,F b hb⟩)
 |home _ hk hu E hN hL F=>
  obtain⟨M,_,_⟩:=h.seqs hu;exact .home hk hu hu rfl (fun b hb=>⟨E,E,rfl,rfl,rfl,rfl,rfl,by rw[F b hb,zj5,M,zea]⟩)
 |on _ hk hd hfN hfL hN hL F=>
  refine .on hk hd rfl rfl ?_ rfl ?_ rfl (fun b=>?_) (fun _=>rfl) rfl F
  ·show j.fN - 1=_;rw[hfN]
  ·show zcv j.fN=_;rw[hfN]
  ·show zcf j.fL.reverse b=_;rw[hfL]
 |crash hk hn _ hX left=>exact .crash hk rfl rfl rfl left
end
theorem z6b{j:Jn}{D:Dk}(h:Md j D)(a:Ac)(h0:0≤j.acts)(h1:j.acts≤400):
  ∃D',Md (doJ j a).1 D'∧0≤(doJ j a).1.acts∧(doJ j a).1.acts≤400∧Ev j D a (doJ j a).1 (doJ j a).2 D':=by
 rcases z3x h a h0 h1 with⟨h4,h5⟩|⟨h4,h5,D',h6,ht⟩
 ·rw[h5];have A:(zat 11).code≠0:=by decide
  exact⟨D,h,h0,h1,.calm rfl rfl (fun b _=>⟨rfl,rfl,rfl,rfl,rfl,rfl,rfl,rfl,rfl,rfl⟩) (fun h0=>absurd h0 A) (fun _=>rfl) (fun h0=>absurd h0 A)⟩
 ·refine⟨D',h6,by omega,by omega,?_⟩;have e:=z6a (h.bump (x:=j.acts+1) (by omega)) h6 ht
  cases e with
  |calm a1 a2 a3 a4 a5 a6=>exact .calm a1 a2 (fun b hb=>⟨(a3 b hb).hi,(a3 b hb).hd,(a3 b hb).hv,(a3 b hb).hq,(a3 b hb).hs,(a3 b hb).hdn,(a3 b hb).hr,(a3 b hb).hf,(a3 b hb).hl,(a3 b hb).hD⟩) a4 a5 a6
  |write b a1 a2 a3 a4 a5 a6 x y=>exact .write b a1 a2 a3 a4 a5 a6 ⟨x.hi,x.hd0,x.hd,x.hv,x.hq,x.hs,x.hdn,x.hr,x.hr0,x.hf,x.hl,x.hD⟩ (fun b hb hn=>⟨(y b hb hn).hi,(y b hb hn).hd,(y b hb hn).hv,(y b hb hn).hq,(y b hb hn).hs,(y b hb hn).hdn,(y b hb hn).hr,(y b hb hn).hf,(y b hb hn).hl,(y b hb hn).hD⟩)
  |fill b a1 a2 a3 a4 a5 a6 x y=>exact .fill b a1 a2 a3 a4 a5 a6 ⟨x.hi0,x.hv0,x.hi,x.hv,x.hd,x.hq,x.hs,x.hdn,x.hr,x.hr0,x.hf0,x.hf,x.hl,x.hD⟩ (fun b hb hn=>⟨(y b hb hn).hi,(y b hb hn).hd,(y b hb hn).hv,(y b hb hn).hq,(y b hb hn).hs,(y b hb hn).hdn,(y b hb hn).hr,(y b hb hn).hf,(y b hb hn).hl,(y b hb hn).hD⟩)
  |revoke b a1 a2 a3 a4 a5 a6 x y=>exact .revoke b a1 a2 a3 a4 a5 a6 ⟨x.hi,x.hd,x.hv,x.hq,x.hs,x.hdn,x.hr,x.hr0,x.hf,x.hl,x.hD⟩ (fun b hb hn=>⟨(y b hb hn).hi,(y b hb hn).hd,(y b hb hn).hv,(y b hb hn).hq,(y b hb hn).hs,(y b hb hn).hdn,(y b hb hn).hr,(y b hb hn).hf,(y b hb hn).hl,(y b hb hn).hD⟩)
  |commit a1 a2 a3 a4 a5 y=>exact .commit a1 a2 a3 a4 a5 (fun b=>⟨(y b).hz,(y b).hs,(y b).hn,(y b).hq,(y b).hdn,(y b).hr,(y b).hf,(y b).hl,(y b).hD⟩)
  |through a1 a2 a3 a4 a5 y=>exact .through a1 a2 a3 a4 a5 (fun b hb=>⟨(y b hb).hs,(y b hb).hn,(y b hb).hse,(y b hb).hq,(y b hb).hdn,(y b hb).hr,(y b hb).hf,(y b hb).hl,(y b hb).hh⟩)
  |home a1 a2 a3 a4 y=>exact .home a1 a2 a3 a4 (fun b hb=>⟨(y b hb).hz,(y b hb).hs,(y b hb).hn,(y b hb).hdn,(y b hb).hr,(y b hb).hf,(y b hb).hl,(y b hb).hh⟩)
  |on a1 a2 a3 a4 a5 a6 a7 a8 a9 a10 a11 a12=>exact .on a1 a2 a3 a4 a5 a6 a7 a8 a9 a10 a11 a12
  |crash a1 a2 a3 a4 left=>
   refine .crash a1 a2 a3 a4 ?_
   cases left with
   |all b1 b2 b3 b4=>exact .all b1 b2 b3 b4
   |without b1 b2 b3 b4 b5=>exact .without b1 b2 b3 b4 b5
   |whole b1 b2 b3 b4 b5=>exact .whole b1 b2 b3 b4 b5
def nmd (t:Tx)(b:Nat):Prop:=zai b t.info=none∧zay t.rev b=false
theorem ziq(q:Int)(b:Nat):nmd (zcv q) b:=⟨rfl,rfl⟩
theorem z5v{b:Int}{o:Option ByteArray}{t:Tx}(h:zai b t.info=none)(h2:zay t.rev b=true):zcu b o t=none:=by rw[zcu,h,h2];rfl
theorem zh9{b:Nat}{o:Option ByteArray}{t:Tx}(h:nmd t b):zcu b o t=o:=by rw[zcu,h.1,h.2];rfl
theorem z1f{b:Int}{o:Option ByteArray}{t:Tx}(h:zcu b o t=none):zai b t.info=none∧(zay t.rev b=true∨o=none):=by
 rw[zcu]at h;split at h
 ·rename_i A;rw[h]at A;cases A
 ·rename_i A;refine⟨?_,?_⟩
  ·cases hx:zai b t.info with
   |none=>rfl
   |some s=>rw[hx]at A;exact absurd rfl A
  ·split at h
   ·rename_i B;exact .inl B
   ·exact .inr h
theorem z3l{b:Int}{o:Option ByteArray}{t u:Tx}(h1:zai b t.info=zai b u.info)(h2:zay t.rev b=zay u.rev b):zcu b o t=zcu b o u:=by rw[zcu,zcu,h1,h2]
structure RB (j:Jn)(b:Nat):Prop where
 r1:j.role b≠1→zcu b (zcu b (newestF j.done b) j.sealed) j.now=none
 r2:zai b j.now.data≠none→j.role b=2
 r3:zay j.now.rev b=true→j.now.seq≤j.freed b
 r3s:zay j.sealed.rev b=true→j.last<j.freed b
 r4:zai b j.sealed.data≠none→j.role b=2∨j.last<j.freed b
 r5:j.role b=2→nmd j.sealed b∧nmd j.now b∧newestF j.done b=none
section
variable {j:Jn} {D:Dk} {j':Jn} {D':Dk} {b:Nat}
theorem RB.ev(h:RB j b)(hq:j.last<j.now.seq)(e:EvB j D j' D' b):RB j' b:=by
 cases e with
 |keep e=>
  cases e with
  |same e=>
   refine⟨fun h1=>?_,fun h1=>?_,fun h1=>?_,fun h1=>?_,fun h1=>?_,fun h1=>?_⟩
   ·rw[e.hr]at h1;rw[e.hdn,e.hs,z3l e.hi e.hv];exact h.r1 h1
   ·rw[e.hd]at h1;rw[e.hr];exact h.r2 h1
   ·rw[e.hv]at h1;rw[e.hq,e.hf];exact h.r3 h1
   ·rw[e.hs]at h1;rw[e.hl,e.hf];exact h.r3s h1
   ·rw[e.hs]at h1;rw[e.hr,e.hl,e.hf];exact h.r4 h1
   ·rw[e.hr]at h1;obtain⟨C,A,B⟩:=h.r5 h1;rw[e.hs,e.hdn];exact⟨C,⟨e.hi.trans A.1,e.hv.trans A.2⟩,B⟩
  |commit e=>
   refine⟨fun h1=>?_,fun h1=>?_,fun h1=>?_,fun h1=>?_,fun h1=>?_,fun h1=>?_⟩
   ·rw[e.hr]at h1;have:=h.r1 h1;rw[e.hz,zh9 (ziq 0 b)]at this;rw[e.hn,zh9 (ziq _ b),e.hdn,e.hs];exact this
   ·rw[e.hn]at h1;exact absurd rfl h1
   ·rw[e.hn]at h1;cases h1
   ·rw[e.hs]at h1;have:=h.r3 h1;rw[e.hl,e.hf];omega
   ·rw[e.hs]at h1;rw[e.hr];exact .inl (h.r2 h1)
   ·rw[e.hr]at h1;obtain⟨C,A,B⟩:=h.r5 h1;rw[e.hs,e.hn,e.hdn];exact⟨A,ziq _ b,B⟩
  |through e=>
   refine⟨fun h1=>?_,fun h1=>?_,fun h1=>?_,fun h1=>?_,fun h1=>?_,fun h1=>?_⟩
   ·rw[e.hr]at h1;rw[e.hs,zh9 (ziq 0 b),e.hdn,ze9,e.hn];exact h.r1 h1
   ·rw[e.hn]at h1;rw[e.hr];exact h.r2 h1
   ·rw[e.hn]at h1⊢;rw[e.hf];exact h.r3 h1
   ·rw[e.hs]at h1;cases h1
   ·rw[e.hs]at h1;exact absurd rfl h1
   ·rw[e.hr]at h1;obtain⟨C,A,B⟩:=h.r5 h1;rw[e.hs,e.hn,e.hdn,ze9,zh9 C];exact⟨ziq 0 b,A,B⟩
  |home e=>
   refine⟨fun h1=>?_,fun h1=>?_,fun h1=>?_,fun h1=>?_,fun h1=>?_,fun h1=>?_⟩
   ·rw[e.hr]at h1;have q:=(z1f (h.r1 h1)).1;rw[e.hs,zh9 (ziq 0 b),e.hdn,e.hn];rw[zcu,q];show(if zay j.now.rev b=true then none else newestF [] b)=none;split<;>rfl
   ·rw[e.hn]at h1;rw[e.hr];exact h.r2 h1
   ·rw[e.hn]at h1⊢;rw[e.hf];exact h.r3 h1
   ·rw[e.hs]at h1;cases h1
   ·rw[e.hs]at h1;exact absurd rfl h1
   ·rw[e.hr]at h1;obtain⟨C,A,B⟩:=h.r5 h1;rw[e.hs,e.hn,e.hdn];exact⟨ziq 0 b,A,rfl⟩
 |write s e=>
  refine⟨fun h1=>absurd e.hr h1,fun h1=>absurd e.hd h1,fun h1=>?_,fun h1=>?_,fun h1=>?_,fun h1=>?_⟩
  ·rw[e.hv]at h1;cases h1
  ·rw[e.hs]at h1;rw[e.hl,e.hf];exact h.r3s h1
  ·rw[e.hs]at h1;rw[e.hl,e.hf];exact .inr ((h.r4 h1).resolve_left e.hr0)
  ·rw[e.hr]at h1;omega
 |fill s e=>
  have F:zay j.sealed.rev b=false:=by
   cases hx:zay j.sealed.rev b with
   |false=>rfl
   |true=>have:=h.r3s hx;have:=e.hf0;omega
  have J:nmd j.now b:=⟨e.hi0,e.hv0⟩;have q:=h.r1 e.hr0;rw[zh9 J]at q;obtain⟨I,q2⟩:=z1f q;have E:nmd j.sealed b:=⟨I,F⟩;rw[zh9 E]at q;refine⟨fun _=>?_,fun _=>e.hr,fun h1=>?_,fun h1=>?_,fun _=>.inl e.hr,fun _=>?_⟩
  ·rw[e.hdn,e.hs,zh9 (t:=j'.now) ⟨e.hi,e.hv⟩,zh9 E];exact q
  ·rw[e.hv]at h1;cases h1
  ·rw[e.hs,F]at h1;cases h1
  ·rw[e.hs,e.hdn];exact⟨E,⟨e.hi,e.hv⟩,q⟩
 |revoke e=>
  refine⟨fun _=>?_,fun h1=>absurd e.hd h1,fun _=>?_,fun h1=>?_,fun h1=>?_,fun h1=>?_⟩
  ·exact z5v e.hi e.hv
  ·rw[e.hq,e.hf];omega
  ·rw[e.hl,e.hf];omega
  ·rw[e.hl,e.hf];right;omega
  ·rw[e.hr]at h1;omega
theorem RB.new{q:Int}(hs:j.sealed=zcv 0)(hn:j.now=zcv q)(hd:j.done=[])(hr:j.role b≠2):RB j b:=by
 refine⟨fun _=>?_,fun h1=>?_,fun h1=>?_,fun h1=>?_,fun h1=>?_,fun h1=>absurd h1 hr⟩
 ·rw[hs,hn,hd];rfl
 ·rw[hn]at h1;exact absurd rfl h1
 ·rw[hn]at h1;cases h1
 ·rw[hs]at h1;cases h1
 ·rw[hs]at h1;exact absurd rfl h1
def unn (l:List Tx)(b:Nat):Prop:=∀t∈l,nmd t b
def At0 (l:List Tx)(D:Dk)(b:Nat)(s:ByteArray):Prop:=newestF l b=some s∨(unn l b∧zal D ((25+b:Nat):Int)=s)
def MT (j:Jn)(D:Dk)(b:Nat)(s:ByteArray):Prop:=j.role b=1∧(zai b j.now.info=some s∨(nmd j.now b∧zai b j.sealed.data=none∧(zai b j.sealed.info=some s∨(nmd j.sealed b∧At0 j.done D b s))))
def DT (j:Jn)(D:Dk)(b:Nat)(s:ByteArray):Prop:=j.role b=2∧(zai b j.now.data).getD ((zai b j.sealed.data).getD (zal D ((25+b:Nat):Int)))=s
theorem zir(l:List Tx)(hb:b<12):zai b (newestL l)=newestF l b:=by
 rw[newestL,zvt,if_pos ⟨by omega,by omega⟩]
theorem zr9(l:List Tx)(b:Int):zcf l b≠2:=by
 induction l with
 |nil=>exact(by decide:(1:Int)≠2)
 |cons t l ih=>
  rw[zcf];split
  ·decide
  split
  ·decide
  ·exact ih
theorem Md.behind'{j:Jn}{D:Dk}(h:Md j D)(hu:j.down=false):j.last<j.now.seq:=by
 obtain⟨_,_,A⟩:=h.seqs hu;rcases A with⟨_,A⟩|⟨_,A,_⟩<;>omega
def ac0:Ac:=⟨0,0,0,0,⟨#[]⟩⟩
def ActAt (w:World)(b o:Nat)(x:Ac):Prop:=
 w.cell? ⟨b,o,none⟩=some (.int .i64 x.kind)∧w.cell? ⟨b,o+1,none⟩=some (.int .i64 x.h)∧w.cell? ⟨b,o+2,none⟩=some (.int .i64 x.b)∧w.cell? ⟨b,o+3,none⟩=some (.int .i64 x.n)∧w.cell? ⟨b,o+4,none⟩=some (.string x.text)
def SegA (w:World)(a:Option Addr)(l:List Ac):Prop:=l=[]∨∃b off,a=some ⟨b,off,none⟩∧b<w.heap.size∧∀i,i<l.length→ActAt w b (off+i*5) (l.getD i ac0)
theorem ActAt.ext{w w':World}{b o:Nat}{x:Ac}(h:ActAt w b o x)(e:Ext w w'):ActAt w' b o x:=⟨e.cell _ _ _ h.1,e.cell _ _ _ h.2.1,e.cell _ _ _ h.2.2.1,e.cell _ _ _ h.2.2.2.1,e.cell _ _ _ h.2.2.2.2⟩
theorem SegA.ext{w w':World}{a:Option Addr}{l:List Ac}(h:SegA w a l)(e:Ext w w'):SegA w' a l:=by
 rcases h with h|⟨b,off,rfl,hlt,hc⟩
 ·exact .inl h
 ·exact .inr ⟨b,off,rfl,Nat.lt_of_lt_of_le hlt e.size,fun i hi=>(hc i hi).ext e⟩
structure OkA (x:Ac):Prop where
 n:x.n≤9223372036854775807
 text:x.text.size≤maxLen
def jOf (l:List Ac)(k:Nat):Jn:=(l.take k).foldl (fun j a=>(doJ j a).1) zwr
def rOf (l:List Ac)(k:Nat):Rp:=(doJ (jOf l k) (l.getD k ac0)).2
theorem zpt(l:List Ac):jOf l 0=zwr:=by rw[jOf,List.take_zero];rfl
theorem zpu{l:List Ac}{k:Nat}(h:k<l.length):jOf l (k+1)=(doJ (jOf l k) (l.getD k ac0)).1:=by
 rw[jOf,List.take_add_one,List.getElem?_eq_getElem h,List.foldl_append,List.getD,List.getElem?_eq_getElem h];rfl
theorem zvm(l:List Ac)(k:Nat):PJ (jOf l k):=by
 unfold jOf;generalize l.take k=q
 have:∀(q:List Ac) (j:Jn),PJ j→PJ (q.foldl (fun j a=>(doJ j a).1) j):=by
  intro q
  induction q with
  |nil=>intro j h;exact h
  |cons a q ih=>intro j h;exact ih _ (h.do a)
 exact this q _ PJ.new
def played (l:List Ac):Nat:=min l.length 150
def zun (n:Int)(s:ByteArray):Bool→List (Int×ByteArray)→Bool
 |_,[]=>false
 |may,g::R=>if g.1≤n then !(may||decide (g.2=s)) else zun n s (may||decide (g.2=s)) R
theorem zpv(n:Int)(s:ByteArray):∀R,zun n s true R=false
 |[]=>rfl
 |g::R=>by
  rw[zun];split
  ·simp
  ·rw[Bool.true_or];exact zpv n s R
theorem zlm{n:Int}{s:ByteArray}:∀(A:List (Int×ByteArray)) (m:Bool) (R:List (Int×ByteArray)),(∀g∈A,n<g.1)→∃m',zun n s m (A++R)=zun n s m' R∧(m=true→m'=true)∧(A.head?.map Prod.snd=some s→m'=true)
 |[],m,R,_=>⟨m,rfl,id,fun h=>by cases h⟩
 |g::A,m,R,h=>by
  have h1:=h g (by simp);obtain⟨m',e,h2,_⟩:=zlm A (m||decide (g.2=s)) R fun x hx=>h x (by simp[hx]);refine⟨m',?_,fun hm=>h2 (by rw[hm];rfl),fun hh=>h2 ?_⟩
  ·rw[List.cons_append,zun,if_neg (by omega)];exact e
  ·simp only[List.head?_cons,Option.map_some,Option.some.injEq]at hh;simp[hh]
theorem zvn{n:Int}{s:ByteArray}(m:Bool){C:List (Int×ByteArray)}(h:∀g∈C,g.1≤n)(hc:∀c,C.head?=some c→s=c.2):zun n s m C=false:=by
 cases C with
 |nil=>rfl
 |cons c C=>
  have B:=h c (by simp);have A:=hc c rfl;rw[zun,if_pos B,A];simp
theorem zsa{n:Int}{s:ByteArray}{A C:List (Int×ByteArray)}(hA:∀g∈A,n<g.1)(hC:∀g∈C,g.1≤n)(h:(∀c,C.head?=some c→s=c.2)∨A.head?.map Prod.snd=some s):zun n s false (A++C)=false:=by
 obtain⟨m,e,_,B⟩:=zlm (s:=s) A false C hA;rw[e];rcases h with h|h
 ·exact zvn m hC h
 ·rw[B h];exact zpv _ _ _
theorem zx8{n:Int}{s:ByteArray}{A B C:List (Int×ByteArray)}(hA:∀g∈A,n<g.1)(hB:∀g∈B,n<g.1)(hC:∀g∈C,g.1≤n)(h:(∀c,C.head?=some c→s=c.2)∨B.head?.map Prod.snd=some s):zun n s false (A++(B++C))=false:=by
 obtain⟨m,e,_,_⟩:=zlm (s:=s) A false (B++C) hA;rw[e];obtain⟨F,D,_,E⟩:=zlm (s:=s) B m C hB;rw[D];rcases h with h|h
 ·exact zvn F hC h
 ·rw[E h];exact zpv _ _ _
structure OrdB (j:Jn)(D:Dk)(b:Nat)(R:List (Int×ByteArray)):Prop where
 ex:∃A B C,R=A++(B++C)∧(∀g∈A,g.1=j.now.seq)∧(∀g∈B,g.1=j.last+1∧j.sealed.seq=j.last+1)∧(∀g∈C,g.1≤j.last)∧
  (j.role b=2→A.head?.map Prod.snd=zai b j.now.data∧B.head?.map Prod.snd=zai b j.sealed.data∧∀c,C.head?=some c→zal D ((25+b:Nat):Int)=c.2)
 no:j.role b≠2→R=[]
section
variable {j:Jn} {D:Dk} {j':Jn} {D':Dk} {b:Nat} {R:List (Int×ByteArray)}
theorem OrdB.nil(h:j.role b≠2):OrdB j D b []:=⟨⟨[],[],[],rfl,(fun g hg=>by cases hg),(fun g hg=>by cases hg),(fun g hg=>by cases hg),fun hr=>absurd hr h⟩,fun _=>rfl⟩
theorem OrdB.same(h:OrdB j D b R)(e:SameB j D j' D' b):OrdB j' D' b R:=by
 obtain⟨⟨A,B,C,J,E,I,L,K⟩,F⟩:=h;refine⟨⟨A,B,C,J,by rw[e.hq];exact E,by rw[e.hl,e.hs];exact I,by rw[e.hl];exact L,fun hr=>?_⟩,by rw[e.hr];exact F⟩;rw[e.hr]at hr;rw[e.hd,e.hs,e.hD];exact K hr
theorem OrdB.fill{s:ByteArray}(h:OrdB j D b R)(hR:RB j b)(e:FillB j D j' D' b s):OrdB j' D' b ((j'.now.seq,s)::R):=by
 obtain⟨⟨A,B,C,E,I,L,O,N⟩,K⟩:=h;refine⟨⟨(j'.now.seq,s)::A,B,C,by rw[E];rfl,?_,by rw[e.hl,e.hs];exact L,by rw[e.hl];exact O,fun _=>?_⟩,fun hr=>absurd e.hr hr⟩
 ·intro g F;rcases List.mem_cons.1 F with rfl|F
  ·rfl
  ·rw[e.hq];exact I g F
 ·rw[e.hd,e.hs,e.hD];by_cases h0:j.role b=2
  ·obtain⟨_,U,Q⟩:=N h0;exact⟨rfl,U,Q⟩
  ·have M:=K h0;rw[M]at E
   have J:B=[]:=by
    cases A with
    |nil=>cases B with
     |nil=>rfl
     |cons _ _=>cases E
    |cons _ _=>cases E
   have S:C=[]:=by
    cases A with
    |nil=>cases B with
     |nil=>cases C with
      |nil=>rfl
      |cons _ _=>cases E
     |cons _ _=>cases E
    |cons _ _=>cases E
   subst J S;refine⟨rfl,?_,fun c hc=>by cases hc⟩
   cases hx:zai b j.sealed.data with
   |none=>rfl
   |some u=>
    have:=(hR.r4 (by rw[hx];simp)).resolve_left h0;have:=e.hf0;omega
theorem OrdB.noB{B:List (Int×ByteArray)}(h3:∀g∈B,g.1=j.last+1∧j.sealed.seq=j.last+1)(hl:0≤j.last)(hz:j.sealed=zcv 0):B=[]:=by
 cases B with
 |nil=>rfl
 |cons g B=>
  have:=(h3 g (by simp)).2;rw[hz]at this;have:(0:Int)=j.last+1:=this;omega
theorem OrdB.commit(h:OrdB j D b R)(hl:0≤j.last)(e:CommitB j D j' D' b):OrdB j' D' b R:=by
 obtain⟨⟨A,B,C,K,E,J,N,L⟩,I⟩:=h;have F:=OrdB.noB J hl e.hz;subst F;refine⟨⟨[],A,C,K,(fun g hg=>by cases hg),fun g hg=>?_,by rw[e.hl];exact N,fun hr=>?_⟩,by rw[e.hr];exact I⟩
 ·rw[e.hl,e.hs,e.hq];exact⟨(E g hg).trans e.hq,rfl⟩
 ·rw[e.hr]at hr;obtain⟨O,_,M⟩:=L hr;rw[e.hn,e.hs,e.hD];exact⟨rfl,O,M⟩
theorem OrdB.through(h:OrdB j D b R)(e:ThroughB j D j' D' b):OrdB j' D' b R:=by
 obtain⟨⟨A,B,C,J,E,I,M,K⟩,F⟩:=h;refine⟨⟨A,[],B++C,J,by rw[e.hn];exact E,(fun g hg=>by cases hg),fun g hg=>?_,fun hr=>?_⟩,by rw[e.hr];exact F⟩
 ·rw[e.hl];rcases List.mem_append.1 hg with hg|hg
  ·have:=(I g hg).1;omega
  ·have:=M g hg;omega
 ·rw[e.hr]at hr;obtain⟨N,O,L⟩:=K hr;rw[e.hn,e.hs];refine⟨N,rfl,fun c hc=>?_⟩;rw[e.hh,←O]
  cases B with
  |nil=>exact L c hc
  |cons g B=>
   simp only[List.cons_append,List.head?_cons,Option.some.injEq]at hc;subst hc;rfl
theorem OrdB.home(h:OrdB j D b R)(hR:RB j b)(hl:0≤j.last)(e:HomeB j D j' D' b):OrdB j' D' b R:=by
 obtain⟨⟨A,B,C,K,E,J,N,L⟩,I⟩:=h;have F:=OrdB.noB J hl e.hz;subst F;refine⟨⟨A,[],C,K,by rw[e.hn];exact E,(fun g hg=>by cases hg),by rw[e.hl];exact N,fun hr=>?_⟩,by rw[e.hr];exact I⟩;rw[e.hr]at hr;obtain⟨O,x2,M⟩:=L hr;rw[e.hn,e.hs,e.hh,(hR.r5 hr).2.2];exact⟨O,rfl,M⟩
theorem OrdB.crash(h:OrdB j D b R)(hR:RB j b)(hb:b<12)(hM:Md j D)(hu:j.down=false){X:Dk}(left:Left j D X):zun (fndN X - 1) (zj5 X b) false R=false:=by
 obtain⟨⟨A,B,C,Z,E,I,N,k⟩,i⟩:=h;by_cases hr:j.role b=2
 case neg=>rw[i hr];rfl
 obtain⟨x1,S,M⟩:=k hr;obtain⟨d,n2,L⟩:=hR.r5 hr;obtain⟨K,F,O⟩:=hM.seqs hu;have hq:=hM.behind' hu;have Y:=hM.last0
 have U:zj5 D b=zal D ((25+b:Nat):Int):=by
  rw[zj5,K,zea,L];rfl
 rw[Z]
 cases left with
 |all cN cL ce cc=>
  have a:=OrdB.noB I Y (cc hu);subst a;rw[cN,ce b hb,U,F];refine zsa (fun g hg=>?_) (fun g hg=>?_) (.inl M)
  ·have:=E g hg;omega
  ·have:=N g hg;omega
 |without _ hse cN cL chh=>
  have J:zj5 X b=zal X ((25+b:Nat):Int):=by
   rw[zj5,cL,K,zea,L];rfl
  have Q:j.now.seq=j.last+2:=by
   rcases O with⟨hz,_⟩|⟨_,q4,_⟩
   ·rw[hz]at hse;have:(0:Int)=j.last+1:=hse;omega
   ·exact q4
  rw[cN,J,F];refine zx8 (fun g hg=>?_) (fun g hg=>?_) (fun g hg=>?_) ?_
  ·have:=E g hg;omega
  ·have:=(I g hg).1;omega
  ·have:=N g hg;omega
  ·rcases chh b hb with e|e
   ·rw[e];exact .inl M
   ·exact .inr (S.trans e)
 |whole _ hse cN cL chh=>
  have J:zj5 X b=zal X ((25+b:Nat):Int):=by
   rw[zj5,cL,K,ze9,zh9 (t:=zdv j.sealed) d,zea,L];rfl
  have Q:j.now.seq=j.last+2:=by
   rcases O with⟨hz,_⟩|⟨_,q4,_⟩
   ·rw[hz]at hse;have:(0:Int)=j.last+1:=hse;omega
   ·exact q4
  rw[cN,J,F,chh b hb];refine zsa (fun g hg=>?_) (fun g hg=>?_) (.inl fun c hc=>?_)
  ·have:=E g hg;omega
  ·rcases List.mem_append.1 hg with hg|hg
   ·have:=(I g hg).1;omega
   ·have:=N g hg;omega
  ·rw[←S]
   cases B with
   |nil=>exact M c hc
   |cons g B=>
    simp only[List.cons_append,List.head?_cons,Option.some.injEq]at hc;subst hc;rfl
end
def zka (G:Nat→List (Int×ByteArray))(was:Bool)(a:Ac)(r:Rp)(seq:Int)(down:Bool):Nat→List (Int×ByteArray):=
 if r.code=0 then
  if a.kind=2∨a.kind=4 then fun x=>if(x:Int)=a.b then[] else G x
  else if a.kind=3 then fun x=>if(x:Int)=a.b then(seq,fitT a.text)::G x else G x
  else if a.kind=8∧was=true∧down=false then fun _=>[]
  else G
 else G
structure OrI (j:Jn)(D:Dk)(G:Nat→List (Int×ByteArray))(dn:Bool):Prop where
 md:Md j D
 a0:0≤j.acts
 a1:j.acts≤400
 dn:dn=j.down
 up:j.down=false→∀b:Nat,b<12→RB j b∧OrdB j D b (G b)
 off:j.down=true→∀b:Nat,b<12→zun (fndN D - 1) (zj5 D b) false (G b)=false
structure OrOk (G:Nat→List (Int×ByteArray))(was:Bool)(a:Ac)(r:Rp)(j':Jn):Prop where
 on:r.code=0→a.kind=8→was=true→j'.down=false→∀b:Nat,b<12→zun j'.last (zal j'.disk ((25+b:Nat):Int)) false (G b)=false
 at':r.code=0→a.kind=2∨a.kind=3∨a.kind=4→0≤a.b∧a.b<12
theorem OrI.do{j:Jn}{D:Dk}{G:Nat→List (Int×ByteArray)}{dn:Bool}(h:OrI j D G dn)(a:Ac):
  (∃D',OrI (doJ j a).1 D' (zka G dn a (doJ j a).2 (doJ j a).1.now.seq (doJ j a).1.down) (doJ j a).1.down)∧OrOk G dn a (doJ j a).2 (doJ j a).1:=by
 obtain⟨D',F,E,I,e⟩:=z6b h.md a h.a0 h.a1;have L:=h.md.last0;generalize (doJ j a).1=j' at *;generalize (doJ j a).2=r at *;have C:=fun A=>h.md.behind' A;have B:j.down=false→(r.code=0→a.kind=2∨a.kind=3∨a.kind=4→0≤a.b∧a.b<12)→OrOk G dn a r j':=fun A ha=>⟨(fun _ _ hk=>by rw[h.dn,A]at hk;cases hk),ha⟩
 cases e with
 |calm hd hD all hk h8 h9=>
  have N:zka G dn a r j'.now.seq j'.down=G:=by
   unfold zka;split
   ·rename_i M;obtain⟨k2,O,k4,k6,_⟩:=hk M;rw[if_neg (by omega),if_neg O,if_neg];rintro⟨_,J,K⟩;rw[h.dn]at J;rw[hd,J]at K;cases K
   ·rfl
  refine⟨⟨D',?_⟩,⟨(fun _ _ J K=>by rw[h.dn]at J;rw[hd,J]at K;cases K),fun M hk2=>by have:=hk M;omega⟩⟩;rw[N];refine⟨F,E,I,rfl,fun hu' b hb=>?_,fun hd'=>?_⟩
  ·have A:=hd.symm.trans hu';obtain⟨u1,u2⟩:=h.up A b hb;exact⟨u1.ev (C A) (.keep (.same (all b hb))),u2.same (all b hb)⟩
  ·rw[hD];exact h.off (hd.symm.trans hd')
 |write b hb hab hk A hu' hc here others=>
  refine⟨⟨D',?_⟩,B A fun _ _=>by omega⟩;rw[zka,if_pos (by rw[hc];rfl),if_pos (.inl hk)];refine⟨F,E,I,rfl,fun _ x hx=>?_,fun hd=>by rw[hu']at hd;cases hd⟩;obtain⟨u1,u2⟩:=h.up A x hx;by_cases ex:x=b
  ·subst ex;rw[if_pos hab.symm];exact⟨u1.ev (C A) (.write _ here),OrdB.nil (by rw[here.hr];decide)⟩
  ·rw[if_neg (by omega)];exact⟨u1.ev (C A) (.keep (.same (others x hx ex))),u2.same (others x hx ex)⟩
 |fill b hb hab hk A hu' hc here others=>
  refine⟨⟨D',?_⟩,B A fun _ _=>by omega⟩;rw[zka,if_pos (by rw[hc];rfl),if_neg (by omega),if_pos hk];refine⟨F,E,I,rfl,fun _ x hx=>?_,fun hd=>by rw[hu']at hd;cases hd⟩;obtain⟨u1,u2⟩:=h.up A x hx;by_cases ex:x=b
  ·subst ex;rw[if_pos hab.symm];exact⟨u1.ev (C A) (.fill _ here),u2.fill u1 here⟩
  ·rw[if_neg (by omega)];exact⟨u1.ev (C A) (.keep (.same (others x hx ex))),u2.same (others x hx ex)⟩
 |revoke b hb hab hk A hu' hc here others=>
  refine⟨⟨D',?_⟩,B A fun _ _=>by omega⟩;rw[zka,if_pos (by rw[hc];rfl),if_pos (.inr hk)];refine⟨F,E,I,rfl,fun _ x hx=>?_,fun hd=>by rw[hu']at hd;cases hd⟩;obtain⟨u1,u2⟩:=h.up A x hx;by_cases ex:x=b
  ·subst ex;rw[if_pos hab.symm];exact⟨u1.ev (C A) (.revoke here),OrdB.nil (by rw[here.hr];decide)⟩
  ·rw[if_neg (by omega)];exact⟨u1.ev (C A) (.keep (.same (others x hx ex))),u2.same (others x hx ex)⟩
 |commit hk A hu' hc hn all=>
  refine⟨⟨D',?_⟩,B A fun _ _=>by omega⟩;rw[zka,if_pos hc,if_neg (by omega),if_neg (by omega),if_neg (by omega)];refine⟨F,E,I,rfl,fun _ x hx=>?_,fun hd=>by rw[hu']at hd;cases hd⟩;obtain⟨u1,u2⟩:=h.up A x hx;exact⟨u1.ev (C A) (.keep (.commit (all x))),u2.commit L (all x)⟩
 |through hk A hu' hc hn all=>
  refine⟨⟨D',?_⟩,B A fun _ _=>by omega⟩;rw[zka,if_pos hc,if_neg (by omega),if_neg (by omega),if_neg (by rintro⟨_,x,_⟩;rw[h.dn,A]at x;cases x)];refine⟨F,E,I,rfl,fun _ x hx=>?_,fun hd=>by rw[hu']at hd;cases hd⟩;obtain⟨u1,u2⟩:=h.up A x hx;exact⟨u1.ev (C A) (.keep (.through (all x hx))),u2.through (all x hx)⟩
 |home hk A hu' hc all=>
  refine⟨⟨D',?_⟩,B A fun _ _=>by omega⟩;rw[zka,if_pos (by rw[hc];rfl),if_neg (by omega),if_neg (by omega),if_neg (by rintro⟨_,x,_⟩;rw[h.dn,A]at x;cases x)];refine⟨F,E,I,rfl,fun _ x hx=>?_,fun hd=>by rw[hu']at hd;cases hd⟩;obtain⟨u1,u2⟩:=h.up A x hx;exact⟨u1.ev (C A) (.keep (.home (all x hx))),u2.home u1 L (all x hx)⟩
 |on hk hd hu' hc hl N hn hdn hr hf hdk hh=>
  refine⟨⟨D',?_⟩,⟨fun _ _ _ _ b hb=>?_,fun _ _=>by omega⟩⟩
  ·rw[zka,if_pos (by rw[hc];rfl),if_neg (by omega),if_neg (by omega),if_pos ⟨hk,by rw[h.dn];exact hd,hu'⟩];refine⟨F,E,I,rfl,fun _ x hx=>⟨RB.new N hn hdn (by rw[hr x];exact zr9 _ _),OrdB.nil (by rw[hr x];exact zr9 _ _)⟩,fun hd2=>by rw[hu']at hd2;cases hd2⟩
  ·rw[hl,hdk,hh b hb];exact h.off hd b hb
 |crash hk hu' hc hl left=>
  refine⟨⟨D',?_⟩,⟨fun _ h8=>by omega,fun _ _=>by omega⟩⟩;rw[zka,if_pos (by rw[hc];rfl),if_neg (by omega),if_neg (by omega),if_neg (by omega)];refine⟨F,E,I,rfl,(fun hu2=>by rw[hu']at hu2;cases hu2),fun _ b hb=>?_⟩;by_cases A:j.down=false
  ·obtain⟨u1,u2⟩:=h.up A b hb;exact u2.crash u1 hb h.md A left
  ·have hd:j.down=true:=by simpa using A
   cases left with
   |all cN cL ce cc=>rw[cN,ce b hb];exact h.off hd b hb
   |without hu2=>exact absurd hu2 A
   |whole hu2=>exact absurd hu2 A
open Go.Proofs.Tryz
def z5x (B:Nat)(b:Nat)(off:Nat)(k:Nat)(x:Ac)(r:Rp)(look:Value)(c:Nat)(l:List Ac):Nat→Value→World→Prop
 |0,v,_=>v=look
 |1,v,_=>v=.pointer (some ⟨B,0,none⟩)
 |2,v,_=>v=.slice (some ⟨b,off,none⟩) l.length c
 |3,v,_=>v=.int .i64 k
 |4,v,_=>v=.pointer (some ⟨b,off+k*5,none⟩)
 |5,v,_=>v=.agg #[.int .i64 x.kind,.int .i64 x.h,.int .i64 x.b,.int .i64 x.n,.string x.text]
 |6,v,_=>v=.agg #[.int .i64 r.code,.int .i64 r.n,.string r.text]
 |_,_,_=>True
theorem z1h(look:Value)(g:Nat)(lk:Value→Value→Value→Array Value)
  (hent:∀(o:Oper) (ρ:Operand→Value) (w:World) (x y z:Value) (ts:Array TypeId),o.op=Op.call {callee:=.value (.tmp 28),args:=#[.tmp 29,.tmp 33,.tmp 34],argTypes:=ts}→ρ (.tmp 28)=look→ρ (.tmp 29)=x→ρ (.tmp 33)=y→ρ (.tmp 34)=z→(execOp ρ o).run prog w=.ok (.enter g (lk x y z)) w)
  (a:Option Addr) (c:Nat) (l:List Ac) (w:World) (LX:List Nat) (hA:SegA (zau w LX) a l) (hlen:l.length≤maxLen) (hok:∀x∈l,OkA x) (hLX:∀x∈LX,x<w.heap.size)
  (S:Nat→List Nat→Nat→World→Prop) (hS0:∀W B,w.heap.size≤B→Below w.heap.size w W→JAt W B (B::LX) zwr→S B [] 0 W) (hSb:∀k W W' B Y,S B Y k W→w.heap.size≤B→w.heap.size≤W.heap.size→ButL [B] W.heap.size W W'→S B Y k W') (hSY:∀k W B Y,S B Y k W→∀y∈Y,y<W.heap.size)
  (hL:∀k W B Y,k<played l→w.heap.size≤B→S B Y k W→JAt W B (B::(Y++LX)) (jOf l (k+1))→(∀x∈(B::(Y++LX)),x<W.heap.size)→Calls prog g (lk (.pointer (some ⟨B,0,none⟩)) (.agg #[.int .i64 (l.getD k ac0).kind,.int .i64 (l.getD k ac0).h,.int .i64 (l.getD k ac0).b,.int .i64 (l.getD k ac0).n,.string (l.getD k ac0).text]) (.agg #[.int .i64 (rOf l k).code,.int .i64 (rOf l k).n,.string (rOf l k).text])) W fun e W'=>e=.returned (.bool true)∧(∃Y,S B Y (k+1) W'∧JAt W' B (B::(Y++LX)) (jOf l (k+1)))∧True∧ButL LX w.heap.size W W'∧W.heap.size≤W'.heap.size):
  Calls prog 21 #[.slice a l.length c,look] w fun e w'=>∃B,e=.returned (.tuple #[.pointer (some ⟨B,0,none⟩),.bool true])∧w.heap.size≤B∧(∃Y,S B Y (played l) w'∧JAt w' B (B::(Y++LX)) (jOf l (played l)))∧ButL LX w.heap.size w w':=by
 have HA:=zab hA;have E7:=zab hok;have B1:=zab hLX;have D7:=zab hS0;have B5:=zab hSb;have C4:=zab hSY;have HL:=zab hL;have D3:=zab hent;clear hA hok hLX hS0 hSb hSY hL hent;unfold maxLen at hlen;go_enter func21,ntmps21;go_wp2_with fail;refine(z1d _).mono ?_;rintro e w1 ⟨rfl,A⟩;have B2:=zab A;clear A;go_wp2_with fail;refine(zvj _).mono ?_;rintro e w2 ⟨B,rfl,G7,hJ,C5⟩;have X:w.heap.size≤w1.heap.size:=B2.o.size;have A7:=zab (hJ LX (fun x hx=>Nat.lt_of_lt_of_le (B1.o x hx) X));have A4:=zab (zae B2.o C5);have Q:w.heap.size≤B:=by omega
 have B8:Hid (∃Y,S B Y 0 w2∧JAt w2 B (B::(Y++LX)) zwr):=⟨[],D7.o w2 B Q A4.o A7.o,A7.o⟩;clear hJ C5;go_wp2
 go_loopw [7] (fun i wr=>∃k:Nat,k≤played l∧i=.int .i64 k∧Hid (∃Y,S B Y k wr∧JAt wr B (B::(Y++LX)) (jOf l k))∧Hid (ButL LX w.heap.size w wr)) (fun i _=>l.length - (intOf i).toNat)
 case atStart=>exact⟨0,Nat.zero_le _,rfl,by rw[zpt];exact B8,ButL.of_below A4.o⟩
 case round=>
  obtain⟨k,hk,rfl,C0,Z⟩:=hrel;obtain⟨Y,C9,B4⟩:=C0.o;have A1:=zab C9;have s:=zab B4;clear C9 B4 C0;clear A7 A4 B8 B2;have F3:played l=min l.length 150:=rfl;by_cases hkp:k<played l
  ·have N:k<l.length:=by omega
   have G9:k<150:=by omega
   have i1:(k:Int)<(l.length:Int):=by omega
   have i2:(k:Int)<150:=by omega
   have i0:(0:Int)≤(k:Int):=by omega
   obtain⟨b,K,rfl,hb,hc⟩:=(HA.o.ext (Ext.butL Z.o)).resolve_left (fun e=>by rw[e]at N;simp at N);obtain⟨x,hx⟩:∃x,x=l.getD k ac0:=⟨_,rfl⟩;have O:=hc k N;rw[←hx]at O;obtain⟨H0,e0⟩:=zbv O.1;have e1:=(zbv O.2.1).2;have e2:=(zbv O.2.2.1).2;have e3:=(zbv O.2.2.2.1).2;have e4:=(zbv O.2.2.2.2).2;have G0:=zab e0;have F1:=zab e1;have E8:=zab e2;have F9:=zab e3;have E5:=zab e4;have E1:b<wr.heap.size:=by rw[zbf]at hb;exact hb
   have G8:b<w.heap.size:=by
    rcases HA.o with e|⟨J,off2,he,C,_⟩
    ·rw[e]at N;simp at N
    ·cases he;rw[zbf]at C;exact C
   have HX:=zab hx;have C1:OkA x:=E7.o x (by rw[hx,List.getD,List.getElem?_eq_getElem N];exact List.getElem_mem N);have B7:=zab C1;have C3:w.heap.size≤wr.heap.size:=Z.o.size;clear hc O hx hb C1;go_wp2_with fail;refine(zmr B (B::(Y++LX)) (jOf l k) wr s.o (fun y hy=>?_) (zvm l k).ready x B7.o.n B7.o.text).mono ?_
   ·rcases List.mem_cons.1 hy with rfl|hy
    ·exact s.o.lt
    ·rcases List.mem_append.1 hy with hy|hy
     ·exact C4.o _ _ _ _ A1.o y hy
     ·have:=B1.o y hy;omega
   rintro e D ⟨rfl,A8,d⟩;have B6:(doJ (jOf l k) x).2=rOf l k:=by rw[rOf,HX.o]
   have B9:(doJ (jOf l k) x).1=jOf l (k+1):=by rw[zpu N,HX.o]
   rw[B9]at A8;rw[B6];obtain⟨r,hr⟩:∃r,r=rOf l k:=⟨_,rfl⟩;rw[←hr];rw[show vRp r=.agg #[.int .i64 r.code,.int .i64 r.n,.string r.text] from rfl];have F7:=zab hr;have G6:wr.heap.size≤D.heap.size:=d.size;have R:D.heap[b]?=wr.heap[b]?:=d.block b E1 (by simp;omega);have E4:=zab ((World.cell?_of_block R).trans G0.o);have E2:=zab ((World.cell?_of_block R).trans F1.o);have F5:=zab ((World.cell?_of_block R).trans E8.o);have E6:=zab ((World.cell?_of_block R).trans F9.o);have E3:=zab ((World.cell?_of_block R).trans E5.o);have D1:=zab (B5.o k wr D B Y A1.o Q C3 d);have D2:Hid (ButL LX w.heap.size w D):=Z.o.trans d C3 (by simp;omega);clear B6 B9 hr d R e0 e1 e2 e3 e4;go_wp2;rename_i KK A6;obtain⟨I,A2⟩:∃I,I=D.alloc (.cells #[.int .i64 r.code,.int .i64 r.n,.string r.text] 31):=⟨_,rfl⟩;rw[←A2];have F:Below D.heap.size D I:=by rw[A2];exact zaa _ _
   have A5:I.heap[D.heap.size]?=some (.cells #[.int .i64 r.code,.int .i64 r.n,.string r.text] 31 (0,0)):=by rw[A2];exact heap_alloc_new _ _
   have Q0:Hid (I.cell? ⟨D.heap.size,0,none⟩=some (.int .i64 r.code)):=(cell_of_row I _ 0 _ _ _ A5).trans rfl;have Q1:Hid (I.cell? ⟨D.heap.size,1,none⟩=some (.int .i64 r.n)):=(cell_of_row I _ 1 _ _ _ A5).trans rfl;have Q2:Hid (I.cell? ⟨D.heap.size,2,none⟩=some (.string r.text)):=(cell_of_row I _ 2 _ _ _ A5).trans rfl;have P0:=zab (zac F (show b<D.heap.size by omega) E4.o);have P1:=zab (zac F (show b<D.heap.size by omega) E2.o);have P2:=zab (zac F (show b<D.heap.size by omega) F5.o);have P3:=zab (zac F (show b<D.heap.size by omega) E6.o);have P4:=zab (zac F (show b<D.heap.size by omega) E3.o);have X:I.heap.size=D.heap.size+1:=by rw[A2];simp
   have A9:D.heap.size<I.heap.size:=by omega
   have D4:b<I.heap.size:=by omega
   have F8:Hid (∀W,Below I.heap.size I W→Calls prog g (lk (.pointer (some ⟨B,0,none⟩)) (.agg #[.int .i64 x.kind,.int .i64 x.h,.int .i64 x.b,.int .i64 x.n,.string x.text]) (.agg #[.int .i64 r.code,.int .i64 r.n,.string r.text])) W fun e W'=>e=.returned (.bool true)∧(∃Y,S B Y (k+1) W'∧JAt W' B (B::(Y++LX)) (jOf l (k+1)))∧True∧ButL LX w.heap.size w W'∧W.heap.size≤W'.heap.size):=by
    intro W E;have u:=zae F E
    have h1:=HL.o k W B Y hkp Q (B5.o k D W B Y D1.o Q (by omega) (ButL.of_below u)) (A8.below u) (fun y hy=>by
     have h2:=u.size;rcases List.mem_cons.1 hy with rfl|hy
     ·have:=A8.lt;omega
     ·rcases List.mem_append.1 hy with hy|hy
      ·have:=C4.o _ _ _ _ D1.o y hy;omega
      ·have:=B1.o y hy;omega)
    rw[←HX.o,←F7.o]at h1;refine h1.mono ?_;rintro e W' ⟨h3,h4,h5,h6,h7⟩;exact⟨h3,h4,h5,(D2.o.trans (Y:=[]) (ButL.of_below u) (by omega) (by simp)).trans h6 (Nat.le_refl _) (by intro y hy;exact .inl hy),h7⟩
   have F:=D4
   have A3:∀(g:Nat→Value) (W':World),(∃Y,S B Y (k+1) W'∧JAt W' B (B::(Y++LX)) (jOf l (k+1)))→True→ButL LX w.heap.size w W'→True→KK ⟨#[.slice (some ⟨b,K,none⟩) l.length c,look,undef,undef,g 4,g 5,.pointer (some ⟨B,0,none⟩),.int .i64 (k:Int),g 8,.bool true,.bool false,.pointer (some ⟨B,0,none⟩),g 12,g 13,g 14,g 15,g 16,g 17,g 18,g 19,g 20,g 21,g 22,g 23,g 24,g 25,g 26,g 27,g 28,g 29,g 30,g 31,g 32,g 33,g 34,g 35,.bool false,g 37,undef],[]⟩ W':=by
    intro g W' C7 F6 C2 _;apply A6;clear A6;have G1:=zab C7;clear F6;have F0:=zab C2;clear C7 C2;go_wp2
    go_roundw
    case rel=>exact⟨k+1,by omega,by go_num,G1,F0⟩
    case measure=>first|(simp[intOf];omega)|simp[intOf]
   have B3:=zab A3;clear A3 A6;refine(show∀A0:Act,A0=_→Code.wp prog _ _ A0 _ from fun A0 hA0=>?_) _ rfl;have M:A0.tmps.size=39:=by rw[hA0];rfl
   have G4:A0.defers=[]:=by rw[hA0]
   have v0:A0.eval (.tmp 0)=.slice (some ⟨b,K,none⟩) l.length c:=by rw[hA0];rfl
   have v1:A0.eval (.tmp 1)=look:=by rw[hA0];rfl
   have v2:A0.eval (.tmp 2)=undef:=by rw[hA0];rfl
   have v3:A0.eval (.tmp 3)=undef:=by rw[hA0];rfl
   have v6:A0.eval (.tmp 6)=.pointer (some ⟨B,0,none⟩):=by rw[hA0];rfl
   have v7:A0.eval (.tmp 7)=.int .i64 (k:Int):=by rw[hA0];rfl
   have v9:A0.eval (.tmp 9)=.bool true:=by rw[hA0];rfl
   have E0:A0.eval (.tmp 10)=.bool false:=by rw[hA0];rfl
   have F4:A0.eval (.tmp 11)=.pointer (some ⟨B,0,none⟩):=by rw[hA0];rfl
   have G2:A0.eval (.tmp 38)=undef:=by rw[hA0];rfl
   have v8:A0.eval (.tmp 8)=.pointer (some ⟨D.heap.size,0,none⟩):=by rw[hA0];rfl
   clear hA0;refine zbi 7 (fun w'=>Below I.heap.size I w') [28,29,30,31,32,33,34] (z5x B b K k x r look c l) (by kernel_rfl) (by kernel_rfl) (by kernel_rfl) (by kernel_rfl) (by decide) ((Below.refl _ _).drew) ⟨?_,?_,?_,?_,?_,?_,?_,trivial⟩ ?_
   ·exact zbg v1 M (fun _=>rfl) fun ρ w' E z=>by simp only[execOp];go_simp
   ·exact zbg v6 M (fun _=>rfl) fun ρ w' E z=>by simp only[execOp];go_simp
   ·exact zbg v0 M (fun _=>rfl) fun ρ w' E z=>by simp only[execOp];go_simp
   ·exact zbg v7 M (fun _=>rfl) fun ρ w' E z=>by simp only[execOp];go_simp
   ·intro a w' L E j;have p30:a.eval (.tmp 30)=.slice (some ⟨b,K,none⟩) l.length c:=j ⟨2,.data⟩ (by simp) rfl;have p31:a.eval (.tmp 31)=.int .i64 k:=j ⟨3,.data⟩ (by simp) rfl;exact zgo _ rfl rfl (by revert p30 p31;generalize a.eval=ρ;intro p30 p31;simp only[execOp];go_simp) L M E rfl
   ·exact zam 4 32 M (fun _ _ h=>h) (fun _=>rfl) fun ρ w' E p=>by have c0:w'.cell? ⟨b,K+k*5,none⟩=some (.int .i64 x.kind):=zac E F (P0.o);have c1:w'.cell? ⟨b,K+k*5+1,none⟩=some (.int .i64 x.h):=zac E F (P1.o);have c2:w'.cell? ⟨b,K+k*5+2,none⟩=some (.int .i64 x.b):=zac E F (P2.o);have c3:w'.cell? ⟨b,K+k*5+3,none⟩=some (.int .i64 x.n):=zac E F (P3.o);have c4:w'.cell? ⟨b,K+k*5+4,none⟩=some (.string x.text):=zac E F (P4.o);simp only[execOp];go_simp
   ·exact zbg v8 M (fun _=>rfl) fun ρ w' E z=>by have c0:w'.cell? ⟨D.heap.size,0,none⟩=some (.int .i64 r.code):=zac E A9 (Q0.o);have c1:w'.cell? ⟨D.heap.size,1,none⟩=some (.int .i64 r.n):=zac E A9 (Q1.o);have c2:w'.cell? ⟨D.heap.size,2,none⟩=some (.string r.text):=zac E A9 (Q2.o);simp only[execOp];go_simp
   ·intro U W L E j;have p28:U.eval (.tmp 28)=look:=j 0 (by decide);have p29:U.eval (.tmp 29)=.pointer (some ⟨B,0,none⟩):=j 1 (by decide);have p33:U.eval (.tmp 33)=.agg #[.int .i64 x.kind,.int .i64 x.h,.int .i64 x.b,.int .i64 x.n,.string x.text]:=j 5 (by decide);have p34:U.eval (.tmp 34)=.agg #[.int .i64 r.code,.int .i64 r.n,.string r.text]:=j 6 (by decide);have C6:U.tmps.size=39:=L.size.trans M;show wpOps prog _ _ [7,8] U W;rw[wpOps_cons];refine zbp g (lk (.pointer (some ⟨B,0,none⟩)) (.agg #[.int .i64 x.kind,.int .i64 x.h,.int .i64 x.b,.int .i64 x.n,.string x.text]) (.agg #[.int .i64 r.code,.int .i64 r.n,.string r.text])) rfl rfl (D3.o _ U.eval W _ _ _ _ rfl p28 p29 p33 p34) _ (F8.o W E) ?_;rintro e w5 ⟨rfl,D9,D5,D6,_⟩;refine⟨_,rfl,?_⟩;obtain⟨q,A⟩:∃q,q=U.put (some 35) (.bool true):=⟨_,rfl⟩;have C8:q.eval (.tmp 35)=.bool true:=by rw[A];exact Act.eval_put_same _ _ _ (by rw[C6];decide)
    have X:q.tmps.size=39:=by rw[A,Act.size_put];exact C6
    show wpOps prog _ _ [8] (U.put (some 35) (.bool true)) w5;rw[←A,wpOps_cons];refine zar (.bool false) rfl rfl (by revert C8;generalize q.eval=ρ;intro C8;simp only[execOp];go_simp) ?_;obtain⟨J,C⟩:∃J,J=q.put (some 36) (.bool false):=⟨_,rfl⟩;have E9:J.eval (.tmp 36)=.bool false:=by rw[C];exact Act.eval_put_same _ _ _ (by rw[X];decide)
    have f0:J.eval (.tmp 0)=.slice (some ⟨b,K,none⟩) l.length c:=by rw[C,Act.eval_put_ne _ _ _ _ (by decide),A,Act.eval_put_ne _ _ _ _ (by decide)];exact(L.other 0 rfl).trans v0
    have f1:J.eval (.tmp 1)=look:=by rw[C,Act.eval_put_ne _ _ _ _ (by decide),A,Act.eval_put_ne _ _ _ _ (by decide)];exact(L.other 1 rfl).trans v1
    have f2:J.eval (.tmp 2)=undef:=by rw[C,Act.eval_put_ne _ _ _ _ (by decide),A,Act.eval_put_ne _ _ _ _ (by decide)];exact(L.other 2 rfl).trans v2
    have f3:J.eval (.tmp 3)=undef:=by rw[C,Act.eval_put_ne _ _ _ _ (by decide),A,Act.eval_put_ne _ _ _ _ (by decide)];exact(L.other 3 rfl).trans v3
    have f6:J.eval (.tmp 6)=.pointer (some ⟨B,0,none⟩):=by rw[C,Act.eval_put_ne _ _ _ _ (by decide),A,Act.eval_put_ne _ _ _ _ (by decide)];exact(L.other 6 rfl).trans v6
    have f7:J.eval (.tmp 7)=.int .i64 (k:Int):=by rw[C,Act.eval_put_ne _ _ _ _ (by decide),A,Act.eval_put_ne _ _ _ _ (by decide)];exact(L.other 7 rfl).trans v7
    have f9:J.eval (.tmp 9)=.bool true:=by rw[C,Act.eval_put_ne _ _ _ _ (by decide),A,Act.eval_put_ne _ _ _ _ (by decide)];exact(L.other 9 rfl).trans v9
    have G5:J.eval (.tmp 10)=.bool false:=by rw[C,Act.eval_put_ne _ _ _ _ (by decide),A,Act.eval_put_ne _ _ _ _ (by decide)];exact(L.other 10 rfl).trans E0
    have G3:J.eval (.tmp 11)=.pointer (some ⟨B,0,none⟩):=by rw[C,Act.eval_put_ne _ _ _ _ (by decide),A,Act.eval_put_ne _ _ _ _ (by decide)];exact(L.other 11 rfl).trans F4
    have F2:J.eval (.tmp 38)=undef:=by rw[C,Act.eval_put_ne _ _ _ _ (by decide),A,Act.eval_put_ne _ _ _ _ (by decide)];exact(L.other 38 rfl).trans G2
    have m:J=⟨#[_,_,_,_,_,_,_,_,_,_,_,_,_,_,_,_,_,_,_,_,_,_,_,_,_,_,_,_,_,_,_,_,_,_,_,_,_,_,_],[]⟩:=zcn J 39 (by rw[C,Act.size_put];exact X) (by rw[C,Act.defers_put',A,Act.defers_put'];exact L.defers.trans G4);dsimp only at m;rw[f0,f1,f2,f3,f6,f7,f9,G5,G3,E9,F2]at m;show KK (q.put (some 36) (.bool false)) _;rw[←C];exact(congrArg (fun y=>KK y _) m).mpr (B3.o (fun k=>J.eval (.tmp k)) _ D9 D5 D6 trivial)
  ·have D8:k=played l:=by omega
   subst D8;have B0:¬((played l:Int)<(l.length:Int))∨¬((played l:Int)<150):=by omega
   clear F3;rcases Classical.em ((played l:Int)<(l.length:Int)) with i1|i1
   ·have i2:¬((played l:Int)<150):=by omega
    clear B0;go_wp2;refine bodyPost_ret (results_tmp2 rfl _ _ _) rfl ⟨B,rfl,Q,⟨Y,A1.o,s.o⟩,Z.o⟩
   ·clear B0;go_wp2;refine bodyPost_ret (results_tmp2 rfl _ _ _) rfl ⟨B,rfl,Q,⟨Y,A1.o,s.o⟩,Z.o⟩
structure Bk where
 now:Int→Option ByteArray
 states:Int→Option (Int→Option ByteArray)
 sealed:Int
 told:Int
 down:Bool
def S0 (j:Jn)(D:Dk)(b:Nat)(s:ByteArray):Prop:=zai b j.now.data=none∧zai b j.sealed.data=none∧(j.role b≠1→j.last<j.freed b)∧At0 j.done D b s
def S1 (j:Jn)(D:Dk)(b:Nat)(s:ByteArray):Prop:=zai b j.now.data=none∧zai b j.sealed.data=none∧(j.role b≠1→j.last+1<j.freed b)∧(zai b j.sealed.info=some s∨(nmd j.sealed b∧At0 j.done D b s))
section
variable {j:Jn} {D:Dk} {j':Jn} {D':Dk} {b:Nat} {s:ByteArray}
end
structure BkI (j:Jn)(D:Dk)(k:Bk):Prop where
 md:Md j D
 a0:0≤j.acts
 a1:j.acts≤400
 dn:k.down=j.down
 told:k.told=j.last
 up:j.down=false→(∃s0,k.states j.last=some s0∧∀b:Nat,b<12→∀s,s0 b=some s→S0 j D b s)∧(j.sealed=zcv 0→k.sealed=j.last)∧
  (j.sealed.seq=j.last+1→k.sealed=j.last+1∧∃s1,k.states (j.last+1)=some s1∧∀b:Nat,b<12→∀s,s1 b=some s→S1 j D b s)∧∀b:Nat,b<12→RB j b∧∀s,k.now b=some s→MT j D b s
 off:j.down=true→j.last≤fndN D - 1∧fndN D - 1≤k.sealed∧∃st,k.states (fndN D - 1)=some st∧∀b:Nat,b<12→∀s,st b=some s→zj5 D b=s∧zcf (fndL D).reverse b=1
