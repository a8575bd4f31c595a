/-
  
-/
import Derived.Test.YtjnpndfpajjihacGreatGrTopMemory43
import Derived.Test.YtjnpndfpajjihacGreatGrTopMemory47
import Derived.Test.YtjnpndfpajjihacGreatXTellsP
import Derived.Test.YtjnpndfpajjihacGreatJRing
import Derived.Test.YtjnpndfpajjihacGreatJRunning
import Derived.Test.YtjnpndfpajjihacGreatJDisk
set_option maxRecDepth 100000
set_option maxHeartbeats 40000000
namespace Go.Proofs.YtjnpndfpajjihacGreat
open Go.RowKit
theorem DkFrom.lower {n m:Nat}{v:Value}(h:DkFrom n v)(hm:m≤n):DkFrom m v:=by
 obtain⟨a,l,c,a',l',c',rfl,h1,h2⟩:=h;exact⟨a,l,c,a',l',c',rfl,fun b o e=>Nat.le_trans hm (h1 b o e),fun b o e=>Nat.le_trans hm (h2 b o e)⟩
def okD (bs:Nat)(v0:Value)(d:Dk)(v:Value)(w:World):Prop:=IsDk w v d∧(v=v0∨DkFrom bs v)
theorem okD.below {bs:Nat}{v0:Value}{d:Dk}{v:Value}{w w':World}(h:okD bs v0 d v w)(hb:Below w.heap.size w w'):okD bs v0 d v w':=⟨h.1.below hb,h.2⟩
theorem okD.store {bs:Nat}{v0:Value}{d:Dk}{v:Value}{w:World}(h:okD bs v0 d v w){T:Nat}{a1:Option Addr}{n1 c1:Nat}{a2:Option Addr}{n2 c2:Nat}(hT:w.heap[T]?=some (.cells #[.slice a1 n1 c1,.slice a2 n2 c2] 46 (0,0)))(b1:Option Addr)(m1 k1:Nat)(b2:Option Addr)(m2 k2:Nat):okD bs v0 d v ((w.setCell ⟨T,0,none⟩ (.slice b1 m1 k1)).setCell ⟨T,1,none⟩ (.slice b2 m2 k2)):=
 ⟨(h.1.setBox hT 0 _).setBox (heap_setCell_same _ _ 0 _ _ (.slice b1 m1 k1) hT) 1 _,h.2⟩
def zhv (B:Nat)(bs:Nat)(j:Jn)(s:St)(da:Option Addr)(dc:Nat)(db:Option Addr)(dd:Nat)(tb:Nat)(tq:Nat)(tc:Nat)(n:Nat):Nat→Value→World→Prop
 |0,v,_=>v=.pointer (some ⟨B,0,none⟩)
 |1,v,_=>v=.pointer (some ⟨B,0,none⟩)
 |2,v,_=>v=.pointer (some ⟨B,1,none⟩)
 |3,v,_=>v=.agg #[.slice da j.disk.safe.length dc,.slice db j.disk.wr.length dd]
 |4,v,_=>v=.pointer (some ⟨B,0,none⟩)
 |5,v,_=>v=.pointer (some ⟨B,0,none⟩)
 |6,v,_=>v=.pointer (some ⟨B,56,none⟩)
 |7,v,_=>v=.slice (some ⟨tb,tq,none⟩) n tc
 |8,v,_=>v=.pointer (some ⟨tb,tq,none⟩)
 |9,v,_=>v=.agg #[.int .i64 s.1,.int .i64 s.2.1,.string s.2.2]
 |10,v,w=>∃v2,v=.tuple #[v2,.int .i64 (doneE j.disk s)]∧okD bs (.agg #[.slice da j.disk.safe.length dc,.slice db j.disk.wr.length dd]) (zbf j.disk s) v2 w
 |11,v,w=>∃v2,v=.tuple #[v2,.int .i64 (doneE j.disk s)]∧okD bs (.agg #[.slice da j.disk.safe.length dc,.slice db j.disk.wr.length dd]) (zbf j.disk s) v2 w
 |12,v,w=>okD bs (.agg #[.slice da j.disk.safe.length dc,.slice db j.disk.wr.length dd]) (zbf j.disk s) v w
 |13,v,_=>v=.int .i64 (doneE j.disk s)
 |14,v,w=>∃(T:Nat) (a1:Option Addr) (n1 c1:Nat) (a2:Option Addr) (n2 c2:Nat),v=.pointer (some ⟨T,0,none⟩)∧bs≤T∧w.heap[T]?=some (.cells #[.slice a1 n1 c1,.slice a2 n2 c2] 46 (0,0))
 |15,v,w=>∃(T:Nat) (e1:Option Addr) (e2:Nat) (e3:Option Addr) (e4:Nat),v=.pointer (some ⟨T,0,none⟩)∧bs≤T∧w.heap[T]?=some (.cells #[.slice e1 (zbf j.disk s).safe.length e2,.slice e3 (zbf j.disk s).wr.length e4] 46 (0,0))∧okD bs (.agg #[.slice da j.disk.safe.length dc,.slice db j.disk.wr.length dd]) (zbf j.disk s) (.agg #[.slice e1 (zbf j.disk s).safe.length e2,.slice e3 (zbf j.disk s).wr.length e4]) w
 |_,_,_=>True
theorem zkb {B:Nat}{bs:Nat}{j:Jn}{s:St}{da:Option Addr}{dc:Nat}{db:Option Addr}{dd:Nat}{tb:Nat}{tq:Nat}{tc:Nat}{n:Nat}{w w':World}(hb:Below w.heap.size w w'){i:Nat}:∀kk uu,kk≠i→zhv B bs j s da dc db dd tb tq tc n kk uu w→zhv B bs j s da dc db dd tb tq tc n kk uu w':=by
 intro kk uu _ h
 match kk,h with
 |0,h|1,h|2,h|3,h|4,h|5,h|6,h|7,h|8,h|9,h=>exact h
 |10,⟨v2,h1,h2⟩=>exact⟨v2,h1,h2.below hb⟩
 |11,⟨v2,h1,h2⟩=>exact⟨v2,h1,h2.below hb⟩
 |12,h=>exact h.below hb
 |13,h=>exact h
 |14,⟨T,a1,n1,c1,a2,n2,c2,h1,h2,h3⟩=>exact⟨T,a1,n1,c1,a2,n2,c2,h1,h2,zad hb (Array.getElem?_eq_some_iff.1 h3).1 h3⟩
 |15,⟨T,e1,e2,e3,e4,h1,h2,h3,h4⟩=>exact⟨T,e1,e2,e3,e4,h1,h2,zad hb (Array.getElem?_eq_some_iff.1 h3).1 h3,h4.below hb⟩
 |_+16,_=>exact trivial
theorem zre {B:Nat}{bs:Nat}{j:Jn}{s:St}{da:Option Addr}{dc:Nat}{db:Option Addr}{dd:Nat}{tb:Nat}{tq:Nat}{tc:Nat}{n:Nat}{w:World}{T:Nat}{a1:Option Addr}{n1 c1:Nat}{a2:Option Addr}{n2 c2:Nat}(hT:w.heap[T]?=some (.cells #[.slice a1 n1 c1,.slice a2 n2 c2] 46 (0,0)))(b1:Option Addr)(m1 k1:Nat)(b2:Option Addr)(m2 k2:Nat):∀kk x,kk≠15→zhv B bs j s da dc db dd tb tq tc n kk x w→zhv B bs j s da dc db dd tb tq tc n kk x ((w.setCell ⟨T,0,none⟩ (.slice b1 m1 k1)).setCell ⟨T,1,none⟩ (.slice b2 m2 k2)):=by
 intro kk x hk h
 match kk,h with
 |0,h|1,h|2,h|3,h|4,h|5,h|6,h|7,h|8,h|9,h=>exact h
 |10,⟨y,h1,h2⟩=>exact⟨y,h1,h2.store hT _ _ _ _ _ _⟩
 |11,⟨y,h1,h2⟩=>exact⟨y,h1,h2.store hT _ _ _ _ _ _⟩
 |12,h=>exact h.store hT _ _ _ _ _ _
 |13,h=>exact h
 |14,⟨T',u1,u2,u3,u4,u5,u6,h1,h2,h3⟩=>
  by_cases e:T'=T
  ·subst e;exact⟨T',_,_,_,_,_,_,h1,h2,zjd hT _ _⟩
  ·exact⟨T',u1,u2,u3,u4,u5,u6,h1,h2,(Below.heap_setCell _ _ _ _ e).trans ((Below.heap_setCell _ _ _ _ e).trans h3)⟩
 |15,_=>exact absurd rfl hk
 |_+16,_=>exact trivial
def zl5 (B:Nat)(j:Jn)(X:List Nat)(d2:Dk)(e1:Option Addr)(e2:Nat)(e3:Option Addr)(e4:Nat)(tb:Nat)(tq:Nat)(tc:Nat)(n:Nat)(r:List St):Nat→Value→World→Prop
 |0,v,_=>v=.pointer (some ⟨B,0,none⟩)
 |1,v,_=>v=.pointer (some ⟨B,0,none⟩)
 |2,v,_=>v=.agg #[.slice e1 d2.safe.length e2,.slice e3 d2.wr.length e4]
 |3,v,_=>v=.pointer (some ⟨B,0,none⟩)
 |4,v,_=>v=.pointer (some ⟨B,0,none⟩)
 |5,v,_=>v=.pointer (some ⟨B,56,none⟩)
 |6,v,_=>v=.slice (some ⟨tb,tq,none⟩) n tc
 |7,v,w=>∃c a2,v=.slice a2 r.length c∧r.length≤c∧SegSt (zar w X) a2 r
 |8,v,_=>v=.pointer (some ⟨B,0,none⟩)
 |9,v,_=>v=.pointer (some ⟨B,1,none⟩)
 |10,_,w=>JAt w B X {j with disk:=d2}
 |_,_,_=>True
theorem ztk {B:Nat}{j:Jn}{X:List Nat}{d2:Dk}{e1:Option Addr}{e2:Nat}{e3:Option Addr}{e4:Nat}{tb:Nat}{tq:Nat}{tc:Nat}{n:Nat}{r:List St}{w w':World}(hs:∀a l,SegSt (zar w X) a l→SegSt (zar w' X) a l):∀kk x,kk≠10→zl5 B j X d2 e1 e2 e3 e4 tb tq tc n r kk x w→zl5 B j X d2 e1 e2 e3 e4 tb tq tc n r kk x w':=by
 intro kk x hk h
 match kk,h with
 |0,h|1,h|2,h|3,h|4,h|5,h|6,h=>exact h
 |7,⟨c,a2,h1,h2,h3⟩=>exact⟨c,a2,h1,h2,hs _ _ h3⟩
 |8,h|9,h=>exact h
 |10,_=>exact absurd rfl hk
 |_+11,_=>exact trivial
theorem zzz (B:Nat)(X:List Nat)(j:Jn)(w:World)(h:JAt w B X j)(hX:∀x∈X,x<w.heap.size)(hn:j.done.length≤900)(hf:j.fL.length≤maxLen)(hq:IntKind.i64.wrap (j.fN - 1)=j.fN - 1):
  Calls Tryz.prog 44 #[.pointer (some ⟨B,0,none⟩)] w (zdc w B X (ziz j)):=by
 have HJ:=zaa h;have hlt:=h.lt;have hBX:=h.1;have HX:=zaa hX;have HN:=zaa hn;have HF:=zaa hf;have HQ:=zaa hq;clear h hX hn hf hq;have hne:¬w.heap.size=B:=by omega
 go_enter Tryz.func44,Tryz.ntmps44;go_wp2_with fail;obtain⟨W1,hW1⟩:∃W1,W1=w.alloc (.cells #[.int .i64 0,.int .i64 0,.string ⟨#[]⟩] 31):=⟨_,rfl⟩;have HJ1:Hid (JAt W1 B (w.heap.size::X) j):=by rw[hW1];exact HJ.o.more (zab _ _) (Nat.le_refl _)
 have HB1:Hid (ButL [B] w.heap.size w W1):=by rw[hW1];exact ButL.of_below (zab _ _)
 have KR:Hid (W1.heap[w.heap.size]?=some (.cells #[.int .i64 0,.int .i64 0,.string ⟨#[]⟩] 31 (0,0))):=by rw[hW1];exact heap_alloc_new _ _
 have hs1:W1.heap.size=w.heap.size+1:=by rw[hW1];simp
 have hrl:w.heap.size<W1.heap.size:=by omega
 have hrB:w.heap.size≠B:=by omega
 have HX2:Hid (∀x∈(w.heap.size::X),x<W1.heap.size):=fun x hx=>by
  rcases List.mem_cons.1 hx with rfl|hx
  ·exact hrl
  ·have:=HX.o x hx;omega
 rw[←hW1];clear hW1;refine(ze8 B (w.heap.size::X) j W1 HJ1.o).mono ?_;rintro e w' ⟨rfl,rfl⟩
 cases hst:j.steps with
 |nil=>
  have HE:Hid (ziz j=(j,zav 4)):=by rw[Hid,ziz,hst]
  have hs':decide (0<([]:List St).length)=false:=rfl;rw[hs'];clear hst hs';go_wp2_with fail;refine(zat 4 _).mono ?_;rintro e w2 ⟨rfl,hb2⟩;have KR2:=zaa (zad hb2 hrl KR.o);have HJ2:=zaa (HJ1.o.below hb2);have HB2:=zaa (HB1.o.trans (Y:=[]) (ButL.of_below hb2) HB1.o.size (by simp));clear hb2;obtain⟨⟨y0,y1,y2⟩,yf⟩:=zbj KR2.o;go_wp2;exact zbc HE.o KR2.o HJ2.o HB2.o hrB hBX fun W u0 u1 u2=>by simp[results,Tryz.results44,go_sem,u0,u1,u2]
 |cons s r=>
  have hs':decide (0<(s::r).length)=true:=by simp
  rw[hs'];clear hs';have HST:=zaa hst;obtain⟨_,da,dc,db,dd,na,nc,nb,nd,ne,nf,sa,sc,sb,sd,se,sf,ca,cc,fa,fc,ta,tc,h1,hr⟩:=id HJ1.o;have C1:Hid (w'.cell? ⟨B,1,none⟩=some (.slice da j.disk.safe.length dc)):=zaj h1 1;have C2:Hid (w'.cell? ⟨B,2,none⟩=some (.slice db j.disk.wr.length dd)):=zaj h1 2;obtain⟨n,hnd⟩:∃n,n=j.steps.length:=⟨_,rfl⟩;have hsg:=hr.2.2.2.2.2.1;have htc:=hr.2.2.2.2.2.2.2.1;rw[hst] at hsg;obtain⟨tb,tq,hta,htl,hcs⟩:=hsg.resolve_left (by simp);have C56:Hid (w'.cell? ⟨B,56,none⟩=some (.slice (some ⟨tb,tq,none⟩) n tc)):=by rw[Hid,hnd,←hta];exact zaj h1 56
  have hc0:=hcs 0 (by simp);simp only[Nat.zero_mul,Nat.add_zero,List.getD_cons_zero] at hc0;obtain⟨hnX,hc00⟩:=zbz hc0.1;have S0:=zaa hc00;have S1:=zaa (zbz hc0.2.1).2;have S2:=zaa (zbz hc0.2.2).2
  have HSR:Hid (SegSt (zar w' (w.heap.size::X)) (some ⟨tb,tq+3,none⟩) r):=.inr ⟨tb,tq+3,rfl,htl,fun i hi=>by
   have:=hcs (i+1) (by simp;omega);rw[show tq+(i+1)*3=tq+3+i*3 by omega] at this
   simpa using this⟩
  have hSW:tb<w'.heap.size:=by rw[zbk] at htl;exact htl
  have HNR:Hid (n - 1=r.length):=by rw[Hid,hnd,hst];simp
  have HN1:Hid (1≤n):=by rw[Hid,hnd,hst];simp
  have HNC:Hid (n≤tc):=by rw[Hid,hnd];exact htc
  have HDK:=zaa (hr.1.ext (Ext.seenL w' _));have HDX:=zaa hr.1;have hBW:B<w'.heap.size:=by omega
  clear h1 hr hsg htc hta htl hcs hc0 hc00 hnX hst hnd;have hn1:(1:Int)≤(n:Int):=by have:=HN1.o;omega
  go_wp2;rename_i KK hKK;obtain⟨W1,hWW⟩:∃W1,W1=w':=⟨_,rfl⟩;rw[←hWW];subst hWW
  have TAIL:∀(g:Nat→Value) (W3:World) (T:Nat) (e1:Option Addr) (e2:Nat) (e3:Option Addr) (e4:Nat),W1.heap.size≤T→W3.heap[T]?=some (.cells #[.slice e1 (zbf j.disk s).safe.length e2,.slice e3 (zbf j.disk s).wr.length e4] 46 (0,0))→okD W1.heap.size (.agg #[.slice da j.disk.safe.length dc,.slice db j.disk.wr.length dd]) (zbf j.disk s) (.agg #[.slice e1 (zbf j.disk s).safe.length e2,.slice e3 (zbf j.disk s).wr.length e4]) W3→Below W1.heap.size W1 W3→KK ⟨#[.pointer (some ⟨B,0,none⟩),g 1,.pointer (some ⟨w.heap.size,0,none⟩),.pointer (some ⟨T,0,none⟩),.int .i64 (doneE j.disk s),g 5,g 6,g 7,g 8,g 9,g 10,g 11,g 12,g 13,g 14,g 15,g 16,g 17,g 18,g 19,g 20,g 21,g 22,g 23,g 24,g 25,g 26,g 27,g 28,g 29,g 30,g 31,g 32,g 33,g 34,g 35,g 36,g 37,g 38,g 39,g 40,g 41,g 42,g 43],[]⟩ W3:=by
   intro g W3 T e1 e2 e3 e4 hT1 hTb ok hb3;apply hKK;clear hKK;have HJ3:=zaa (HJ1.o.below hb3);have HB3:Hid (ButL [B] w.heap.size w W3):=HB1.o.trans (Y:=[]) (ButL.of_below hb3) HB1.o.size (by simp);have KR3:=zaa (zad hb3 hrl KR.o);have hs3:W1.heap.size≤W3.heap.size:=hb3.size
   have HDH:Hid (IsDk (zar W3 (w.heap.size::X)) (.agg #[.slice e1 (zbf j.disk s).safe.length e2,.slice e3 (zbf j.disk s).wr.length e4]) (zbf j.disk s)):=by
    rcases ok.2 with e|hF
    ·have hd:=HDX.o.ext (Ext.freshL hb3)
     have hD1:=ok.1;rw[Hid,e];rw[e] at hD1;exact hd.asDisk hD1
    ·exact ok.1.hideF hF HX2.o
   have C563:=zaa (zac hb3 hBW C56.o);have HSR3:=zaa (HSR.o.ext (Ext.freshL hb3));have KT3:=zaa hTb;have hTW:T<W3.heap.size:=(Array.getElem?_eq_some_iff.1 hTb).1;have hTB:¬T=B:=by omega
   have hrl3:w.heap.size<W3.heap.size:=by omega
   clear hb3 hTb ok C1 C2 C56 S0 S1 S2 HSR HDK HDX HJ1 HB1 KR;obtain⟨d2,hd2⟩:∃d2,d2=(zbf j.disk s):=⟨_,rfl⟩;rw[←hd2] at HDH KT3;have HD2:=zaa hd2;clear hd2;by_cases he:doneE j.disk s=0
   ·have HE0:Hid (ziz j=if r=[] then zb6 ({j with disk:=d2,steps:=r}:Jn) else(({j with disk:=d2,steps:=r}:Jn),zav 0)):=by rw[Hid,ziz,HST.o];simp only[he,if_true,HD2.o]
    rw[he];clear he HD2;go_wp2;rename_i KK2 hKK2
    have TAIL2:∀(g:Nat→Value) (W6:World),JAt W6 B (w.heap.size::X) ({j with disk:=d2,steps:=r}:Jn)→ButL [B] W3.heap.size W3 W6→KK2 ⟨#[.pointer (some ⟨B,0,none⟩),g 1,.pointer (some ⟨w.heap.size,0,none⟩),g 3,g 4,g 5,g 6,g 7,g 8,g 9,g 10,g 11,g 12,g 13,g 14,g 15,g 16,g 17,g 18,g 19,g 20,g 21,g 22,g 23,g 24,g 25,g 26,g 27,g 28,g 29,g 30,g 31,g 32,g 33,g 34,g 35,g 36,g 37,g 38,g 39,g 40,g 41,g 42,g 43],[]⟩ W6:=by
     intro g W6 hJ7 hB7;apply hKK2;clear hKK2;have HJ1:=zaa hJ7;have HB1:Hid (ButL [B] w.heap.size w W6):=HB3.o.trans hB7 HB3.o.size (by simp);have KR:Hid (W6.heap[w.heap.size]?=some (.cells #[.int .i64 0,.int .i64 0,.string ⟨#[]⟩] 31 (0,0))):=(hB7.block _ (by omega) (by simpa using hrB)).trans KR3.o;have hs7:W3.heap.size≤W6.heap.size:=hB7.size;have hrl:w.heap.size<W6.heap.size:=by omega
     clear hJ7 hB7;go_wp2_with fail;refine(ze8 B (w.heap.size::X) ({j with disk:=d2,steps:=r}:Jn) W6 HJ1.o).mono ?_;rintro e w7 ⟨rfl,rfl⟩;by_cases hre:r=[]
     ·have HE1:Hid (ziz j=zb6 ({j with disk:=d2,steps:=r}:Jn)):=by rw[Hid,HE0.o,if_pos hre]
      have hdc:decide (0<(({j with disk:=d2,steps:=r}:Jn)).steps.length)=false:=by show decide (0<r.length)=false;rw[hre];rfl
      rw[hdc];clear hdc HE0;go_wp2_with fail;refine(zte B (w.heap.size::X) ({j with disk:=d2,steps:=r}:Jn) w7 HJ1.o (fun x hx=>by have:=HX2.o x hx;omega) HN.o HF.o HQ.o).mono ?_;rintro e w2 ⟨rfl,hJ2,hB2⟩;have KR2:Hid (w2.heap[w.heap.size]?=some (.cells #[.int .i64 0,.int .i64 0,.string ⟨#[]⟩] 31 (0,0))):=(hB2.block _ (by omega) (by simpa using hrB)).trans KR.o;have HJ2:=zaa hJ2;have HB2:Hid (ButL [B] w.heap.size w w2):=HB1.o.trans hB2 HB1.o.size (by simp);have hs2:w7.heap.size≤w2.heap.size:=hB2.size;clear hJ2 hB2;obtain⟨P,hP⟩:∃P,P=zb6 ({j with disk:=d2,steps:=r}:Jn):=⟨_,rfl⟩;rw[←hP] at HE1 HJ2⊢;have HE3:Hid (ziz j=(P.1,⟨P.2.code,P.2.n,P.2.text⟩)):=HE1.o;rw[show vRp P.2=.agg #[.int .i64 P.2.code,.int .i64 P.2.n,.string P.2.text] from rfl];clear hP HE1;obtain⟨⟨y0,y1,y2⟩,yf⟩:=zbj KR2.o;go_wp2;exact zbc HE3.o KR2.o HJ2.o HB2.o hrB hBX fun W u0 u1 u2=>by simp[results,Tryz.results44,go_sem,u0,u1,u2]
     ·have HE:Hid (ziz j=(({j with disk:=d2,steps:=r}:Jn),zav 0)):=by rw[Hid,HE0.o,if_neg hre]
      have hdc:decide (0<(({j with disk:=d2,steps:=r}:Jn)).steps.length)=true:=by show decide (0<r.length)=true;simpa[List.length_pos_iff] using hre
      rw[hdc];clear hdc HE0 hre;go_wp2_with fail;refine(zat 0 _).mono ?_;rintro e w2 ⟨rfl,hb2⟩;have KR2:=zaa (zad hb2 hrl KR.o);have HJ2:=zaa (HJ1.o.below hb2);have HB2:=zaa (HB1.o.trans (Y:=[]) (ButL.of_below hb2) HB1.o.size (by simp));clear hb2;obtain⟨⟨y0,y1,y2⟩,yf⟩:=zbj KR2.o;go_wp2;exact zbc HE.o KR2.o HJ2.o HB2.o hrB hBX fun W u0 u1 u2=>by simp[results,Tryz.results44,go_sem,u0,u1,u2]
    have HTAIL2:=zaa TAIL2;clear TAIL2 hKK2;have HSR:=HSR3;refine(show∀A0:Act,A0=_→Code.wp Tryz.prog _ _ A0 _ from fun A0 hA0=>?_) _ rfl;have hsz:A0.tmps.size=44:=by rw[hA0];rfl
    have hdf:A0.defers=[]:=by rw[hA0]
    have v0:A0.eval (.tmp 0)=.pointer (some ⟨B,0,none⟩):=by rw[hA0];rfl
    have v2:A0.eval (.tmp 2)=.pointer (some ⟨w.heap.size,0,none⟩):=by rw[hA0];rfl
    have v3:A0.eval (.tmp 3)=.pointer (some ⟨T,0,none⟩):=by rw[hA0];rfl
    clear hA0;refine zbe 11 (fun w'=>(∃d,JAt w' B (w.heap.size::X) {j with disk:=d})∧ButL [B] W3.heap.size W3 w'∧w'.cell? ⟨B,56,none⟩=some (.slice (some ⟨tb,tq,none⟩) n tc)) [27,28,29,30,31,32,33,34,35,36,36] (zl5 B j (w.heap.size::X) d2 e1 e2 e3 e4 tb tq tc n r) (by kernel_rfl) (by kernel_rfl) (by kernel_rfl) (by kernel_rfl) (by decide) (⟨⟨_,HJ3.o.below (Below.refl _ _).drew⟩,ButL.of_below (Below.refl _ _).drew,C563.o⟩) ⟨?_,?_,?_,?_,?_,?_,?_,?_,?_,?_,?_,trivial⟩ ?_
    ·intro a w' hF hR hp
     have z0:=(hF.other 0 rfl).trans v0;exact zak _ rfl rfl (by revert z0;generalize a.eval=ρ;intro z0;simp only[execOp];go_simp) hF hsz hR rfl
    ·intro a w' hF hR hp
     have z0:=(hF.other 0 rfl).trans v0;exact zak _ rfl rfl (by revert z0;generalize a.eval=ρ;intro z0;simp only[execOp];go_simp) hF hsz hR rfl
    ·intro a w' hF hR hp
     have z3:=(hF.other 3 rfl).trans v3;have c0:w'.cell? ⟨T,0,none⟩=some (.slice e1 d2.safe.length e2):=(zfl ((hR.2.1.block _ hTW (by simpa using hTB)).trans KT3.o)).1.1;have c1:w'.cell? ⟨T,1,none⟩=some (.slice e3 d2.wr.length e4):=(zfl ((hR.2.1.block _ hTW (by simpa using hTB)).trans KT3.o)).1.2;exact zak _ rfl rfl (by revert z3;generalize a.eval=ρ;intro z3;simp only[execOp];go_simp) hF hsz hR rfl
    ·intro a w' hF hR hp
     have z0:=(hF.other 0 rfl).trans v0;exact zak _ rfl rfl (by revert z0;generalize a.eval=ρ;intro z0;simp only[execOp];go_simp) hF hsz hR rfl
    ·intro a w' hF hR hp
     have p30:a.eval (.tmp 30)=.pointer (some ⟨B,0,none⟩):=hp ⟨3,.data⟩ (by simp) rfl;exact zak _ rfl rfl (by revert p30;generalize a.eval=ρ;intro p30;simp only[execOp];go_simp) hF hsz hR rfl
    ·intro a w' hF hR hp
     have p31:a.eval (.tmp 31)=.pointer (some ⟨B,0,none⟩):=hp ⟨4,.data⟩ (by simp) rfl;exact zak _ rfl rfl (by revert p31;generalize a.eval=ρ;intro p31;simp only[execOp];go_simp) hF hsz hR rfl
    ·intro a w' hF hR hp
     have p32:a.eval (.tmp 32)=.pointer (some ⟨B,56,none⟩):=hp ⟨5,.data⟩ (by simp) rfl;have c0:w'.cell? ⟨B,56,none⟩=some (.slice (some ⟨tb,tq,none⟩) n tc):=hR.2.2;exact zak _ rfl rfl (by revert p32;generalize a.eval=ρ;intro p32;simp only[execOp];go_simp) hF hsz hR rfl
    ·intro a w' hF hR hp
     have p33:a.eval (.tmp 33)=.slice (some ⟨tb,tq,none⟩) n tc:=hp ⟨6,.data⟩ (by simp) rfl;have hsg:=HSR.o.ext (Ext.butL (hR.2.1.wider (Y:=(w.heap.size::X)) (by simp[hBX])));have hn1:=HN1.o;have hnc:=HNC.o;by_cases htc:tc=1
     ·have hne1:n=1:=by omega
      refine zax (.slice (some ⟨tb,tq,none⟩) 0 0) rfl rfl (by have pc0:=Act.eval_const a (.int .i64 1);revert p33 pc0;generalize a.eval=ρ;intro p33 pc0;simp only[execOp];go_simp) ⟨_,rfl,hR,?_,fun _ _ _ h=>h⟩;show zl5 _ _ _ _ _ _ _ _ _ _ _ _ _ _ ((a.put (some 34) _).eval (.tmp 34)) w';rw[zap hF hsz (by decide)];have hr0:r.length=0:=by have:=HNR.o;omega
      exact⟨0,_,by rw[hr0],by omega,.inl (List.eq_nil_of_length_eq_zero hr0)⟩
     ·refine zax (.slice (some ⟨tb,tq+3,none⟩) (n - 1) (tc - 1)) rfl rfl (by have pc0:=Act.eval_const a (.int .i64 1);revert p33 pc0;generalize a.eval=ρ;intro p33 pc0;simp only[execOp];go_simp) ⟨_,rfl,hR,?_,fun _ _ _ h=>h⟩
      show zl5 _ _ _ _ _ _ _ _ _ _ _ _ _ _ ((a.put (some 34) _).eval (.tmp 34)) w';rw[zap hF hsz (by decide)];exact⟨tc - 1,_,by rw[HNR.o],by have:=HNR.o;omega,hsg⟩
    ·intro a w' hF hR hp
     have p27:a.eval (.tmp 27)=.pointer (some ⟨B,0,none⟩):=hp ⟨0,.data⟩ (by simp) rfl;exact zak _ rfl rfl (by revert p27;generalize a.eval=ρ;intro p27;simp only[execOp];go_simp) hF hsz hR rfl
    ·intro a w' hF hR hp
     have p35:a.eval (.tmp 35)=.pointer (some ⟨B,0,none⟩):=hp ⟨8,.data⟩ (by simp) rfl;exact zak _ rfl rfl (by revert p35;generalize a.eval=ρ;intro p35;simp only[execOp];go_simp) hF hsz hR rfl
    ·intro a w' hF hR hp
     have p36:a.eval (.tmp 36)=.pointer (some ⟨B,1,none⟩):=hp ⟨9,.data⟩ (by simp) rfl;have p29:a.eval (.tmp 29)=.agg #[.slice e1 d2.safe.length e2,.slice e3 d2.wr.length e4]:=hp ⟨2,.data⟩ (by simp) rfl;obtain⟨⟨d,hJd⟩,hBd,hcd⟩:=hR;obtain⟨_,kda,kdc,kdb,kdd,kna,knc,knb,knd,kne,knf,ksa,ksc,ksb,ksd,kse,ksf,kca,kcc,kfa,kfc,kta,ktc,k1,_⟩:=id hJd;obtain⟨x1,c1⟩:∃v,w'.cell? ⟨B,1,none⟩=some v:=⟨_,(zaj k1 1).trans rfl⟩;obtain⟨x2,c2⟩:∃v,w'.cell? ⟨B,2,none⟩=some v:=⟨_,(zaj k1 2).trans rfl⟩;have fc1:w'.frozen? ⟨B,1,none⟩=false:=frozen_of_row w' _ _ _ _ k1;have fc2:w'.frozen? ⟨B,2,none⟩=false:=frozen_of_row w' _ _ _ _ k1;clear k1;have hDs:=HDH.o.ext (Ext.butL (hBd.wider (Y:=(w.heap.size::X)) (by simp[hBX])));refine zco rfl rfl (w':=((w'.setCell ⟨B,1,none⟩ (.slice e1 d2.safe.length e2)).setCell ⟨B,2,none⟩ (.slice e3 d2.wr.length e4))) (by revert p36 p29;generalize a.eval=ρ;intro p36 p29;simp only[execOp];go_simp) ⟨_,rfl,⟨⟨_,hJd.putDisk hDs⟩,?_,?_⟩,?_,ztk (fun a l h=>(h.ext (Ext.setL (by simp[hBX]) 1 _)).ext (Ext.setL (by simp[hBX]) 2 _))⟩
     ·exact(hBd.set (.inl (by simp)) 1 _).set (.inl (by simp)) 2 _
     ·simp[go_sem,hcd]
     ·exact hJd.putDisk hDs
    ·intro a W hF hR hp
     have q28:a.eval (.tmp 28)=.pointer (some ⟨B,0,none⟩):=hp 1 (by decide);obtain⟨yc,ya,q34,hyc,hys⟩:∃c a2,a.eval (.tmp 34)=.slice a2 r.length c∧r.length≤c∧SegSt (zar W (w.heap.size::X)) a2 r:=hp 7 (by decide);have hJW:JAt W B (w.heap.size::X) {j with disk:=d2}:=hp 10 (by decide);obtain⟨_,kda,kdc,kdb,kdd,kna,knc,knb,knd,kne,knf,ksa,ksc,ksb,ksd,kse,ksf,kca,kcc,kfa,kfc,kta,ktc,k1,_⟩:=id hJW;obtain⟨x56,c56⟩:∃v,W.cell? ⟨B,56,none⟩=some v:=⟨_,(zaj k1 56).trans rfl⟩;have fc56:W.frozen? ⟨B,56,none⟩=false:=frozen_of_row W _ _ _ _ k1;clear k1;have hsa:a.tmps.size=44:=hF.size.trans hsz;show wpOps Tryz.prog _ _ [11,12,13] a W;rw[wpOps_cons];refine zax (.pointer (some ⟨B,0,none⟩)) rfl rfl (by revert q28;generalize a.eval=ρ;intro q28;simp only[execOp];go_simp) ?_;obtain⟨b1,hb1⟩:∃b1,b1=a.put (some 37) (.pointer (some ⟨B,0,none⟩)):=⟨_,rfl⟩;have r37:b1.eval (.tmp 37)=.pointer (some ⟨B,0,none⟩):=by rw[hb1];exact Act.eval_put_same _ _ _ (by rw[hsa];decide)
     have r34:b1.eval (.tmp 34)=.slice ya r.length yc:=by rw[hb1,Act.eval_put_ne _ _ _ _ (by decide)];exact q34
     show wpOps Tryz.prog _ _ [12,13] (a.put (some 37) (.pointer (some ⟨B,0,none⟩))) W;rw[←hb1,wpOps_cons];refine zax (.pointer (some ⟨B,56,none⟩)) rfl rfl (by revert r37;generalize b1.eval=ρ;intro r37;simp only[execOp];go_simp) ?_;obtain⟨b2,hb2⟩:∃b2,b2=b1.put (some 38) (.pointer (some ⟨B,56,none⟩)):=⟨_,rfl⟩;have hs1:b1.tmps.size=44:=by rw[hb1,Act.size_put];exact hsa
     have s38:b2.eval (.tmp 38)=.pointer (some ⟨B,56,none⟩):=by rw[hb2];exact Act.eval_put_same _ _ _ (by rw[hs1];decide)
     have s34:b2.eval (.tmp 34)=.slice ya r.length yc:=by rw[hb2,Act.eval_put_ne _ _ _ _ (by decide)];exact r34
     show wpOps Tryz.prog _ _ [13] (b1.put (some 38) (.pointer (some ⟨B,56,none⟩))) W;rw[←hb2,wpOps_cons];refine zco rfl rfl (w':=W.setCell ⟨B,56,none⟩ (.slice ya r.length yc)) (by revert s38 s34;generalize b2.eval=ρ;intro s38 s34;simp only[execOp];go_simp) ?_;have f0:b2.eval (.tmp 0)=.pointer (some ⟨B,0,none⟩):=by rw[hb2,Act.eval_put_ne _ _ _ _ (by decide),hb1,Act.eval_put_ne _ _ _ _ (by decide)];exact(hF.other 0 rfl).trans v0
     have f2:b2.eval (.tmp 2)=.pointer (some ⟨w.heap.size,0,none⟩):=by rw[hb2,Act.eval_put_ne _ _ _ _ (by decide),hb1,Act.eval_put_ne _ _ _ _ (by decide)];exact(hF.other 2 rfl).trans v2
     have hlit:b2=⟨#[_,_,_,_,_,_,_,_,_,_,_,_,_,_,_,_,_,_,_,_,_,_,_,_,_,_,_,_,_,_,_,_,_,_,_,_,_,_,_,_,_,_,_,_],[]⟩:=zcj b2 44 (by rw[hb2,Act.size_put];exact hs1) (by rw[hb2,Act.defers_put',hb1,Act.defers_put'];exact hF.defers.trans hdf);dsimp only at hlit;rw[f0,f2] at hlit;show KK2 b2 _;exact(congrArg (fun x=>KK2 x _) hlit).mpr (HTAIL2.o (fun k=>b2.eval (.tmp k)) _ (hJW.putSteps hys hyc) (hR.2.1.set (.inl (by simp)) 56 _))
   ·have HE:Hid (ziz j=(j,zav (doneE j.disk s))):=by rw[Hid,ziz,HST.o];simp only[he,if_false]
    have he':(doneE j.disk s !=0)=true:=by simpa using he
    clear he;generalize doneE j.disk s=E at *;have HJ1:=HJ3;have HB1:=HB3;have KR:=KR3;have hrl:=hrl3;go_wp2_with fail;refine(zat E _).mono ?_;rintro e w2 ⟨rfl,hb2⟩;have KR2:=zaa (zad hb2 hrl KR.o);have HJ2:=zaa (HJ1.o.below hb2);have HB2:=zaa (HB1.o.trans (Y:=[]) (ButL.of_below hb2) HB1.o.size (by simp));clear hb2;obtain⟨⟨y0,y1,y2⟩,yf⟩:=zbj KR2.o;go_wp2;exact zbc HE.o KR2.o HJ2.o HB2.o hrB hBX fun W u0 u1 u2=>by simp[results,Tryz.results44,go_sem,u0,u1,u2]
  have HTAIL:=zaa TAIL;clear TAIL hKK;refine(show∀A0:Act,A0=_→Code.wp Tryz.prog _ _ A0 _ from fun A0 hA0=>?_) _ rfl;have hsz:A0.tmps.size=44:=by rw[hA0];rfl
  have hdf:A0.defers=[]:=by rw[hA0]
  have v0:A0.eval (.tmp 0)=.pointer (some ⟨B,0,none⟩):=by rw[hA0];rfl
  have v2:A0.eval (.tmp 2)=.pointer (some ⟨w.heap.size,0,none⟩):=by rw[hA0];rfl
  clear hA0;refine zbe 16 (fun w'=>Below W1.heap.size W1 w') [10,11,12,13,14,15,16,17,18,19,20,9,21,22,3,3] (zhv B W1.heap.size j s da dc db dd tb tq tc n) (by kernel_rfl) (by kernel_rfl) (by kernel_rfl) (by kernel_rfl) (by decide) ((Below.refl _ _).drew) ⟨?_,?_,?_,?_,?_,?_,?_,?_,?_,?_,?_,?_,?_,?_,?_,?_,trivial⟩ ?_
  ·intro a w' hF hR hp
   have z0:=(hF.other 0 rfl).trans v0;exact zak _ rfl rfl (by revert z0;generalize a.eval=ρ;intro z0;simp only[execOp];go_simp) hF hsz hR rfl
  ·intro a w' hF hR hp
   have p10:a.eval (.tmp 10)=.pointer (some ⟨B,0,none⟩):=hp ⟨0,.data⟩ (by simp) rfl;exact zak _ rfl rfl (by revert p10;generalize a.eval=ρ;intro p10;simp only[execOp];go_simp) hF hsz hR rfl
  ·intro a w' hF hR hp
   have p11:a.eval (.tmp 11)=.pointer (some ⟨B,0,none⟩):=hp ⟨1,.data⟩ (by simp) rfl;exact zak _ rfl rfl (by revert p11;generalize a.eval=ρ;intro p11;simp only[execOp];go_simp) hF hsz hR rfl
  ·intro a w' hF hR hp
   have p12:a.eval (.tmp 12)=.pointer (some ⟨B,1,none⟩):=hp ⟨2,.data⟩ (by simp) rfl;have c0:w'.cell? ⟨B,1,none⟩=some (.slice da j.disk.safe.length dc):=zac hR hBW C1.o;have c1:w'.cell? ⟨B,2,none⟩=some (.slice db j.disk.wr.length dd):=zac hR hBW C2.o;exact zak _ rfl rfl (by revert p12;generalize a.eval=ρ;intro p12;simp only[execOp];go_simp) hF hsz hR rfl
  ·intro a w' hF hR hp
   have z0:=(hF.other 0 rfl).trans v0;exact zak _ rfl rfl (by revert z0;generalize a.eval=ρ;intro z0;simp only[execOp];go_simp) hF hsz hR rfl
  ·intro a w' hF hR hp
   have p14:a.eval (.tmp 14)=.pointer (some ⟨B,0,none⟩):=hp ⟨4,.data⟩ (by simp) rfl;exact zak _ rfl rfl (by revert p14;generalize a.eval=ρ;intro p14;simp only[execOp];go_simp) hF hsz hR rfl
  ·intro a w' hF hR hp
   have p15:a.eval (.tmp 15)=.pointer (some ⟨B,0,none⟩):=hp ⟨5,.data⟩ (by simp) rfl;exact zak _ rfl rfl (by revert p15;generalize a.eval=ρ;intro p15;simp only[execOp];go_simp) hF hsz hR rfl
  ·intro a w' hF hR hp
   have p16:a.eval (.tmp 16)=.pointer (some ⟨B,56,none⟩):=hp ⟨6,.data⟩ (by simp) rfl;have c0:w'.cell? ⟨B,56,none⟩=some (.slice (some ⟨tb,tq,none⟩) n tc):=zac hR hBW C56.o;exact zak _ rfl rfl (by revert p16;generalize a.eval=ρ;intro p16;simp only[execOp];go_simp) hF hsz hR rfl
  ·intro a w' hF hR hp
   have p17:a.eval (.tmp 17)=.slice (some ⟨tb,tq,none⟩) n tc:=hp ⟨7,.data⟩ (by simp) rfl;have hn0:¬n=0:=by have:=HN1.o;omega
   exact zak _ rfl rfl (by have pc0:=Act.eval_const a (.int .i64 0);revert p17 pc0;generalize a.eval=ρ;intro p17 pc0;simp only[execOp];go_simp) hF hsz hR rfl
  ·intro a w' hF hR hp
   have p18:a.eval (.tmp 18)=.pointer (some ⟨tb,tq,none⟩):=hp ⟨8,.data⟩ (by simp) rfl;have c0:w'.cell? ⟨tb,tq,none⟩=some (.int .i64 s.1):=zac hR hSW S0.o;have c1:w'.cell? ⟨tb,tq+1,none⟩=some (.int .i64 s.2.1):=zac hR hSW S1.o;have c2:w'.cell? ⟨tb,tq+2,none⟩=some (.string s.2.2):=zac hR hSW S2.o;exact zak _ rfl rfl (by revert p18;generalize a.eval=ρ;intro p18;simp only[execOp];go_simp) hF hsz hR rfl
  ·intro a w' hF hR hp
   have p13:a.eval (.tmp 13)=.agg #[.slice da j.disk.safe.length dc,.slice db j.disk.wr.length dd]:=hp ⟨3,.data⟩ (by simp) rfl;have p19:a.eval (.tmp 19)=.agg #[.int .i64 s.1,.int .i64 s.2.1,.string s.2.2]:=hp ⟨9,.data⟩ (by simp) rfl;refine zbu 73 #[.agg #[.slice da j.disk.safe.length dc,.slice db j.disk.wr.length dd],.agg #[.int .i64 s.1,.int .i64 s.2.1,.string s.2.2]] rfl rfl (by have pf:=Act.eval_func a 73;revert p13 p19 pf;generalize a.eval=ρ;intro p13 p19 pf;simp only[execOp];go_simp) _ (z1a (.agg #[.slice da j.disk.safe.length dc,.slice db j.disk.wr.length dd]) j.disk s _ (HDK.o.below hR)) ?_;rintro e w2 ⟨v2,rfl,hD2,hb2,hv2⟩;refine⟨_,rfl,_,rfl,zae hR hb2,?_,zkb hb2⟩;show zhv _ _ _ _ _ _ _ _ _ _ _ _ _ ((a.put (some 20) _).eval (.tmp 20)) w2;rw[zap hF hsz (by decide)];exact⟨v2,rfl,hD2,hv2.imp id (fun h=>h.lower hR.size)⟩
  ·intro a w' hF hR hp
   obtain⟨v2,pc,ok⟩:∃v2,a.eval (.tmp 20)=.tuple #[v2,.int .i64 (doneE j.disk s)]∧okD W1.heap.size (.agg #[.slice da j.disk.safe.length dc,.slice db j.disk.wr.length dd]) (zbf j.disk s) v2 w':=hp ⟨10,.data⟩ (by simp) rfl;refine zax (.tuple #[v2,.int .i64 (doneE j.disk s)]) rfl rfl (by revert pc;generalize a.eval=ρ;intro pc;simp only[execOp];go_simp) ⟨_,rfl,hR,?_,fun _ _ _ h=>h⟩;show zhv _ _ _ _ _ _ _ _ _ _ _ _ _ ((a.put (some 9) _).eval (.tmp 9)) w';rw[zap hF hsz (by decide)];exact⟨v2,rfl,ok⟩
  ·intro a w' hF hR hp
   obtain⟨v2,pm,ok⟩:∃v2,a.eval (.tmp 9)=.tuple #[v2,.int .i64 (doneE j.disk s)]∧okD W1.heap.size (.agg #[.slice da j.disk.safe.length dc,.slice db j.disk.wr.length dd]) (zbf j.disk s) v2 w':=hp ⟨11,.data⟩ (by simp) rfl;refine zax (v2) rfl rfl (by revert pm;generalize a.eval=ρ;intro pm;simp only[execOp];go_simp) ⟨_,rfl,hR,?_,fun _ _ _ h=>h⟩;show zhv _ _ _ _ _ _ _ _ _ _ _ _ _ ((a.put (some 21) _).eval (.tmp 21)) w';rw[zap hF hsz (by decide)];exact ok
  ·intro a w' hF hR hp
   obtain⟨v2,pm,ok⟩:∃v2,a.eval (.tmp 9)=.tuple #[v2,.int .i64 (doneE j.disk s)]∧okD W1.heap.size (.agg #[.slice da j.disk.safe.length dc,.slice db j.disk.wr.length dd]) (zbf j.disk s) v2 w':=hp ⟨11,.data⟩ (by simp) rfl;exact zak _ rfl rfl (by revert pm;generalize a.eval=ρ;intro pm;simp only[execOp];go_simp) hF hsz hR rfl
  ·intro a w' hF hR hp
   refine zfw (.pointer (some ⟨w'.heap.size,0,none⟩)) rfl rfl (w':=w'.alloc (.cells #[.slice none 0 0,.slice none 0 0] 46)) (by simp only[execOp];go_simp) ⟨_,rfl,hR.alloc hR.size _,?_,zkb (zab _ _)⟩;show zhv _ _ _ _ _ _ _ _ _ _ _ _ _ ((a.put (some 3) _).eval (.tmp 3)) _;rw[zap hF hsz (by decide)];exact⟨_,_,_,_,_,_,_,rfl,hR.size,heap_alloc_new _ _⟩
  ·intro a w' hF hR hp
   obtain⟨T,a1,n1,c1,a2,n2,c2,pT,hT1,hTb⟩:∃(T:Nat) (a1:Option Addr) (n1 c1:Nat) (a2:Option Addr) (n2 c2:Nat),a.eval (.tmp 3)=.pointer (some ⟨T,0,none⟩)∧W1.heap.size≤T∧w'.heap[T]?=some (.cells #[.slice a1 n1 c1,.slice a2 n2 c2] 46 (0,0)):=hp ⟨14,.data⟩ (by simp) rfl;have ok:okD W1.heap.size (.agg #[.slice da j.disk.safe.length dc,.slice db j.disk.wr.length dd]) (zbf j.disk s) (a.eval (.tmp 21)) w':=hp ⟨12,.data⟩ (by simp) rfl;obtain⟨e1,e2,e3,e4,hv,_⟩:=id ok.1;rw[hv] at ok;obtain⟨⟨t0,t1⟩,tf⟩:=zfl hTb;refine zco rfl rfl (w':=((w'.setCell ⟨T,0,none⟩ (.slice e1 (zbf j.disk s).safe.length e2)).setCell ⟨T,1,none⟩ (.slice e3 (zbf j.disk s).wr.length e4))) (by revert pT hv;generalize a.eval=ρ;intro pT hv;simp only[execOp];go_simp) ⟨_,rfl,?_,?_,zre hTb _ _ _ _ _ _⟩
   ·exact(hR.setCell (p:=⟨T,0,none⟩) hT1 _).setCell (p:=⟨T,1,none⟩) hT1 _
   ·show zhv _ _ _ _ _ _ _ _ _ _ _ _ _ (a.eval (.tmp 3)) _
    exact⟨T,e1,e2,e3,e4,pT,hT1,zjd hTb _ _,ok.store hTb _ _ _ _ _ _⟩
  ·intro a W hF hR hp
   obtain⟨T,e1,e2,e3,e4,pT,hT1,hTb,ok⟩:∃(T:Nat) (e1:Option Addr) (e2:Nat) (e3:Option Addr) (e4:Nat),a.eval (.tmp 3)=.pointer (some ⟨T,0,none⟩)∧W1.heap.size≤T∧W.heap[T]?=some (.cells #[.slice e1 (zbf j.disk s).safe.length e2,.slice e3 (zbf j.disk s).wr.length e4] 46 (0,0))∧okD W1.heap.size (.agg #[.slice da j.disk.safe.length dc,.slice db j.disk.wr.length dd]) (zbf j.disk s) (.agg #[.slice e1 (zbf j.disk s).safe.length e2,.slice e3 (zbf j.disk s).wr.length e4]) W:=hp 15 (by decide);have pE:a.eval (.tmp 22)=.int .i64 (doneE j.disk s):=hp 13 (by decide);show wpOps Tryz.prog _ _ [16] a W;rw[wpOps_cons];refine zax (.int .i64 (doneE j.disk s)) rfl rfl (by revert pE;generalize a.eval=ρ;intro pE;simp only[execOp];go_simp) ?_;have hsa:a.tmps.size=44:=hF.size.trans hsz;obtain⟨a2,ha2⟩:∃a2,a2=a.put (some 4) (.int .i64 (doneE j.disk s)):=⟨_,rfl⟩;have f4:a2.eval (.tmp 4)=.int .i64 (doneE j.disk s):=by rw[ha2];exact Act.eval_put_same _ _ _ (by rw[hsa];decide)
   have f0:a2.eval (.tmp 0)=.pointer (some ⟨B,0,none⟩):=by rw[ha2,Act.eval_put_ne _ _ _ _ (by decide)];exact(hF.other 0 rfl).trans v0
   have f2:a2.eval (.tmp 2)=.pointer (some ⟨w.heap.size,0,none⟩):=by rw[ha2,Act.eval_put_ne _ _ _ _ (by decide)];exact(hF.other 2 rfl).trans v2
   have f3:a2.eval (.tmp 3)=.pointer (some ⟨T,0,none⟩):=by rw[ha2,Act.eval_put_ne _ _ _ _ (by decide)];exact pT
   have hlit:a2=⟨#[_,_,_,_,_,_,_,_,_,_,_,_,_,_,_,_,_,_,_,_,_,_,_,_,_,_,_,_,_,_,_,_,_,_,_,_,_,_,_,_,_,_,_,_],[]⟩:=zcj a2 44 (by rw[ha2,Act.size_put];exact hsa) (by rw[ha2,Act.defers_put'];exact hF.defers.trans hdf);dsimp only at hlit;rw[f0,f2,f3,f4] at hlit;show KK (a.put (some 4) (.int .i64 (doneE j.disk s))) _;rw[←ha2];exact(congrArg (fun x=>KK x _) hlit).mpr (HTAIL.o (fun k=>a2.eval (.tmp k)) _ T e1 e2 e3 e4 hT1 hTb ok hR)
structure Ready (j:Jn):Prop where
 done:j.done.length≤900
 found:j.fL.length≤maxLen
 next:IntKind.i64.wrap (j.fN - 1)=j.fN - 1
 seq:IntKind.i64.wrap (j.now.seq+1)=j.now.seq+1
 last:IntKind.i64.wrap (j.last+1)=j.last+1
 info:j.now.info.length*24≤140737488355328
 data:j.now.data.length*24≤140737488355328
 few:j.down=true→j.steps=[]→∀t∈fndL j.disk,Few t
 used0:0≤j.ru
 used1:j.ru≤24
 acts0:0≤j.acts
 acts1:j.acts≤400
def znu (B:Nat)(D:Nat)(j:Jn)(X:List Nat)(na:Option Addr)(nc:Nat)(nb:Option Addr)(nd:Nat)(ne:Option Addr)(nf:Nat)(ah:Int)(an:Int):Nat→Value→World→Prop
 |0,v,_=>v=.pointer (some ⟨B,0,none⟩)
 |1,v,_=>v=.pointer (some ⟨B,0,none⟩)
 |2,v,_=>v=.pointer (some ⟨B,0,none⟩)
 |3,v,_=>v=.pointer (some ⟨B,31,none⟩)
 |4,v,_=>v=.agg #[.int .i64 j.now.seq,.slice na j.now.info.length nc,.slice nb j.now.data.length nd,.slice ne j.now.rev.length nf,.bool j.now.h0.on,.int .i64 j.now.h0.left,.bool j.now.h1.on,.int .i64 j.now.h1.left,.bool j.now.h2.on,.int .i64 j.now.h2.left]
 |5,v,_=>v=.pointer (some ⟨D,1,none⟩)
 |6,v,_=>v=.int .i64 ah
 |7,v,_=>v=.pointer (some ⟨D,3,none⟩)
 |8,v,_=>v=.int .i64 an
 |9,v,_=>v=.pointer (some ⟨B,0,none⟩)
 |10,v,_=>v=.pointer (some ⟨B,0,none⟩)
 |11,v,_=>v=.pointer (some ⟨B,3,none⟩)
 |12,v,_=>v=.agg #[.int .i64 j.rh,.int .i64 j.ru]
 |13,v,_=>v=.int .i64 (24 - j.ru)
 |14,v,w=>∃v2,v=.tuple #[v2,.int .i64 (zbb j.now ah an (24 - j.ru))]∧okTx X (zau j.now ah an (24 - j.ru)) v2 undef w
 |15,v,w=>okTx X (zau j.now ah an (24 - j.ru)) v undef w
 |16,v,_=>v=.int .i64 (zbb j.now ah an (24 - j.ru))
 |_,_,_=>True
theorem zkc {B:Nat}{D:Nat}{j:Jn}{X:List Nat}{na:Option Addr}{nc:Nat}{nb:Option Addr}{nd:Nat}{ne:Option Addr}{nf:Nat}{ah:Int}{an:Int}{w w':World}(hb:Below w.heap.size w w'){i:Nat}:∀kk uu,kk≠i→znu B D j X na nc nb nd ne nf ah an kk uu w→znu B D j X na nc nb nd ne nf ah an kk uu w':=by
 intro kk uu _ h
 match kk,h with
 |0,h|1,h|2,h|3,h|4,h|5,h|6,h|7,h|8,h|9,h|10,h|11,h|12,h|13,h=>exact h
 |14,⟨v2,h1,h2⟩=>exact⟨v2,h1,h2.below hb⟩
 |15,h=>exact h.below hb
 |16,h=>exact h
 |_+17,_=>exact trivial
def zl8 (B:Nat)(D:Nat)(j:Jn)(X:List Nat)(na:Option Addr)(nc:Nat)(nb:Option Addr)(nd:Nat)(ne:Option Addr)(nf:Nat)(ah:Int):Nat→Value→World→Prop
 |0,v,_=>v=.pointer (some ⟨B,0,none⟩)
 |1,v,_=>v=.pointer (some ⟨B,0,none⟩)
 |2,v,_=>v=.pointer (some ⟨B,0,none⟩)
 |3,v,_=>v=.pointer (some ⟨B,31,none⟩)
 |4,v,_=>v=.agg #[.int .i64 j.now.seq,.slice na j.now.info.length nc,.slice nb j.now.data.length nd,.slice ne j.now.rev.length nf,.bool j.now.h0.on,.int .i64 j.now.h0.left,.bool j.now.h1.on,.int .i64 j.now.h1.left,.bool j.now.h2.on,.int .i64 j.now.h2.left]
 |5,v,_=>v=.pointer (some ⟨D,1,none⟩)
 |6,v,_=>v=.int .i64 ah
 |7,v,w=>∃v2,v=.tuple #[v2,.int .i64 (zc4 j.now ah)]∧okTx X (zb3 j.now ah) v2 undef w
 |8,v,w=>okTx X (zb3 j.now ah) v undef w
 |9,v,_=>v=.int .i64 (zc4 j.now ah)
 |_,_,_=>True
theorem zo7 {B:Nat}{D:Nat}{j:Jn}{X:List Nat}{na:Option Addr}{nc:Nat}{nb:Option Addr}{nd:Nat}{ne:Option Addr}{nf:Nat}{ah:Int}{w w':World}(hb:Below w.heap.size w w'){i:Nat}:∀kk uu,kk≠i→zl8 B D j X na nc nb nd ne nf ah kk uu w→zl8 B D j X na nc nb nd ne nf ah kk uu w':=by
 intro kk uu _ h
 match kk,h with
 |0,h|1,h|2,h|3,h|4,h|5,h|6,h=>exact h
 |7,⟨v2,h1,h2⟩=>exact⟨v2,h1,h2.below hb⟩
 |8,h=>exact h.below hb
 |9,h=>exact h
 |_+10,_=>exact trivial
theorem zz5 (B:Nat)(X:List Nat)(j:Jn)(w:World)(h:JAt w B X j)(hX:∀x∈X,x<w.heap.size)(hK:Ready j)(ah ab an:Int)(at0:ByteArray)(ht:at0.size≤maxLen):
  Calls Tryz.prog 47 #[.pointer (some ⟨B,0,none⟩),.agg #[.int .i64 1,.int .i64 ah,.int .i64 ab,.int .i64 an,.string at0]] w (zdc w B X (za4 j ⟨1,ah,ab,an,at0⟩)):=by
 have HJ:=zaa h;have hlt:=h.lt;have hBX:=h.1;have HX:=zaa hX;have HU0:=zaa hK.used0;have HU1:=zaa hK.used1;have HR1:=zaa hK.info;have HR2:=zaa hK.data;have HSQ:=zaa hK.seq;have HLQ:=zaa hK.last;have HTX:=zaa ht;have HDN:Hid (j.done.length≤maxLen):=Nat.le_trans hK.done (by unfold maxLen;omega);clear h hX hK ht;have hne:¬w.heap.size=B:=by omega
 have hne1:¬w.heap.size+1=B:=by omega
 have HE0:Hid (za4 j ⟨1,ah,ab,an,at0⟩=zmh j (zau j.now ah an (24 - j.ru)) (zbb j.now ah an (24 - j.ru))):=by rw[Hid,za4];simp[]
 obtain⟨P,hPP⟩:∃P,P=zmh j (zau j.now ah an (24 - j.ru)) (zbb j.now ah an (24 - j.ru)):=⟨_,rfl⟩;have HE:Hid (za4 j ⟨1,ah,ab,an,at0⟩=(P.1,P.2)):=by rw[Hid,HE0.o,←hPP]
 have HPP:=zaa hPP;clear hPP;go_enter Tryz.func47,Tryz.ntmps47;go_wp2;obtain⟨W1,hW1⟩:∃W1,W1=(w.alloc (.cells #[.int .i64 1,.int .i64 ah,.int .i64 ab,.int .i64 an,.string at0] 23)).alloc (.cells #[.int .i64 0,.int .i64 0,.string ⟨#[]⟩] 31):=⟨_,rfl⟩;have hz1:(w.alloc (.cells #[.int .i64 1,.int .i64 ah,.int .i64 ab,.int .i64 an,.string at0] 23)).heap.size=w.heap.size+1:=by simp
 have hbW:Below w.heap.size w W1:=by rw[hW1];exact zae (zab _ _) (zab _ _)
 have HJ1:Hid (JAt W1 B ((w.heap.size+1)::X) j):=HJ.o.more hbW (by omega);have HB1:Hid (ButL [B] w.heap.size w W1):=ButL.of_below hbW;have KR:Hid (W1.heap[w.heap.size+1]?=some (.cells #[.int .i64 0,.int .i64 0,.string ⟨#[]⟩] 31 (0,0))):=by rw[hW1,←hz1];exact heap_alloc_new _ _
 have KA:Hid (W1.heap[w.heap.size]?=some (.cells #[.int .i64 1,.int .i64 ah,.int .i64 ab,.int .i64 an,.string at0] 23 (0,0))):=by rw[hW1];exact zad (zab _ _) (by omega) (heap_alloc_new _ _)
 have hs1:W1.heap.size=w.heap.size+2:=by rw[hW1];simp
 have hrl:w.heap.size+1<W1.heap.size:=by omega
 have hrB:w.heap.size+1≠B:=by omega
 have HX2:Hid (∀x∈((w.heap.size+1)::X),x<W1.heap.size):=fun x hx=>by
  rcases List.mem_cons.1 hx with rfl|hx
  ·exact hrl
  ·have:=HX.o x hx;omega
 rw[←hW1];clear hW1 hz1;rename_i KK hKK;obtain⟨_,da,dc,db,dd,na,nc,nb,nd,ne,nf,sa,sc,sb,sd,se,sf,ca,cc,fa,fc,ta,tc,h1,hr⟩:=id HJ1.o;have C3:Hid (W1.cell? ⟨B,3,none⟩=some (.int .i64 j.rh)):=zaj h1 3;have C4:Hid (W1.cell? ⟨B,4,none⟩=some (.int .i64 j.ru)):=zaj h1 4;have C31:Hid (W1.cell? ⟨B,31,none⟩=some (.int .i64 j.now.seq)):=zaj h1 31;have C32:Hid (W1.cell? ⟨B,32,none⟩=some (.slice na j.now.info.length nc)):=zaj h1 32;have C33:Hid (W1.cell? ⟨B,33,none⟩=some (.slice nb j.now.data.length nd)):=zaj h1 33;have C34:Hid (W1.cell? ⟨B,34,none⟩=some (.slice ne j.now.rev.length nf)):=zaj h1 34;have C35:Hid (W1.cell? ⟨B,35,none⟩=some (.bool j.now.h0.on)):=zaj h1 35;have C36:Hid (W1.cell? ⟨B,36,none⟩=some (.int .i64 j.now.h0.left)):=zaj h1 36;have C37:Hid (W1.cell? ⟨B,37,none⟩=some (.bool j.now.h1.on)):=zaj h1 37;have C38:Hid (W1.cell? ⟨B,38,none⟩=some (.int .i64 j.now.h1.left)):=zaj h1 38;have C39:Hid (W1.cell? ⟨B,39,none⟩=some (.bool j.now.h2.on)):=zaj h1 39;have C40:Hid (W1.cell? ⟨B,40,none⟩=some (.int .i64 j.now.h2.left)):=zaj h1 40;have HTN:Hid (IsTx (zar W1 ((w.heap.size+1)::X)) (.agg #[.int .i64 j.now.seq,.slice na j.now.info.length nc,.slice nb j.now.data.length nd,.slice ne j.now.rev.length nf,.bool j.now.h0.on,.int .i64 j.now.h0.left,.bool j.now.h1.on,.int .i64 j.now.h1.left,.bool j.now.h2.on,.int .i64 j.now.h2.left]) j.now):=hr.2.1;have HRN:=zaa hr.2.2.2.2.2.2.1;clear h1 hr;obtain⟨⟨z0,z1,z2,z3,z4⟩,_⟩:=zie KA.o;have A1:=zaa z1;have A3:=zaa z3;clear z0 z1 z2 z3 z4;have hBW:B<W1.heap.size:=by omega
 have hAW:w.heap.size<W1.heap.size:=by omega
 have TAIL:∀(g:Nat→Value) (W3 w5:World),zmh j (zau j.now ah an (24 - j.ru)) (zbb j.now ah an (24 - j.ru))=P→W3=(((w5.setCell ⟨(w.heap.size+1),0,none⟩ (.int .i64 P.2.code)).setCell ⟨(w.heap.size+1),1,none⟩ (.int .i64 P.2.n)).setCell ⟨(w.heap.size+1),2,none⟩ (.string P.2.text))→w5.heap[w.heap.size+1]?=some (.cells #[.int .i64 0,.int .i64 0,.string ⟨#[]⟩] 31 (0,0))→JAt w5 B ((w.heap.size+1)::X) P.1→ButL [B] w.heap.size w w5→KK ⟨#[.pointer (some ⟨B,0,none⟩),g 1,g 2,.pointer (some ⟨w.heap.size,0,none⟩),.pointer (some ⟨w.heap.size+1,0,none⟩),g 5,g 6,g 7,g 8,g 9,g 10,g 11,g 12,g 13,g 14,g 15,g 16,g 17,g 18,g 19,g 20,g 21,g 22,g 23,g 24,g 25,g 26,g 27,g 28,g 29,g 30,g 31,g 32,g 33,g 34,g 35,g 36,g 37,g 38,g 39,g 40,g 41,g 42,g 43,g 44,g 45,g 46,g 47,g 48,g 49,g 50,g 51,g 52,g 53,g 54,g 55,g 56,g 57,g 58,g 59,g 60,g 61,g 62,g 63,g 64,g 65,g 66],[]⟩ W3:=by
  intro g W3 w5 _ hW KR5 hJ5 hB5;apply hKK;clear hKK;have hX:=zfs KR5 (.int .i64 P.2.code) (.int .i64 P.2.n) (.string P.2.text);rw[←hW] at hX;obtain⟨⟨u0,u1,u2⟩,_⟩:=zbj hX;have HW:=zaa hW;clear hW hX;go_wp2;refine bodyPost_ret (v:=.agg #[.int .i64 P.2.code,.int .i64 P.2.n,.string P.2.text]) (by simp[results,Tryz.results47,go_sem,u0,u1,u2]) rfl ⟨by rw[HE.o];rfl,?_,?_⟩
  ·rw[HE.o,HW.o]
   exact zwb hJ5 hrB hBX _ _ _
  ·rw[HW.o]
   exact((hB5.set (.inr (by omega)) 0 _).set (.inr (by omega)) 1 _).set (.inr (by omega)) 2 _
 have HTAIL:=zaa TAIL;clear TAIL hKK;refine(show∀A0:Act,A0=_→Code.wp Tryz.prog _ _ A0 _ from fun A0 hA0=>?_) _ rfl;have hsz:A0.tmps.size=67:=by rw[hA0];rfl
 have hdf:A0.defers=[]:=by rw[hA0]
 have v0:A0.eval (.tmp 0)=.pointer (some ⟨B,0,none⟩):=by rw[hA0];rfl
 have v3:A0.eval (.tmp 3)=.pointer (some ⟨w.heap.size,0,none⟩):=by rw[hA0];rfl
 have v4:A0.eval (.tmp 4)=.pointer (some ⟨w.heap.size+1,0,none⟩):=by rw[hA0];rfl
 clear hA0;refine zbe 17 (fun w'=>Below W1.heap.size W1 w') [13,14,15,16,17,18,19,20,21,22,23,24,25,26,27,28,29] (znu B w.heap.size j ((w.heap.size+1)::X) na nc nb nd ne nf ah an) (by kernel_rfl) (by kernel_rfl) (by kernel_rfl) (by kernel_rfl) (by decide) ((Below.refl _ _).drew) ⟨?_,?_,?_,?_,?_,?_,?_,?_,?_,?_,?_,?_,?_,?_,?_,?_,?_,trivial⟩ ?_
 ·intro a w' hF hR hp
  have z0:=(hF.other 0 rfl).trans v0;exact zak _ rfl rfl (by revert z0;generalize a.eval=ρ;intro z0;simp only[execOp];go_simp) hF hsz hR rfl
 ·intro a w' hF hR hp
  have z0:=(hF.other 0 rfl).trans v0;exact zak _ rfl rfl (by revert z0;generalize a.eval=ρ;intro z0;simp only[execOp];go_simp) hF hsz hR rfl
 ·intro a w' hF hR hp
  have p14:a.eval (.tmp 14)=.pointer (some ⟨B,0,none⟩):=hp ⟨1,.data⟩ (by simp) rfl;exact zak _ rfl rfl (by revert p14;generalize a.eval=ρ;intro p14;simp only[execOp];go_simp) hF hsz hR rfl
 ·intro a w' hF hR hp
  have p15:a.eval (.tmp 15)=.pointer (some ⟨B,0,none⟩):=hp ⟨2,.data⟩ (by simp) rfl;exact zak _ rfl rfl (by revert p15;generalize a.eval=ρ;intro p15;simp only[execOp];go_simp) hF hsz hR rfl
 ·intro a w' hF hR hp
  have p16:a.eval (.tmp 16)=.pointer (some ⟨B,31,none⟩):=hp ⟨3,.data⟩ (by simp) rfl;have c0:w'.cell? ⟨B,31,none⟩=some (.int .i64 j.now.seq):=zac hR hBW C31.o;have c1:w'.cell? ⟨B,32,none⟩=some (.slice na j.now.info.length nc):=zac hR hBW C32.o;have c2:w'.cell? ⟨B,33,none⟩=some (.slice nb j.now.data.length nd):=zac hR hBW C33.o;have c3:w'.cell? ⟨B,34,none⟩=some (.slice ne j.now.rev.length nf):=zac hR hBW C34.o;have c4:w'.cell? ⟨B,35,none⟩=some (.bool j.now.h0.on):=zac hR hBW C35.o;have c5:w'.cell? ⟨B,36,none⟩=some (.int .i64 j.now.h0.left):=zac hR hBW C36.o;have c6:w'.cell? ⟨B,37,none⟩=some (.bool j.now.h1.on):=zac hR hBW C37.o;have c7:w'.cell? ⟨B,38,none⟩=some (.int .i64 j.now.h1.left):=zac hR hBW C38.o;have c8:w'.cell? ⟨B,39,none⟩=some (.bool j.now.h2.on):=zac hR hBW C39.o;have c9:w'.cell? ⟨B,40,none⟩=some (.int .i64 j.now.h2.left):=zac hR hBW C40.o;exact zak _ rfl rfl (by revert p16;generalize a.eval=ρ;intro p16;simp only[execOp];go_simp) hF hsz hR rfl
 ·intro a w' hF hR hp
  have z3:=(hF.other 3 rfl).trans v3;exact zak _ rfl rfl (by revert z3;generalize a.eval=ρ;intro z3;simp only[execOp];go_simp) hF hsz hR rfl
 ·intro a w' hF hR hp
  have p18:a.eval (.tmp 18)=.pointer (some ⟨w.heap.size,1,none⟩):=hp ⟨5,.data⟩ (by simp) rfl;have c0:w'.cell? ⟨w.heap.size,1,none⟩=some (.int .i64 ah):=zac hR hAW A1.o;exact zak _ rfl rfl (by revert p18;generalize a.eval=ρ;intro p18;simp only[execOp];go_simp) hF hsz hR rfl
 ·intro a w' hF hR hp
  have z3:=(hF.other 3 rfl).trans v3;exact zak _ rfl rfl (by revert z3;generalize a.eval=ρ;intro z3;simp only[execOp];go_simp) hF hsz hR rfl
 ·intro a w' hF hR hp
  have p20:a.eval (.tmp 20)=.pointer (some ⟨w.heap.size,3,none⟩):=hp ⟨7,.data⟩ (by simp) rfl;have c0:w'.cell? ⟨w.heap.size,3,none⟩=some (.int .i64 an):=zac hR hAW A3.o;exact zak _ rfl rfl (by revert p20;generalize a.eval=ρ;intro p20;simp only[execOp];go_simp) hF hsz hR rfl
 ·intro a w' hF hR hp
  have z0:=(hF.other 0 rfl).trans v0;exact zak _ rfl rfl (by revert z0;generalize a.eval=ρ;intro z0;simp only[execOp];go_simp) hF hsz hR rfl
 ·intro a w' hF hR hp
  have p22:a.eval (.tmp 22)=.pointer (some ⟨B,0,none⟩):=hp ⟨9,.data⟩ (by simp) rfl;exact zak _ rfl rfl (by revert p22;generalize a.eval=ρ;intro p22;simp only[execOp];go_simp) hF hsz hR rfl
 ·intro a w' hF hR hp
  have p23:a.eval (.tmp 23)=.pointer (some ⟨B,0,none⟩):=hp ⟨10,.data⟩ (by simp) rfl;exact zak _ rfl rfl (by revert p23;generalize a.eval=ρ;intro p23;simp only[execOp];go_simp) hF hsz hR rfl
 ·intro a w' hF hR hp
  have p24:a.eval (.tmp 24)=.pointer (some ⟨B,3,none⟩):=hp ⟨11,.data⟩ (by simp) rfl;have c0:w'.cell? ⟨B,3,none⟩=some (.int .i64 j.rh):=zac hR hBW C3.o;have c1:w'.cell? ⟨B,4,none⟩=some (.int .i64 j.ru):=zac hR hBW C4.o;exact zak _ rfl rfl (by revert p24;generalize a.eval=ρ;intro p24;simp only[execOp];go_simp) hF hsz hR rfl
 ·intro a w' hF hR hp
  have p25:a.eval (.tmp 25)=.agg #[.int .i64 j.rh,.int .i64 j.ru]:=hp ⟨12,.data⟩ (by simp) rfl;refine zbu 34 #[.agg #[.int .i64 j.rh,.int .i64 j.ru]] rfl rfl (by have pf:=Act.eval_func a 34;revert p25 pf;generalize a.eval=ρ;intro p25 pf;simp only[execOp];go_simp) _ (zj1 j.rh j.ru _ HU0.o HU1.o) ?_;rintro e w2 ⟨rfl,hb2⟩;refine⟨_,rfl,_,rfl,zae hR hb2,?_,zkc hb2⟩;show znu _ _ _ _ _ _ _ _ _ _ _ _ _ ((a.put (some 26) _).eval (.tmp 26)) w2;rw[zap hF hsz (by decide)];exact rfl
 ·intro a w' hF hR hp
  have p17:a.eval (.tmp 17)=.agg #[.int .i64 j.now.seq,.slice na j.now.info.length nc,.slice nb j.now.data.length nd,.slice ne j.now.rev.length nf,.bool j.now.h0.on,.int .i64 j.now.h0.left,.bool j.now.h1.on,.int .i64 j.now.h1.left,.bool j.now.h2.on,.int .i64 j.now.h2.left]:=hp ⟨4,.data⟩ (by simp) rfl;have p19:a.eval (.tmp 19)=.int .i64 ah:=hp ⟨6,.data⟩ (by simp) rfl;have p21:a.eval (.tmp 21)=.int .i64 an:=hp ⟨8,.data⟩ (by simp) rfl;have p26:a.eval (.tmp 26)=.int .i64 (24 - j.ru):=hp ⟨13,.data⟩ (by simp) rfl;refine zbu 80 #[.agg #[.int .i64 j.now.seq,.slice na j.now.info.length nc,.slice nb j.now.data.length nd,.slice ne j.now.rev.length nf,.bool j.now.h0.on,.int .i64 j.now.h0.left,.bool j.now.h1.on,.int .i64 j.now.h1.left,.bool j.now.h2.on,.int .i64 j.now.h2.left],.int .i64 ah,.int .i64 an,.int .i64 (24 - j.ru)] rfl rfl (by have pf:=Act.eval_func a 80;revert p17 p19 p21 p26 pf;generalize a.eval=ρ;intro p17 p19 p21 p26 pf;simp only[execOp];go_simp) _ (zs5 _ j.now ah an (24 - j.ru) _ ((HTN.o.ext (Ext.seenL W1 _)).below hR) HR1.o HR2.o) ?_;rintro e w2 ⟨v2,rfl,hT2,hb2,hv2⟩;refine⟨_,rfl,_,rfl,zae hR hb2,?_,zkc hb2⟩;show znu _ _ _ _ _ _ _ _ _ _ _ _ _ ((a.put (some 27) _).eval (.tmp 27)) w2;rw[zap hF hsz (by decide)];exact⟨v2,rfl,okTx.made HX2.o HTN.o HRN.o ⟨hR,.inl rfl⟩ hT2 hb2 hv2⟩
 ·intro a w' hF hR hp
  obtain⟨v2,pm,ok⟩:∃v2,a.eval (.tmp 27)=.tuple #[v2,.int .i64 (zbb j.now ah an (24 - j.ru))]∧okTx ((w.heap.size+1)::X) (zau j.now ah an (24 - j.ru)) v2 undef w':=hp ⟨14,.data⟩ (by simp) rfl;refine zax (v2) rfl rfl (by revert pm;generalize a.eval=ρ;intro pm;simp only[execOp];go_simp) ⟨_,rfl,hR,?_,fun _ _ _ h=>h⟩;show znu _ _ _ _ _ _ _ _ _ _ _ _ _ ((a.put (some 28) _).eval (.tmp 28)) w';rw[zap hF hsz (by decide)];exact ok
 ·intro a w' hF hR hp
  obtain⟨v2,pm,ok⟩:∃v2,a.eval (.tmp 27)=.tuple #[v2,.int .i64 (zbb j.now ah an (24 - j.ru))]∧okTx ((w.heap.size+1)::X) (zau j.now ah an (24 - j.ru)) v2 undef w':=hp ⟨14,.data⟩ (by simp) rfl;exact zak _ rfl rfl (by revert pm;generalize a.eval=ρ;intro pm;simp only[execOp];go_simp) hF hsz hR rfl
 ·intro a W hF hR hp
  have ok:okTx ((w.heap.size+1)::X) (zau j.now ah an (24 - j.ru)) (a.eval (.tmp 28)) undef W:=hp 15 (by decide);have pE:a.eval (.tmp 29)=.int .i64 (zbb j.now ah an (24 - j.ru)):=hp 16 (by decide);have pB:a.eval (.tmp 13)=.pointer (some ⟨B,0,none⟩):=hp 0 (by decide);have hsa:a.tmps.size=67:=hF.size.trans hsz;have hJW:=HJ1.o.below hR;obtain⟨hIT,hRT,_⟩:=ok;obtain⟨ua,uc,ub,ud,ue,uf,hv,_⟩:=id hIT;rw[hv] at hIT hRT;show wpOps Tryz.prog _ _ [17,18] a W;rw[wpOps_cons];refine zbu 79 #[.pointer (some ⟨B,0,none⟩),.agg #[.int .i64 (zau j.now ah an (24 - j.ru)).seq,.slice ua (zau j.now ah an (24 - j.ru)).info.length uc,.slice ub (zau j.now ah an (24 - j.ru)).data.length ud,.slice ue (zau j.now ah an (24 - j.ru)).rev.length uf,.bool (zau j.now ah an (24 - j.ru)).h0.on,.int .i64 (zau j.now ah an (24 - j.ru)).h0.left,.bool (zau j.now ah an (24 - j.ru)).h1.on,.int .i64 (zau j.now ah an (24 - j.ru)).h1.left,.bool (zau j.now ah an (24 - j.ru)).h2.on,.int .i64 (zau j.now ah an (24 - j.ru)).h2.left],.int .i64 (zbb j.now ah an (24 - j.ru))] rfl rfl (by have pf:=Act.eval_func a 79;revert hv pE pB pf;generalize a.eval=ρ;intro hv pE pB pf;simp only[execOp];go_simp) _ (zi7 B ((w.heap.size+1)::X) j W hJW (zau j.now ah an (24 - j.ru)) ua uc ub ud ue uf hIT hRT (zbb j.now ah an (24 - j.ru))) ?_;rintro e w5 ⟨rfl,hJ5,hB5⟩;refine⟨_,rfl,?_⟩;obtain⟨P0,hP⟩:∃P0,P0=zmh j (zau j.now ah an (24 - j.ru)) (zbb j.now ah an (24 - j.ru)):=⟨_,rfl⟩;rw[←hP] at hJ5⊢;have hPe:P=P0:=HPP.o.trans hP.symm;subst hPe;obtain⟨b1,hb1⟩:∃b1,b1=a.put (some 30) (vRp P.2):=⟨_,rfl⟩;have rr:b1.eval (.tmp 30)=.agg #[.int .i64 P.2.code,.int .i64 P.2.n,.string P.2.text]:=by rw[hb1];exact Act.eval_put_same _ _ _ (by rw[hsa];decide)
  have r4:b1.eval (.tmp 4)=.pointer (some ⟨w.heap.size+1,0,none⟩):=by rw[hb1,Act.eval_put_ne _ _ _ _ (by decide)];exact(hF.other 4 rfl).trans v4
  have r0:b1.eval (.tmp 0)=.pointer (some ⟨B,0,none⟩):=by rw[hb1,Act.eval_put_ne _ _ _ _ (by decide)];exact(hF.other 0 rfl).trans v0
  have r3:b1.eval (.tmp 3)=.pointer (some ⟨w.heap.size,0,none⟩):=by rw[hb1,Act.eval_put_ne _ _ _ _ (by decide)];exact(hF.other 3 rfl).trans v3
  have KR5:w5.heap[w.heap.size+1]?=some (.cells #[.int .i64 0,.int .i64 0,.string ⟨#[]⟩] 31 (0,0)):=(hB5.block _ (by have:=hR.size;omega) (by simpa using hrB)).trans (zad hR hrl KR.o);obtain⟨⟨y0,y1,y2⟩,yf⟩:=zbj KR5;show wpOps Tryz.prog _ _ [18] (a.put (some 30) (vRp P.2)) w5;rw[←hb1,wpOps_cons];refine zco rfl rfl (w':=(((w5.setCell ⟨(w.heap.size+1),0,none⟩ (.int .i64 P.2.code)).setCell ⟨(w.heap.size+1),1,none⟩ (.int .i64 P.2.n)).setCell ⟨(w.heap.size+1),2,none⟩ (.string P.2.text))) (by revert rr r4;generalize b1.eval=ρ;intro rr r4;simp only[execOp];go_simp) ?_;have hlit:b1=⟨#[_,_,_,_,_,_,_,_,_,_,_,_,_,_,_,_,_,_,_,_,_,_,_,_,_,_,_,_,_,_,_,_,_,_,_,_,_,_,_,_,_,_,_,_,_,_,_,_,_,_,_,_,_,_,_,_,_,_,_,_,_,_,_,_,_,_,_],[]⟩:=zcj b1 67 (by rw[hb1,Act.size_put];exact hsa) (by rw[hb1,Act.defers_put'];exact hF.defers.trans hdf);dsimp only at hlit;rw[r0,r3,r4] at hlit;show KK b1 _;exact(congrArg (fun x=>KK x _) hlit).mpr (HTAIL.o (fun k=>b1.eval (.tmp k)) _ w5 hP.symm rfl KR5 hJ5 (HB1.o.trans (Y:=[B]) ((ButL.of_below hR).trans hB5 hR.size (by simp)) HB1.o.size (by simp)))
theorem zz6 (B:Nat)(X:List Nat)(j:Jn)(w:World)(h:JAt w B X j)(hX:∀x∈X,x<w.heap.size)(hK:Ready j)(ah ab an:Int)(at0:ByteArray)(ht:at0.size≤maxLen):
  Calls Tryz.prog 47 #[.pointer (some ⟨B,0,none⟩),.agg #[.int .i64 5,.int .i64 ah,.int .i64 ab,.int .i64 an,.string at0]] w (zdc w B X (za4 j ⟨5,ah,ab,an,at0⟩)):=by
 have HJ:=zaa h;have hlt:=h.lt;have hBX:=h.1;have HX:=zaa hX;have HU0:=zaa hK.used0;have HU1:=zaa hK.used1;have HR1:=zaa hK.info;have HR2:=zaa hK.data;have HSQ:=zaa hK.seq;have HLQ:=zaa hK.last;have HTX:=zaa ht;have HDN:Hid (j.done.length≤maxLen):=Nat.le_trans hK.done (by unfold maxLen;omega);clear h hX hK ht;have hne:¬w.heap.size=B:=by omega
 have hne1:¬w.heap.size+1=B:=by omega
 have HE0:Hid (za4 j ⟨5,ah,ab,an,at0⟩=zmh j (zb3 j.now ah) (zc4 j.now ah)):=by rw[Hid,za4];simp[]
 obtain⟨P,hPP⟩:∃P,P=zmh j (zb3 j.now ah) (zc4 j.now ah):=⟨_,rfl⟩;have HE:Hid (za4 j ⟨5,ah,ab,an,at0⟩=(P.1,P.2)):=by rw[Hid,HE0.o,←hPP]
 have HPP:=zaa hPP;clear hPP;go_enter Tryz.func47,Tryz.ntmps47;go_wp2;obtain⟨W1,hW1⟩:∃W1,W1=(w.alloc (.cells #[.int .i64 5,.int .i64 ah,.int .i64 ab,.int .i64 an,.string at0] 23)).alloc (.cells #[.int .i64 0,.int .i64 0,.string ⟨#[]⟩] 31):=⟨_,rfl⟩;have hz1:(w.alloc (.cells #[.int .i64 5,.int .i64 ah,.int .i64 ab,.int .i64 an,.string at0] 23)).heap.size=w.heap.size+1:=by simp
 have hbW:Below w.heap.size w W1:=by rw[hW1];exact zae (zab _ _) (zab _ _)
 have HJ1:Hid (JAt W1 B ((w.heap.size+1)::X) j):=HJ.o.more hbW (by omega);have HB1:Hid (ButL [B] w.heap.size w W1):=ButL.of_below hbW;have KR:Hid (W1.heap[w.heap.size+1]?=some (.cells #[.int .i64 0,.int .i64 0,.string ⟨#[]⟩] 31 (0,0))):=by rw[hW1,←hz1];exact heap_alloc_new _ _
 have KA:Hid (W1.heap[w.heap.size]?=some (.cells #[.int .i64 5,.int .i64 ah,.int .i64 ab,.int .i64 an,.string at0] 23 (0,0))):=by rw[hW1];exact zad (zab _ _) (by omega) (heap_alloc_new _ _)
 have hs1:W1.heap.size=w.heap.size+2:=by rw[hW1];simp
 have hrl:w.heap.size+1<W1.heap.size:=by omega
 have hrB:w.heap.size+1≠B:=by omega
 have HX2:Hid (∀x∈((w.heap.size+1)::X),x<W1.heap.size):=fun x hx=>by
  rcases List.mem_cons.1 hx with rfl|hx
  ·exact hrl
  ·have:=HX.o x hx;omega
 rw[←hW1];clear hW1 hz1;rename_i KK hKK;obtain⟨_,da,dc,db,dd,na,nc,nb,nd,ne,nf,sa,sc,sb,sd,se,sf,ca,cc,fa,fc,ta,tc,h1,hr⟩:=id HJ1.o;have C31:Hid (W1.cell? ⟨B,31,none⟩=some (.int .i64 j.now.seq)):=zaj h1 31;have C32:Hid (W1.cell? ⟨B,32,none⟩=some (.slice na j.now.info.length nc)):=zaj h1 32;have C33:Hid (W1.cell? ⟨B,33,none⟩=some (.slice nb j.now.data.length nd)):=zaj h1 33;have C34:Hid (W1.cell? ⟨B,34,none⟩=some (.slice ne j.now.rev.length nf)):=zaj h1 34;have C35:Hid (W1.cell? ⟨B,35,none⟩=some (.bool j.now.h0.on)):=zaj h1 35;have C36:Hid (W1.cell? ⟨B,36,none⟩=some (.int .i64 j.now.h0.left)):=zaj h1 36;have C37:Hid (W1.cell? ⟨B,37,none⟩=some (.bool j.now.h1.on)):=zaj h1 37;have C38:Hid (W1.cell? ⟨B,38,none⟩=some (.int .i64 j.now.h1.left)):=zaj h1 38;have C39:Hid (W1.cell? ⟨B,39,none⟩=some (.bool j.now.h2.on)):=zaj h1 39;have C40:Hid (W1.cell? ⟨B,40,none⟩=some (.int .i64 j.now.h2.left)):=zaj h1 40;have HTN:Hid (IsTx (zar W1 ((w.heap.size+1)::X)) (.agg #[.int .i64 j.now.seq,.slice na j.now.info.length nc,.slice nb j.now.data.length nd,.slice ne j.now.rev.length nf,.bool j.now.h0.on,.int .i64 j.now.h0.left,.bool j.now.h1.on,.int .i64 j.now.h1.left,.bool j.now.h2.on,.int .i64 j.now.h2.left]) j.now):=hr.2.1;have HRN:=zaa hr.2.2.2.2.2.2.1;clear h1 hr;obtain⟨⟨z0,z1,z2,z3,z4⟩,_⟩:=zie KA.o;have A1:=zaa z1;clear z0 z1 z2 z3 z4;have hBW:B<W1.heap.size:=by omega
 have hAW:w.heap.size<W1.heap.size:=by omega
 have TAIL:∀(g:Nat→Value) (W3 w5:World),zmh j (zb3 j.now ah) (zc4 j.now ah)=P→W3=(((w5.setCell ⟨(w.heap.size+1),0,none⟩ (.int .i64 P.2.code)).setCell ⟨(w.heap.size+1),1,none⟩ (.int .i64 P.2.n)).setCell ⟨(w.heap.size+1),2,none⟩ (.string P.2.text))→w5.heap[w.heap.size+1]?=some (.cells #[.int .i64 0,.int .i64 0,.string ⟨#[]⟩] 31 (0,0))→JAt w5 B ((w.heap.size+1)::X) P.1→ButL [B] w.heap.size w w5→KK ⟨#[.pointer (some ⟨B,0,none⟩),g 1,g 2,.pointer (some ⟨w.heap.size,0,none⟩),.pointer (some ⟨w.heap.size+1,0,none⟩),g 5,g 6,g 7,g 8,g 9,g 10,g 11,g 12,g 13,g 14,g 15,g 16,g 17,g 18,g 19,g 20,g 21,g 22,g 23,g 24,g 25,g 26,g 27,g 28,g 29,g 30,g 31,g 32,g 33,g 34,g 35,g 36,g 37,g 38,g 39,g 40,g 41,g 42,g 43,g 44,g 45,g 46,g 47,g 48,g 49,g 50,g 51,g 52,g 53,g 54,g 55,g 56,g 57,g 58,g 59,g 60,g 61,g 62,g 63,g 64,g 65,g 66],[]⟩ W3:=by
  intro g W3 w5 _ hW KR5 hJ5 hB5;apply hKK;clear hKK;have hX:=zfs KR5 (.int .i64 P.2.code) (.int .i64 P.2.n) (.string P.2.text);rw[←hW] at hX;obtain⟨⟨u0,u1,u2⟩,_⟩:=zbj hX;have HW:=zaa hW;clear hW hX;go_wp2;refine bodyPost_ret (v:=.agg #[.int .i64 P.2.code,.int .i64 P.2.n,.string P.2.text]) (by simp[results,Tryz.results47,go_sem,u0,u1,u2]) rfl ⟨by rw[HE.o];rfl,?_,?_⟩
  ·rw[HE.o,HW.o]
   exact zwb hJ5 hrB hBX _ _ _
  ·rw[HW.o]
   exact((hB5.set (.inr (by omega)) 0 _).set (.inr (by omega)) 1 _).set (.inr (by omega)) 2 _
 have HTAIL:=zaa TAIL;clear TAIL hKK;refine(show∀A0:Act,A0=_→Code.wp Tryz.prog _ _ A0 _ from fun A0 hA0=>?_) _ rfl;have hsz:A0.tmps.size=67:=by rw[hA0];rfl
 have hdf:A0.defers=[]:=by rw[hA0]
 have v0:A0.eval (.tmp 0)=.pointer (some ⟨B,0,none⟩):=by rw[hA0];rfl
 have v3:A0.eval (.tmp 3)=.pointer (some ⟨w.heap.size,0,none⟩):=by rw[hA0];rfl
 have v4:A0.eval (.tmp 4)=.pointer (some ⟨w.heap.size+1,0,none⟩):=by rw[hA0];rfl
 clear hA0;refine zbe 10 (fun w'=>Below W1.heap.size W1 w') [33,34,35,36,37,38,39,40,41,42] (zl8 B w.heap.size j ((w.heap.size+1)::X) na nc nb nd ne nf ah) (by kernel_rfl) (by kernel_rfl) (by kernel_rfl) (by kernel_rfl) (by decide) ((Below.refl _ _).drew) ⟨?_,?_,?_,?_,?_,?_,?_,?_,?_,?_,trivial⟩ ?_
 ·intro a w' hF hR hp
  have z0:=(hF.other 0 rfl).trans v0;exact zak _ rfl rfl (by revert z0;generalize a.eval=ρ;intro z0;simp only[execOp];go_simp) hF hsz hR rfl
 ·intro a w' hF hR hp
  have z0:=(hF.other 0 rfl).trans v0;exact zak _ rfl rfl (by revert z0;generalize a.eval=ρ;intro z0;simp only[execOp];go_simp) hF hsz hR rfl
 ·intro a w' hF hR hp
  have p34:a.eval (.tmp 34)=.pointer (some ⟨B,0,none⟩):=hp ⟨1,.data⟩ (by simp) rfl;exact zak _ rfl rfl (by revert p34;generalize a.eval=ρ;intro p34;simp only[execOp];go_simp) hF hsz hR rfl
 ·intro a w' hF hR hp
  have p35:a.eval (.tmp 35)=.pointer (some ⟨B,0,none⟩):=hp ⟨2,.data⟩ (by simp) rfl;exact zak _ rfl rfl (by revert p35;generalize a.eval=ρ;intro p35;simp only[execOp];go_simp) hF hsz hR rfl
 ·intro a w' hF hR hp
  have p36:a.eval (.tmp 36)=.pointer (some ⟨B,31,none⟩):=hp ⟨3,.data⟩ (by simp) rfl;have c0:w'.cell? ⟨B,31,none⟩=some (.int .i64 j.now.seq):=zac hR hBW C31.o;have c1:w'.cell? ⟨B,32,none⟩=some (.slice na j.now.info.length nc):=zac hR hBW C32.o;have c2:w'.cell? ⟨B,33,none⟩=some (.slice nb j.now.data.length nd):=zac hR hBW C33.o;have c3:w'.cell? ⟨B,34,none⟩=some (.slice ne j.now.rev.length nf):=zac hR hBW C34.o;have c4:w'.cell? ⟨B,35,none⟩=some (.bool j.now.h0.on):=zac hR hBW C35.o;have c5:w'.cell? ⟨B,36,none⟩=some (.int .i64 j.now.h0.left):=zac hR hBW C36.o;have c6:w'.cell? ⟨B,37,none⟩=some (.bool j.now.h1.on):=zac hR hBW C37.o;have c7:w'.cell? ⟨B,38,none⟩=some (.int .i64 j.now.h1.left):=zac hR hBW C38.o;have c8:w'.cell? ⟨B,39,none⟩=some (.bool j.now.h2.on):=zac hR hBW C39.o;have c9:w'.cell? ⟨B,40,none⟩=some (.int .i64 j.now.h2.left):=zac hR hBW C40.o;exact zak _ rfl rfl (by revert p36;generalize a.eval=ρ;intro p36;simp only[execOp];go_simp) hF hsz hR rfl
 ·intro a w' hF hR hp
  have z3:=(hF.other 3 rfl).trans v3;exact zak _ rfl rfl (by revert z3;generalize a.eval=ρ;intro z3;simp only[execOp];go_simp) hF hsz hR rfl
 ·intro a w' hF hR hp
  have p38:a.eval (.tmp 38)=.pointer (some ⟨w.heap.size,1,none⟩):=hp ⟨5,.data⟩ (by simp) rfl;have c0:w'.cell? ⟨w.heap.size,1,none⟩=some (.int .i64 ah):=zac hR hAW A1.o;exact zak _ rfl rfl (by revert p38;generalize a.eval=ρ;intro p38;simp only[execOp];go_simp) hF hsz hR rfl
 ·intro a w' hF hR hp
  have p37:a.eval (.tmp 37)=.agg #[.int .i64 j.now.seq,.slice na j.now.info.length nc,.slice nb j.now.data.length nd,.slice ne j.now.rev.length nf,.bool j.now.h0.on,.int .i64 j.now.h0.left,.bool j.now.h1.on,.int .i64 j.now.h1.left,.bool j.now.h2.on,.int .i64 j.now.h2.left]:=hp ⟨4,.data⟩ (by simp) rfl;have p39:a.eval (.tmp 39)=.int .i64 ah:=hp ⟨6,.data⟩ (by simp) rfl;refine zbu 81 #[.agg #[.int .i64 j.now.seq,.slice na j.now.info.length nc,.slice nb j.now.data.length nd,.slice ne j.now.rev.length nf,.bool j.now.h0.on,.int .i64 j.now.h0.left,.bool j.now.h1.on,.int .i64 j.now.h1.left,.bool j.now.h2.on,.int .i64 j.now.h2.left],.int .i64 ah] rfl rfl (by have pf:=Act.eval_func a 81;revert p37 p39 pf;generalize a.eval=ρ;intro p37 p39 pf;simp only[execOp];go_simp) _ (zw7 _ j.now ah _ ((HTN.o.ext (Ext.seenL W1 _)).below hR) HR1.o HR2.o) ?_;rintro e w2 ⟨v2,rfl,hT2,hb2,hv2⟩;refine⟨_,rfl,_,rfl,zae hR hb2,?_,zo7 hb2⟩;show zl8 _ _ _ _ _ _ _ _ _ _ _ _ ((a.put (some 40) _).eval (.tmp 40)) w2;rw[zap hF hsz (by decide)];exact⟨v2,rfl,okTx.made HX2.o HTN.o HRN.o ⟨hR,.inl rfl⟩ hT2 hb2 hv2⟩
 ·intro a w' hF hR hp
  obtain⟨v2,pm,ok⟩:∃v2,a.eval (.tmp 40)=.tuple #[v2,.int .i64 (zc4 j.now ah)]∧okTx ((w.heap.size+1)::X) (zb3 j.now ah) v2 undef w':=hp ⟨7,.data⟩ (by simp) rfl;refine zax (v2) rfl rfl (by revert pm;generalize a.eval=ρ;intro pm;simp only[execOp];go_simp) ⟨_,rfl,hR,?_,fun _ _ _ h=>h⟩;show zl8 _ _ _ _ _ _ _ _ _ _ _ _ ((a.put (some 41) _).eval (.tmp 41)) w';rw[zap hF hsz (by decide)];exact ok
 ·intro a w' hF hR hp
  obtain⟨v2,pm,ok⟩:∃v2,a.eval (.tmp 40)=.tuple #[v2,.int .i64 (zc4 j.now ah)]∧okTx ((w.heap.size+1)::X) (zb3 j.now ah) v2 undef w':=hp ⟨7,.data⟩ (by simp) rfl;exact zak _ rfl rfl (by revert pm;generalize a.eval=ρ;intro pm;simp only[execOp];go_simp) hF hsz hR rfl
 ·intro a W hF hR hp
  have ok:okTx ((w.heap.size+1)::X) (zb3 j.now ah) (a.eval (.tmp 41)) undef W:=hp 8 (by decide);have pE:a.eval (.tmp 42)=.int .i64 (zc4 j.now ah):=hp 9 (by decide);have pB:a.eval (.tmp 33)=.pointer (some ⟨B,0,none⟩):=hp 0 (by decide);have hsa:a.tmps.size=67:=hF.size.trans hsz;have hJW:=HJ1.o.below hR;obtain⟨hIT,hRT,_⟩:=ok;obtain⟨ua,uc,ub,ud,ue,uf,hv,_⟩:=id hIT;rw[hv] at hIT hRT;show wpOps Tryz.prog _ _ [10,11] a W;rw[wpOps_cons];refine zbu 79 #[.pointer (some ⟨B,0,none⟩),.agg #[.int .i64 (zb3 j.now ah).seq,.slice ua (zb3 j.now ah).info.length uc,.slice ub (zb3 j.now ah).data.length ud,.slice ue (zb3 j.now ah).rev.length uf,.bool (zb3 j.now ah).h0.on,.int .i64 (zb3 j.now ah).h0.left,.bool (zb3 j.now ah).h1.on,.int .i64 (zb3 j.now ah).h1.left,.bool (zb3 j.now ah).h2.on,.int .i64 (zb3 j.now ah).h2.left],.int .i64 (zc4 j.now ah)] rfl rfl (by have pf:=Act.eval_func a 79;revert hv pE pB pf;generalize a.eval=ρ;intro hv pE pB pf;simp only[execOp];go_simp) _ (zi7 B ((w.heap.size+1)::X) j W hJW (zb3 j.now ah) ua uc ub ud ue uf hIT hRT (zc4 j.now ah)) ?_;rintro e w5 ⟨rfl,hJ5,hB5⟩;refine⟨_,rfl,?_⟩;obtain⟨P0,hP⟩:∃P0,P0=zmh j (zb3 j.now ah) (zc4 j.now ah):=⟨_,rfl⟩;rw[←hP] at hJ5⊢;have hPe:P=P0:=HPP.o.trans hP.symm;subst hPe;obtain⟨b1,hb1⟩:∃b1,b1=a.put (some 43) (vRp P.2):=⟨_,rfl⟩;have rr:b1.eval (.tmp 43)=.agg #[.int .i64 P.2.code,.int .i64 P.2.n,.string P.2.text]:=by rw[hb1];exact Act.eval_put_same _ _ _ (by rw[hsa];decide)
  have r4:b1.eval (.tmp 4)=.pointer (some ⟨w.heap.size+1,0,none⟩):=by rw[hb1,Act.eval_put_ne _ _ _ _ (by decide)];exact(hF.other 4 rfl).trans v4
  have r0:b1.eval (.tmp 0)=.pointer (some ⟨B,0,none⟩):=by rw[hb1,Act.eval_put_ne _ _ _ _ (by decide)];exact(hF.other 0 rfl).trans v0
  have r3:b1.eval (.tmp 3)=.pointer (some ⟨w.heap.size,0,none⟩):=by rw[hb1,Act.eval_put_ne _ _ _ _ (by decide)];exact(hF.other 3 rfl).trans v3
  have KR5:w5.heap[w.heap.size+1]?=some (.cells #[.int .i64 0,.int .i64 0,.string ⟨#[]⟩] 31 (0,0)):=(hB5.block _ (by have:=hR.size;omega) (by simpa using hrB)).trans (zad hR hrl KR.o);obtain⟨⟨y0,y1,y2⟩,yf⟩:=zbj KR5;show wpOps Tryz.prog _ _ [11] (a.put (some 43) (vRp P.2)) w5;rw[←hb1,wpOps_cons];refine zco rfl rfl (w':=(((w5.setCell ⟨(w.heap.size+1),0,none⟩ (.int .i64 P.2.code)).setCell ⟨(w.heap.size+1),1,none⟩ (.int .i64 P.2.n)).setCell ⟨(w.heap.size+1),2,none⟩ (.string P.2.text))) (by revert rr r4;generalize b1.eval=ρ;intro rr r4;simp only[execOp];go_simp) ?_;have hlit:b1=⟨#[_,_,_,_,_,_,_,_,_,_,_,_,_,_,_,_,_,_,_,_,_,_,_,_,_,_,_,_,_,_,_,_,_,_,_,_,_,_,_,_,_,_,_,_,_,_,_,_,_,_,_,_,_,_,_,_,_,_,_,_,_,_,_,_,_,_,_],[]⟩:=zcj b1 67 (by rw[hb1,Act.size_put];exact hsa) (by rw[hb1,Act.defers_put'];exact hF.defers.trans hdf);dsimp only at hlit;rw[r0,r3,r4] at hlit;show KK b1 _;exact(congrArg (fun x=>KK x _) hlit).mpr (HTAIL.o (fun k=>b1.eval (.tmp k)) _ w5 hP.symm rfl KR5 hJ5 (HB1.o.trans (Y:=[B]) ((ButL.of_below hR).trans hB5 hR.size (by simp)) HB1.o.size (by simp)))
theorem zz7 (B:Nat)(X:List Nat)(j:Jn)(w:World)(h:JAt w B X j)(hX:∀x∈X,x<w.heap.size)(hK:Ready j)(ah ab an:Int)(at0:ByteArray)(ht:at0.size≤maxLen):
  Calls Tryz.prog 47 #[.pointer (some ⟨B,0,none⟩),.agg #[.int .i64 2,.int .i64 ah,.int .i64 ab,.int .i64 an,.string at0]] w (zdc w B X (za4 j ⟨2,ah,ab,an,at0⟩)):=by
 have HJ:=zaa h;have hlt:=h.lt;have hBX:=h.1;have HX:=zaa hX;have HU0:=zaa hK.used0;have HU1:=zaa hK.used1;have HR1:=zaa hK.info;have HR2:=zaa hK.data;have HSQ:=zaa hK.seq;have HLQ:=zaa hK.last;have HTX:=zaa ht;have HDN:Hid (j.done.length≤maxLen):=Nat.le_trans hK.done (by unfold maxLen;omega);clear h hX hK ht;have hne:¬w.heap.size=B:=by omega
 have hne1:¬w.heap.size+1=B:=by omega
 have HE:Hid (za4 j ⟨2,ah,ab,an,at0⟩=zgs j ⟨2,ah,ab,an,at0⟩):=by rw[Hid,za4];simp[]
 go_enter Tryz.func47,Tryz.ntmps47;go_wp2_with fail;obtain⟨W1,hW1⟩:∃W1,W1=(w.alloc (.cells #[.int .i64 2,.int .i64 ah,.int .i64 ab,.int .i64 an,.string at0] 23)).alloc (.cells #[.int .i64 0,.int .i64 0,.string ⟨#[]⟩] 31):=⟨_,rfl⟩;have hz1:(w.alloc (.cells #[.int .i64 2,.int .i64 ah,.int .i64 ab,.int .i64 an,.string at0] 23)).heap.size=w.heap.size+1:=by simp
 have hbW:Below w.heap.size w W1:=by rw[hW1];exact zae (zab _ _) (zab _ _)
 have HJ1:Hid (JAt W1 B ((w.heap.size+1)::X) j):=HJ.o.more hbW (by omega);have HB1:Hid (ButL [B] w.heap.size w W1):=ButL.of_below hbW;have KR:Hid (W1.heap[w.heap.size+1]?=some (.cells #[.int .i64 0,.int .i64 0,.string ⟨#[]⟩] 31 (0,0))):=by rw[hW1,←hz1];exact heap_alloc_new _ _
 have KA:Hid (W1.heap[w.heap.size]?=some (.cells #[.int .i64 2,.int .i64 ah,.int .i64 ab,.int .i64 an,.string at0] 23 (0,0))):=by rw[hW1];exact zad (zab _ _) (by omega) (heap_alloc_new _ _)
 have hs1:W1.heap.size=w.heap.size+2:=by rw[hW1];simp
 have hrl:w.heap.size+1<W1.heap.size:=by omega
 have hrB:w.heap.size+1≠B:=by omega
 have HX2:Hid (∀x∈((w.heap.size+1)::X),x<W1.heap.size):=fun x hx=>by
  rcases List.mem_cons.1 hx with rfl|hx
  ·exact hrl
  ·have:=HX.o x hx;omega
 rw[←hW1];clear hW1 hz1;refine(zw5 B ((w.heap.size+1)::X) j W1 HJ1.o HX2.o ⟨2,ah,ab,an,at0⟩ HTX.o HR1.o HR2.o).mono ?_;rintro e w2 ⟨rfl,hJ2,hB2⟩;have KR2:Hid (w2.heap[w.heap.size+1]?=some (.cells #[.int .i64 0,.int .i64 0,.string ⟨#[]⟩] 31 (0,0))):=(hB2.block _ (by omega) (by simpa using hrB)).trans KR.o;have HJ2:=zaa hJ2;have HB2:Hid (ButL [B] w.heap.size w w2):=HB1.o.trans hB2 HB1.o.size (by simp);have hs2:W1.heap.size≤w2.heap.size:=hB2.size;clear hJ2 hB2;obtain⟨P,hP⟩:∃P,P=zgs j ⟨2,ah,ab,an,at0⟩:=⟨_,rfl⟩;rw[←hP] at HE HJ2⊢;have HE3:Hid (za4 j ⟨2,ah,ab,an,at0⟩=(P.1,⟨P.2.code,P.2.n,P.2.text⟩)):=HE.o;rw[show vRp P.2=.agg #[.int .i64 P.2.code,.int .i64 P.2.n,.string P.2.text] from rfl];clear hP HE;obtain⟨⟨y0,y1,y2⟩,yf⟩:=zbj KR2.o;go_wp2;exact zbc HE3.o KR2.o HJ2.o HB2.o hrB hBX fun W u0 u1 u2=>by simp[results,Tryz.results47,go_sem,u0,u1,u2]
theorem zz8 (B:Nat)(X:List Nat)(j:Jn)(w:World)(h:JAt w B X j)(hX:∀x∈X,x<w.heap.size)(hK:Ready j)(ah ab an:Int)(at0:ByteArray)(ht:at0.size≤maxLen):
  Calls Tryz.prog 47 #[.pointer (some ⟨B,0,none⟩),.agg #[.int .i64 3,.int .i64 ah,.int .i64 ab,.int .i64 an,.string at0]] w (zdc w B X (za4 j ⟨3,ah,ab,an,at0⟩)):=by
 have HJ:=zaa h;have hlt:=h.lt;have hBX:=h.1;have HX:=zaa hX;have HU0:=zaa hK.used0;have HU1:=zaa hK.used1;have HR1:=zaa hK.info;have HR2:=zaa hK.data;have HSQ:=zaa hK.seq;have HLQ:=zaa hK.last;have HTX:=zaa ht;have HDN:Hid (j.done.length≤maxLen):=Nat.le_trans hK.done (by unfold maxLen;omega);clear h hX hK ht;have hne:¬w.heap.size=B:=by omega
 have hne1:¬w.heap.size+1=B:=by omega
 have HE:Hid (za4 j ⟨3,ah,ab,an,at0⟩=zjk j ⟨3,ah,ab,an,at0⟩):=by rw[Hid,za4];simp[]
 go_enter Tryz.func47,Tryz.ntmps47;go_wp2_with fail;obtain⟨W1,hW1⟩:∃W1,W1=(w.alloc (.cells #[.int .i64 3,.int .i64 ah,.int .i64 ab,.int .i64 an,.string at0] 23)).alloc (.cells #[.int .i64 0,.int .i64 0,.string ⟨#[]⟩] 31):=⟨_,rfl⟩;have hz1:(w.alloc (.cells #[.int .i64 3,.int .i64 ah,.int .i64 ab,.int .i64 an,.string at0] 23)).heap.size=w.heap.size+1:=by simp
 have hbW:Below w.heap.size w W1:=by rw[hW1];exact zae (zab _ _) (zab _ _)
 have HJ1:Hid (JAt W1 B ((w.heap.size+1)::X) j):=HJ.o.more hbW (by omega);have HB1:Hid (ButL [B] w.heap.size w W1):=ButL.of_below hbW;have KR:Hid (W1.heap[w.heap.size+1]?=some (.cells #[.int .i64 0,.int .i64 0,.string ⟨#[]⟩] 31 (0,0))):=by rw[hW1,←hz1];exact heap_alloc_new _ _
 have KA:Hid (W1.heap[w.heap.size]?=some (.cells #[.int .i64 3,.int .i64 ah,.int .i64 ab,.int .i64 an,.string at0] 23 (0,0))):=by rw[hW1];exact zad (zab _ _) (by omega) (heap_alloc_new _ _)
 have hs1:W1.heap.size=w.heap.size+2:=by rw[hW1];simp
 have hrl:w.heap.size+1<W1.heap.size:=by omega
 have hrB:w.heap.size+1≠B:=by omega
 have HX2:Hid (∀x∈((w.heap.size+1)::X),x<W1.heap.size):=fun x hx=>by
  rcases List.mem_cons.1 hx with rfl|hx
  ·exact hrl
  ·have:=HX.o x hx;omega
 rw[←hW1];clear hW1 hz1;refine(zz0 B ((w.heap.size+1)::X) j W1 HJ1.o HX2.o ⟨3,ah,ab,an,at0⟩ HTX.o HR1.o HR2.o).mono ?_;rintro e w2 ⟨rfl,hJ2,hB2⟩;have KR2:Hid (w2.heap[w.heap.size+1]?=some (.cells #[.int .i64 0,.int .i64 0,.string ⟨#[]⟩] 31 (0,0))):=(hB2.block _ (by omega) (by simpa using hrB)).trans KR.o;have HJ2:=zaa hJ2;have HB2:Hid (ButL [B] w.heap.size w w2):=HB1.o.trans hB2 HB1.o.size (by simp);have hs2:W1.heap.size≤w2.heap.size:=hB2.size;clear hJ2 hB2;obtain⟨P,hP⟩:∃P,P=zjk j ⟨3,ah,ab,an,at0⟩:=⟨_,rfl⟩;rw[←hP] at HE HJ2⊢;have HE3:Hid (za4 j ⟨3,ah,ab,an,at0⟩=(P.1,⟨P.2.code,P.2.n,P.2.text⟩)):=HE.o;rw[show vRp P.2=.agg #[.int .i64 P.2.code,.int .i64 P.2.n,.string P.2.text] from rfl];clear hP HE;obtain⟨⟨y0,y1,y2⟩,yf⟩:=zbj KR2.o;go_wp2;exact zbc HE3.o KR2.o HJ2.o HB2.o hrB hBX fun W u0 u1 u2=>by simp[results,Tryz.results47,go_sem,u0,u1,u2]
theorem zz9 (B:Nat)(X:List Nat)(j:Jn)(w:World)(h:JAt w B X j)(hX:∀x∈X,x<w.heap.size)(hK:Ready j)(ah ab an:Int)(at0:ByteArray)(ht:at0.size≤maxLen):
  Calls Tryz.prog 47 #[.pointer (some ⟨B,0,none⟩),.agg #[.int .i64 4,.int .i64 ah,.int .i64 ab,.int .i64 an,.string at0]] w (zdc w B X (za4 j ⟨4,ah,ab,an,at0⟩)):=by
 have HJ:=zaa h;have hlt:=h.lt;have hBX:=h.1;have HX:=zaa hX;have HU0:=zaa hK.used0;have HU1:=zaa hK.used1;have HR1:=zaa hK.info;have HR2:=zaa hK.data;have HSQ:=zaa hK.seq;have HLQ:=zaa hK.last;have HTX:=zaa ht;have HDN:Hid (j.done.length≤maxLen):=Nat.le_trans hK.done (by unfold maxLen;omega);clear h hX hK ht;have hne:¬w.heap.size=B:=by omega
 have hne1:¬w.heap.size+1=B:=by omega
 have HE:Hid (za4 j ⟨4,ah,ab,an,at0⟩=zem j ⟨4,ah,ab,an,at0⟩):=by rw[Hid,za4];simp[]
 go_enter Tryz.func47,Tryz.ntmps47;go_wp2_with fail;obtain⟨W1,hW1⟩:∃W1,W1=(w.alloc (.cells #[.int .i64 4,.int .i64 ah,.int .i64 ab,.int .i64 an,.string at0] 23)).alloc (.cells #[.int .i64 0,.int .i64 0,.string ⟨#[]⟩] 31):=⟨_,rfl⟩;have hz1:(w.alloc (.cells #[.int .i64 4,.int .i64 ah,.int .i64 ab,.int .i64 an,.string at0] 23)).heap.size=w.heap.size+1:=by simp
 have hbW:Below w.heap.size w W1:=by rw[hW1];exact zae (zab _ _) (zab _ _)
 have HJ1:Hid (JAt W1 B ((w.heap.size+1)::X) j):=HJ.o.more hbW (by omega);have HB1:Hid (ButL [B] w.heap.size w W1):=ButL.of_below hbW;have KR:Hid (W1.heap[w.heap.size+1]?=some (.cells #[.int .i64 0,.int .i64 0,.string ⟨#[]⟩] 31 (0,0))):=by rw[hW1,←hz1];exact heap_alloc_new _ _
 have KA:Hid (W1.heap[w.heap.size]?=some (.cells #[.int .i64 4,.int .i64 ah,.int .i64 ab,.int .i64 an,.string at0] 23 (0,0))):=by rw[hW1];exact zad (zab _ _) (by omega) (heap_alloc_new _ _)
 have hs1:W1.heap.size=w.heap.size+2:=by rw[hW1];simp
 have hrl:w.heap.size+1<W1.heap.size:=by omega
 have hrB:w.heap.size+1≠B:=by omega
 have HX2:Hid (∀x∈((w.heap.size+1)::X),x<W1.heap.size):=fun x hx=>by
  rcases List.mem_cons.1 hx with rfl|hx
  ·exact hrl
  ·have:=HX.o x hx;omega
 rw[←hW1];clear hW1 hz1;refine(ztv B ((w.heap.size+1)::X) j W1 HJ1.o HX2.o ⟨4,ah,ab,an,at0⟩ HR1.o HR2.o).mono ?_;rintro e w2 ⟨rfl,hJ2,hB2⟩;have KR2:Hid (w2.heap[w.heap.size+1]?=some (.cells #[.int .i64 0,.int .i64 0,.string ⟨#[]⟩] 31 (0,0))):=(hB2.block _ (by omega) (by simpa using hrB)).trans KR.o;have HJ2:=zaa hJ2;have HB2:Hid (ButL [B] w.heap.size w w2):=HB1.o.trans hB2 HB1.o.size (by simp);have hs2:W1.heap.size≤w2.heap.size:=hB2.size;clear hJ2 hB2;obtain⟨P,hP⟩:∃P,P=zem j ⟨4,ah,ab,an,at0⟩:=⟨_,rfl⟩;rw[←hP] at HE HJ2⊢;have HE3:Hid (za4 j ⟨4,ah,ab,an,at0⟩=(P.1,⟨P.2.code,P.2.n,P.2.text⟩)):=HE.o;rw[show vRp P.2=.agg #[.int .i64 P.2.code,.int .i64 P.2.n,.string P.2.text] from rfl];clear hP HE;obtain⟨⟨y0,y1,y2⟩,yf⟩:=zbj KR2.o;go_wp2;exact zbc HE3.o KR2.o HJ2.o HB2.o hrB hBX fun W u0 u1 u2=>by simp[results,Tryz.results47,go_sem,u0,u1,u2]
theorem z0a (B:Nat)(X:List Nat)(j:Jn)(w:World)(h:JAt w B X j)(hX:∀x∈X,x<w.heap.size)(hK:Ready j)(ah ab an:Int)(at0:ByteArray)(ht:at0.size≤maxLen):
  Calls Tryz.prog 47 #[.pointer (some ⟨B,0,none⟩),.agg #[.int .i64 6,.int .i64 ah,.int .i64 ab,.int .i64 an,.string at0]] w (zdc w B X (za4 j ⟨6,ah,ab,an,at0⟩)):=by
 have HJ:=zaa h;have hlt:=h.lt;have hBX:=h.1;have HX:=zaa hX;have HU0:=zaa hK.used0;have HU1:=zaa hK.used1;have HR1:=zaa hK.info;have HR2:=zaa hK.data;have HSQ:=zaa hK.seq;have HLQ:=zaa hK.last;have HTX:=zaa ht;have HDN:Hid (j.done.length≤maxLen):=Nat.le_trans hK.done (by unfold maxLen;omega);clear h hX hK ht;have hne:¬w.heap.size=B:=by omega
 have hne1:¬w.heap.size+1=B:=by omega
 have HE:Hid (za4 j ⟨6,ah,ab,an,at0⟩=zcr j):=by rw[Hid,za4];simp[]
 go_enter Tryz.func47,Tryz.ntmps47;go_wp2_with fail;obtain⟨W1,hW1⟩:∃W1,W1=(w.alloc (.cells #[.int .i64 6,.int .i64 ah,.int .i64 ab,.int .i64 an,.string at0] 23)).alloc (.cells #[.int .i64 0,.int .i64 0,.string ⟨#[]⟩] 31):=⟨_,rfl⟩;have hz1:(w.alloc (.cells #[.int .i64 6,.int .i64 ah,.int .i64 ab,.int .i64 an,.string at0] 23)).heap.size=w.heap.size+1:=by simp
 have hbW:Below w.heap.size w W1:=by rw[hW1];exact zae (zab _ _) (zab _ _)
 have HJ1:Hid (JAt W1 B ((w.heap.size+1)::X) j):=HJ.o.more hbW (by omega);have HB1:Hid (ButL [B] w.heap.size w W1):=ButL.of_below hbW;have KR:Hid (W1.heap[w.heap.size+1]?=some (.cells #[.int .i64 0,.int .i64 0,.string ⟨#[]⟩] 31 (0,0))):=by rw[hW1,←hz1];exact heap_alloc_new _ _
 have KA:Hid (W1.heap[w.heap.size]?=some (.cells #[.int .i64 6,.int .i64 ah,.int .i64 ab,.int .i64 an,.string at0] 23 (0,0))):=by rw[hW1];exact zad (zab _ _) (by omega) (heap_alloc_new _ _)
 have hs1:W1.heap.size=w.heap.size+2:=by rw[hW1];simp
 have hrl:w.heap.size+1<W1.heap.size:=by omega
 have hrB:w.heap.size+1≠B:=by omega
 have HX2:Hid (∀x∈((w.heap.size+1)::X),x<W1.heap.size):=fun x hx=>by
  rcases List.mem_cons.1 hx with rfl|hx
  ·exact hrl
  ·have:=HX.o x hx;omega
 rw[←hW1];clear hW1 hz1;refine(ztn B ((w.heap.size+1)::X) j W1 HJ1.o HX2.o HR1.o HR2.o HSQ.o).mono ?_;rintro e w2 ⟨rfl,hJ2,hB2⟩;have KR2:Hid (w2.heap[w.heap.size+1]?=some (.cells #[.int .i64 0,.int .i64 0,.string ⟨#[]⟩] 31 (0,0))):=(hB2.block _ (by omega) (by simpa using hrB)).trans KR.o;have HJ2:=zaa hJ2;have HB2:Hid (ButL [B] w.heap.size w w2):=HB1.o.trans hB2 HB1.o.size (by simp);have hs2:W1.heap.size≤w2.heap.size:=hB2.size;clear hJ2 hB2;obtain⟨P,hP⟩:∃P,P=zcr j:=⟨_,rfl⟩;rw[←hP] at HE HJ2⊢;have HE3:Hid (za4 j ⟨6,ah,ab,an,at0⟩=(P.1,⟨P.2.code,P.2.n,P.2.text⟩)):=HE.o;rw[show vRp P.2=.agg #[.int .i64 P.2.code,.int .i64 P.2.n,.string P.2.text] from rfl];clear hP HE;obtain⟨⟨y0,y1,y2⟩,yf⟩:=zbj KR2.o;go_wp2;exact zbc HE3.o KR2.o HJ2.o HB2.o hrB hBX fun W u0 u1 u2=>by simp[results,Tryz.results47,go_sem,u0,u1,u2]
theorem z0b (B:Nat)(X:List Nat)(j:Jn)(w:World)(h:JAt w B X j)(hX:∀x∈X,x<w.heap.size)(hK:Ready j)(ah ab an:Int)(at0:ByteArray)(ht:at0.size≤maxLen):
  Calls Tryz.prog 47 #[.pointer (some ⟨B,0,none⟩),.agg #[.int .i64 7,.int .i64 ah,.int .i64 ab,.int .i64 an,.string at0]] w (zdc w B X (za4 j ⟨7,ah,ab,an,at0⟩)):=by
 have HJ:=zaa h;have hlt:=h.lt;have hBX:=h.1;have HX:=zaa hX;have HU0:=zaa hK.used0;have HU1:=zaa hK.used1;have HR1:=zaa hK.info;have HR2:=zaa hK.data;have HSQ:=zaa hK.seq;have HLQ:=zaa hK.last;have HTX:=zaa ht;have HDN:Hid (j.done.length≤maxLen):=Nat.le_trans hK.done (by unfold maxLen;omega);clear h hX hK ht;have hne:¬w.heap.size=B:=by omega
 have hne1:¬w.heap.size+1=B:=by omega
 have HE:Hid (za4 j ⟨7,ah,ab,an,at0⟩=zgt j):=by rw[Hid,za4];simp[]
 go_enter Tryz.func47,Tryz.ntmps47;go_wp2_with fail;obtain⟨W1,hW1⟩:∃W1,W1=(w.alloc (.cells #[.int .i64 7,.int .i64 ah,.int .i64 ab,.int .i64 an,.string at0] 23)).alloc (.cells #[.int .i64 0,.int .i64 0,.string ⟨#[]⟩] 31):=⟨_,rfl⟩;have hz1:(w.alloc (.cells #[.int .i64 7,.int .i64 ah,.int .i64 ab,.int .i64 an,.string at0] 23)).heap.size=w.heap.size+1:=by simp
 have hbW:Below w.heap.size w W1:=by rw[hW1];exact zae (zab _ _) (zab _ _)
 have HJ1:Hid (JAt W1 B ((w.heap.size+1)::X) j):=HJ.o.more hbW (by omega);have HB1:Hid (ButL [B] w.heap.size w W1):=ButL.of_below hbW;have KR:Hid (W1.heap[w.heap.size+1]?=some (.cells #[.int .i64 0,.int .i64 0,.string ⟨#[]⟩] 31 (0,0))):=by rw[hW1,←hz1];exact heap_alloc_new _ _
 have KA:Hid (W1.heap[w.heap.size]?=some (.cells #[.int .i64 7,.int .i64 ah,.int .i64 ab,.int .i64 an,.string at0] 23 (0,0))):=by rw[hW1];exact zad (zab _ _) (by omega) (heap_alloc_new _ _)
 have hs1:W1.heap.size=w.heap.size+2:=by rw[hW1];simp
 have hrl:w.heap.size+1<W1.heap.size:=by omega
 have hrB:w.heap.size+1≠B:=by omega
 have HX2:Hid (∀x∈((w.heap.size+1)::X),x<W1.heap.size):=fun x hx=>by
  rcases List.mem_cons.1 hx with rfl|hx
  ·exact hrl
  ·have:=HX.o x hx;omega
 rw[←hW1];clear hW1 hz1;refine(zw4 B ((w.heap.size+1)::X) j W1 HJ1.o HX2.o HDN.o HLQ.o).mono ?_;rintro e w2 ⟨rfl,hJ2,hB2⟩;have KR2:Hid (w2.heap[w.heap.size+1]?=some (.cells #[.int .i64 0,.int .i64 0,.string ⟨#[]⟩] 31 (0,0))):=(hB2.block _ (by omega) (by simpa using hrB)).trans KR.o;have HJ2:=zaa hJ2;have HB2:Hid (ButL [B] w.heap.size w w2):=HB1.o.trans hB2 HB1.o.size (by simp);have hs2:W1.heap.size≤w2.heap.size:=hB2.size;clear hJ2 hB2;obtain⟨P,hP⟩:∃P,P=zgt j:=⟨_,rfl⟩;rw[←hP] at HE HJ2⊢;have HE3:Hid (za4 j ⟨7,ah,ab,an,at0⟩=(P.1,⟨P.2.code,P.2.n,P.2.text⟩)):=HE.o;rw[show vRp P.2=.agg #[.int .i64 P.2.code,.int .i64 P.2.n,.string P.2.text] from rfl];clear hP HE;obtain⟨⟨y0,y1,y2⟩,yf⟩:=zbj KR2.o;go_wp2;exact zbc HE3.o KR2.o HJ2.o HB2.o hrB hBX fun W u0 u1 u2=>by simp[results,Tryz.results47,go_sem,u0,u1,u2]
theorem z0c (B:Nat)(X:List Nat)(j:Jn)(w:World)(h:JAt w B X j)(hX:∀x∈X,x<w.heap.size)(hK:Ready j)(ak ah ab an:Int)(at0:ByteArray)(ht:at0.size≤maxLen)(k1:¬ak=1)(k5:¬ak=5)(k2:¬ak=2)(k3:¬ak=3)(k4:¬ak=4)(k6:¬ak=6)(k7:¬ak=7):
  Calls Tryz.prog 47 #[.pointer (some ⟨B,0,none⟩),.agg #[.int .i64 ak,.int .i64 ah,.int .i64 ab,.int .i64 an,.string at0]] w (zdc w B X (za4 j ⟨ak,ah,ab,an,at0⟩)):=by
 have HJ:=zaa h;have hlt:=h.lt;have hBX:=h.1;have HX:=zaa hX;have HU0:=zaa hK.used0;have HU1:=zaa hK.used1;have HR1:=zaa hK.info;have HR2:=zaa hK.data;have HSQ:=zaa hK.seq;have HLQ:=zaa hK.last;have HTX:=zaa ht;have HDN:Hid (j.done.length≤maxLen):=Nat.le_trans hK.done (by unfold maxLen;omega);clear h hX hK ht;have hne:¬w.heap.size=B:=by omega
 have hne1:¬w.heap.size+1=B:=by omega
 have b1:(ak==1)=false:=by simpa using k1
 have b5:(ak==5)=false:=by simpa using k5
 have b2:(ak==2)=false:=by simpa using k2
 have b3:(ak==3)=false:=by simpa using k3
 have b4:(ak==4)=false:=by simpa using k4
 have b6:(ak==6)=false:=by simpa using k6
 have b7:(ak==7)=false:=by simpa using k7
 have HE:Hid (za4 j ⟨ak,ah,ab,an,at0⟩=(j,zjl j ab)):=by rw[Hid,za4];simp[k1,k5,k2,k3,k4,k6,k7]
 clear k1 k5 k2 k3 k4 k6 k7;go_enter Tryz.func47,Tryz.ntmps47;go_wp2_with fail;obtain⟨W1,hW1⟩:∃W1,W1=(w.alloc (.cells #[.int .i64 ak,.int .i64 ah,.int .i64 ab,.int .i64 an,.string at0] 23)).alloc (.cells #[.int .i64 0,.int .i64 0,.string ⟨#[]⟩] 31):=⟨_,rfl⟩;have hz1:(w.alloc (.cells #[.int .i64 ak,.int .i64 ah,.int .i64 ab,.int .i64 an,.string at0] 23)).heap.size=w.heap.size+1:=by simp
 have hbW:Below w.heap.size w W1:=by rw[hW1];exact zae (zab _ _) (zab _ _)
 have HJ1:Hid (JAt W1 B ((w.heap.size+1)::X) j):=HJ.o.more hbW (by omega);have HB1:Hid (ButL [B] w.heap.size w W1):=ButL.of_below hbW;have KR:Hid (W1.heap[w.heap.size+1]?=some (.cells #[.int .i64 0,.int .i64 0,.string ⟨#[]⟩] 31 (0,0))):=by rw[hW1,←hz1];exact heap_alloc_new _ _
 have KA:Hid (W1.heap[w.heap.size]?=some (.cells #[.int .i64 ak,.int .i64 ah,.int .i64 ab,.int .i64 an,.string at0] 23 (0,0))):=by rw[hW1];exact zad (zab _ _) (by omega) (heap_alloc_new _ _)
 have hs1:W1.heap.size=w.heap.size+2:=by rw[hW1];simp
 have hrl:w.heap.size+1<W1.heap.size:=by omega
 have hrB:w.heap.size+1≠B:=by omega
 have HX2:Hid (∀x∈((w.heap.size+1)::X),x<W1.heap.size):=fun x hx=>by
  rcases List.mem_cons.1 hx with rfl|hx
  ·exact hrl
  ·have:=HX.o x hx;omega
 rw[←hW1];clear hW1 hz1;refine(zzn B ((w.heap.size+1)::X) j W1 ab HJ1.o HDN.o).mono ?_;rintro e w2 ⟨rfl,hJ2,hB2⟩;have KR2:Hid (w2.heap[w.heap.size+1]?=some (.cells #[.int .i64 0,.int .i64 0,.string ⟨#[]⟩] 31 (0,0))):=(hB2.block _ (by omega) (by simpa using hrB)).trans KR.o;have HJ2:=zaa hJ2;have HB2:Hid (ButL [B] w.heap.size w w2):=HB1.o.trans hB2 HB1.o.size (by simp);have hs2:W1.heap.size≤w2.heap.size:=hB2.size;clear hJ2 hB2;obtain⟨P,hP⟩:∃P,P=(j,zjl j ab):=⟨_,rfl⟩;rw[←hP] at HE HJ2⊢;have HE3:Hid (za4 j ⟨ak,ah,ab,an,at0⟩=(P.1,⟨P.2.code,P.2.n,P.2.text⟩)):=HE.o;rw[show vRp P.2=.agg #[.int .i64 P.2.code,.int .i64 P.2.n,.string P.2.text] from rfl];clear hP HE;obtain⟨⟨y0,y1,y2⟩,yf⟩:=zbj KR2.o;go_wp2;exact zbc HE3.o KR2.o HJ2.o HB2.o hrB hBX fun W u0 u1 u2=>by simp[results,Tryz.results47,go_sem,u0,u1,u2]
theorem zrj (B:Nat)(X:List Nat)(j:Jn)(w:World)(h:JAt w B X j)(hX:∀x∈X,x<w.heap.size)(hK:Ready j)(ac:Ac)(ht:ac.text.size≤maxLen):
  Calls Tryz.prog 47 #[.pointer (some ⟨B,0,none⟩),.agg #[.int .i64 ac.kind,.int .i64 ac.h,.int .i64 ac.b,.int .i64 ac.n,.string ac.text]] w (zdc w B X (za4 j ac)):=by
 obtain⟨ak,ah,ab,an,at0⟩:=ac;by_cases k1:ak=1
 ·subst k1;exact zz5 B X j w h hX hK ah ab an at0 ht
 by_cases k5:ak=5
 ·subst k5;exact zz6 B X j w h hX hK ah ab an at0 ht
 by_cases k2:ak=2
 ·subst k2;exact zz7 B X j w h hX hK ah ab an at0 ht
 by_cases k3:ak=3
 ·subst k3;exact zz8 B X j w h hX hK ah ab an at0 ht
 by_cases k4:ak=4
 ·subst k4;exact zz9 B X j w h hX hK ah ab an at0 ht
 by_cases k6:ak=6
 ·subst k6;exact z0a B X j w h hX hK ah ab an at0 ht
 by_cases k7:ak=7
 ·subst k7;exact z0b B X j w h hX hK ah ab an at0 ht
 exact z0c B X j w h hX hK ak ah ab an at0 ht k1 k5 k2 k3 k4 k6 k7
theorem Ready.bump {j:Jn}(h:Ready j)(x:Int)(h0:0≤x)(h1:x≤400):Ready {j with acts:=x}:=⟨h.done,h.found,h.next,h.seq,h.last,h.info,h.data,h.few,h.used0,h.used1,h0,h1⟩
theorem ztw (B:Nat)(X:List Nat)(j:Jn)(w:World)(h:JAt w B X j)(hX:∀x∈X,x<w.heap.size)(hK:Ready j)(ak ah ab an:Int)(at0:ByteArray)(hn:an≤9223372036854775807)(ht:at0.size≤maxLen)(hf:400≤j.acts):
  Calls Tryz.prog 15 #[.pointer (some ⟨B,0,none⟩),.agg #[.int .i64 ak,.int .i64 ah,.int .i64 ab,.int .i64 an,.string at0]] w (zdc w B X (doJ j ⟨ak,ah,ab,an,at0⟩)):=by
 have HJ:=zaa h;have hlt:=h.lt;have hBX:=h.1;have HX:=zaa hX;have HK:=zaa hK;have HTX:=zaa ht;have HAN:=zaa hn;have ha0:=hK.acts0;have ha1:=hK.acts1;have hwa:IntKind.i64.wrap (j.acts+1)=j.acts+1:=by rw[IntKind.wrap_i64];omega
 obtain⟨_,da,dc,db,dd,na,nc,nb,nd,ne,nf,sa,sc,sb,sd,se,sf,ca,cc,fa,fc,ta,tc,h1,_⟩:=id h;have c0:w.cell? ⟨B,0,none⟩=some (.int .i64 j.acts):=zaj h1 0;have fc0:w.frozen? ⟨B,0,none⟩=false:=frozen_of_row w _ _ _ _ h1;have c6:w.cell? ⟨B,6,none⟩=some (.bool j.down):=zaj h1 6;have fc6:w.frozen? ⟨B,6,none⟩=false:=frozen_of_row w _ _ _ _ h1;clear h hX hK hn ht h1;have hne:¬w.heap.size=B:=by omega
 have hne1:¬w.heap.size+1=B:=by omega
 have HE:Hid (doJ j ⟨ak,ah,ab,an,at0⟩=(j,zav 11)):=by rw[Hid,doJ,if_pos hf]
 have hf2:(400:Int)≤j.acts:=hf;go_enter Tryz.func15,Tryz.ntmps15;go_wp2_with fail;have hs0:w.heap.size=w.heap.size:=rfl;have HJ0:=HJ;have HB0:Hid (ButL [B] w.heap.size w w):=ButL.refl _ _ _;obtain⟨W1,hW1⟩:∃W1,W1=(w.alloc (.cells #[.int .i64 ak,.int .i64 ah,.int .i64 ab,.int .i64 an,.string at0] 23)).alloc (.cells #[.int .i64 0,.int .i64 0,.string ⟨#[]⟩] 31):=⟨_,rfl⟩;have hz1:(w.alloc (.cells #[.int .i64 ak,.int .i64 ah,.int .i64 ab,.int .i64 an,.string at0] 23)).heap.size=w.heap.size+1:=by simp
 have hbW:Below w.heap.size w W1:=by rw[hW1];exact zae (zab _ _) (zab _ _)
 have HJ1:Hid (JAt W1 B ((w.heap.size+1)::X) j):=HJ0.o.more hbW (by omega);have HB1:Hid (ButL [B] w.heap.size w W1):=HB0.o.trans (Y:=[]) (ButL.of_below hbW) (by omega) (by simp);have KR:Hid (W1.heap[w.heap.size+1]?=some (.cells #[.int .i64 0,.int .i64 0,.string ⟨#[]⟩] 31 (0,0))):=by rw[hW1,←hz1];exact heap_alloc_new _ _
 have hs1:W1.heap.size=w.heap.size+2:=by rw[hW1];simp
 have hrl:w.heap.size+1<W1.heap.size:=by omega
 have hrB:w.heap.size+1≠B:=by omega
 have HX2:Hid (∀x∈((w.heap.size+1)::X),x<W1.heap.size):=fun x hx=>by
  rcases List.mem_cons.1 hx with rfl|hx
  ·exact hrl
  ·have:=HX.o x hx;omega
 rw[←hW1];clear hW1 hz1;clear hf hf2;refine(zat 11 _).mono ?_;rintro e w2 ⟨rfl,hb2⟩;have KR2:=zaa (zad hb2 hrl KR.o);have HJ2:=zaa (HJ1.o.below hb2);have HB2:=zaa (HB1.o.trans (Y:=[]) (ButL.of_below hb2) HB1.o.size (by simp));clear hb2;obtain⟨⟨y0,y1,y2⟩,yf⟩:=zbj KR2.o;go_wp2;exact zbc HE.o KR2.o HJ2.o HB2.o hrB hBX fun W u0 u1 u2=>by simp[results,Tryz.results15,go_sem,u0,u1,u2]
theorem zw9 (B:Nat)(X:List Nat)(j:Jn)(w:World)(h:JAt w B X j)(hX:∀x∈X,x<w.heap.size)(hK:Ready j)(ak ah ab an:Int)(at0:ByteArray)(hn:an≤9223372036854775807)(ht:at0.size≤maxLen)(hf:¬400≤j.acts)(hk:ak<1):
  Calls Tryz.prog 15 #[.pointer (some ⟨B,0,none⟩),.agg #[.int .i64 ak,.int .i64 ah,.int .i64 ab,.int .i64 an,.string at0]] w (zdc w B X (doJ j ⟨ak,ah,ab,an,at0⟩)):=by
 have HJ:=zaa h;have hlt:=h.lt;have hBX:=h.1;have HX:=zaa hX;have HK:=zaa hK;have HTX:=zaa ht;have HAN:=zaa hn;have ha0:=hK.acts0;have ha1:=hK.acts1;have hwa:IntKind.i64.wrap (j.acts+1)=j.acts+1:=by rw[IntKind.wrap_i64];omega
 obtain⟨_,da,dc,db,dd,na,nc,nb,nd,ne,nf,sa,sc,sb,sd,se,sf,ca,cc,fa,fc,ta,tc,h1,_⟩:=id h;have c0:w.cell? ⟨B,0,none⟩=some (.int .i64 j.acts):=zaj h1 0;have fc0:w.frozen? ⟨B,0,none⟩=false:=frozen_of_row w _ _ _ _ h1;have c6:w.cell? ⟨B,6,none⟩=some (.bool j.down):=zaj h1 6;have fc6:w.frozen? ⟨B,6,none⟩=false:=frozen_of_row w _ _ _ _ h1;clear h hX hK hn ht h1;have hne:¬w.heap.size=B:=by omega
 have hne1:¬w.heap.size+1=B:=by omega
 have HE:Hid (doJ j ⟨ak,ah,ab,an,at0⟩=(({j with acts:=j.acts+1}:Jn),zav 3)):=by rw[Hid,doJ,if_neg hf,zkk,if_pos (.inl hk)]
 have hf2:¬(j.acts≥400):=hf;go_enter Tryz.func15,Tryz.ntmps15;go_wp2_with fail;obtain⟨W0,hW0⟩:∃W0,W0=w.setCell ⟨B,0,none⟩ (.int .i64 (j.acts+1)):=⟨_,rfl⟩;rw[←hW0];have hs0:W0.heap.size=w.heap.size:=by rw[hW0];simp[World.setCell]
 have HJ0:Hid (JAt W0 B X ({j with acts:=j.acts+1}:Jn)):=by rw[hW0];exact HJ.o.putActs _
 have HB0:Hid (ButL [B] w.heap.size w W0):=by rw[hW0];exact(ButL.refl _ _ _).set (.inl (by simp)) 0 _
 clear hW0;obtain⟨W1,hW1⟩:∃W1,W1=(W0.alloc (.cells #[.int .i64 ak,.int .i64 ah,.int .i64 ab,.int .i64 an,.string at0] 23)).alloc (.cells #[.int .i64 0,.int .i64 0,.string ⟨#[]⟩] 31):=⟨_,rfl⟩;have hz1:(W0.alloc (.cells #[.int .i64 ak,.int .i64 ah,.int .i64 ab,.int .i64 an,.string at0] 23)).heap.size=w.heap.size+1:=by simp[hs0]
 have hbW:Below W0.heap.size W0 W1:=by rw[hW1];exact zae (zab _ _) (zab _ _)
 have HJ1:Hid (JAt W1 B ((w.heap.size+1)::X) ({j with acts:=j.acts+1}:Jn)):=HJ0.o.more hbW (by omega);have HB1:Hid (ButL [B] w.heap.size w W1):=HB0.o.trans (Y:=[]) (ButL.of_below hbW) (by omega) (by simp);have KR:Hid (W1.heap[w.heap.size+1]?=some (.cells #[.int .i64 0,.int .i64 0,.string ⟨#[]⟩] 31 (0,0))):=by rw[hW1,←hz1];exact heap_alloc_new _ _
 have hs1:W1.heap.size=w.heap.size+2:=by rw[hW1];simp[hs0]
 have hrl:w.heap.size+1<W1.heap.size:=by omega
 have hrB:w.heap.size+1≠B:=by omega
 have HX2:Hid (∀x∈((w.heap.size+1)::X),x<W1.heap.size):=fun x hx=>by
  rcases List.mem_cons.1 hx with rfl|hx
  ·exact hrl
  ·have:=HX.o x hx;omega
 rw[←hW1];clear hW1 hz1;clear hf hf2 hk;refine(zat 3 _).mono ?_;rintro e w2 ⟨rfl,hb2⟩;have KR2:=zaa (zad hb2 hrl KR.o);have HJ2:=zaa (HJ1.o.below hb2);have HB2:=zaa (HB1.o.trans (Y:=[]) (ButL.of_below hb2) HB1.o.size (by simp));clear hb2;obtain⟨⟨y0,y1,y2⟩,yf⟩:=zbj KR2.o;go_wp2;exact zbc HE.o KR2.o HJ2.o HB2.o hrB hBX fun W u0 u1 u2=>by simp[results,Tryz.results15,go_sem,u0,u1,u2]
theorem ztx (B:Nat)(X:List Nat)(j:Jn)(w:World)(h:JAt w B X j)(hX:∀x∈X,x<w.heap.size)(hK:Ready j)(ak ah ab an:Int)(at0:ByteArray)(hn:an≤9223372036854775807)(ht:at0.size≤maxLen)(hf:¬400≤j.acts)(hk:11<ak):
  Calls Tryz.prog 15 #[.pointer (some ⟨B,0,none⟩),.agg #[.int .i64 ak,.int .i64 ah,.int .i64 ab,.int .i64 an,.string at0]] w (zdc w B X (doJ j ⟨ak,ah,ab,an,at0⟩)):=by
 have HJ:=zaa h;have hlt:=h.lt;have hBX:=h.1;have HX:=zaa hX;have HK:=zaa hK;have HTX:=zaa ht;have HAN:=zaa hn;have ha0:=hK.acts0;have ha1:=hK.acts1;have hwa:IntKind.i64.wrap (j.acts+1)=j.acts+1:=by rw[IntKind.wrap_i64];omega
 obtain⟨_,da,dc,db,dd,na,nc,nb,nd,ne,nf,sa,sc,sb,sd,se,sf,ca,cc,fa,fc,ta,tc,h1,_⟩:=id h;have c0:w.cell? ⟨B,0,none⟩=some (.int .i64 j.acts):=zaj h1 0;have fc0:w.frozen? ⟨B,0,none⟩=false:=frozen_of_row w _ _ _ _ h1;have c6:w.cell? ⟨B,6,none⟩=some (.bool j.down):=zaj h1 6;have fc6:w.frozen? ⟨B,6,none⟩=false:=frozen_of_row w _ _ _ _ h1;clear h hX hK hn ht h1;have hne:¬w.heap.size=B:=by omega
 have hne1:¬w.heap.size+1=B:=by omega
 have HE:Hid (doJ j ⟨ak,ah,ab,an,at0⟩=(({j with acts:=j.acts+1}:Jn),zav 3)):=by rw[Hid,doJ,if_neg hf,zkk,if_pos (.inr hk)]
 have hf2:¬(j.acts≥400):=hf;have hk2:¬ak<1:=by omega
 go_enter Tryz.func15,Tryz.ntmps15;go_wp2_with fail;obtain⟨W0,hW0⟩:∃W0,W0=w.setCell ⟨B,0,none⟩ (.int .i64 (j.acts+1)):=⟨_,rfl⟩;rw[←hW0];have hs0:W0.heap.size=w.heap.size:=by rw[hW0];simp[World.setCell]
 have HJ0:Hid (JAt W0 B X ({j with acts:=j.acts+1}:Jn)):=by rw[hW0];exact HJ.o.putActs _
 have HB0:Hid (ButL [B] w.heap.size w W0):=by rw[hW0];exact(ButL.refl _ _ _).set (.inl (by simp)) 0 _
 clear hW0;obtain⟨W1,hW1⟩:∃W1,W1=(W0.alloc (.cells #[.int .i64 ak,.int .i64 ah,.int .i64 ab,.int .i64 an,.string at0] 23)).alloc (.cells #[.int .i64 0,.int .i64 0,.string ⟨#[]⟩] 31):=⟨_,rfl⟩;have hz1:(W0.alloc (.cells #[.int .i64 ak,.int .i64 ah,.int .i64 ab,.int .i64 an,.string at0] 23)).heap.size=w.heap.size+1:=by simp[hs0]
 have hbW:Below W0.heap.size W0 W1:=by rw[hW1];exact zae (zab _ _) (zab _ _)
 have HJ1:Hid (JAt W1 B ((w.heap.size+1)::X) ({j with acts:=j.acts+1}:Jn)):=HJ0.o.more hbW (by omega);have HB1:Hid (ButL [B] w.heap.size w W1):=HB0.o.trans (Y:=[]) (ButL.of_below hbW) (by omega) (by simp);have KR:Hid (W1.heap[w.heap.size+1]?=some (.cells #[.int .i64 0,.int .i64 0,.string ⟨#[]⟩] 31 (0,0))):=by rw[hW1,←hz1];exact heap_alloc_new _ _
 have hs1:W1.heap.size=w.heap.size+2:=by rw[hW1];simp[hs0]
 have hrl:w.heap.size+1<W1.heap.size:=by omega
 have hrB:w.heap.size+1≠B:=by omega
 have HX2:Hid (∀x∈((w.heap.size+1)::X),x<W1.heap.size):=fun x hx=>by
  rcases List.mem_cons.1 hx with rfl|hx
  ·exact hrl
  ·have:=HX.o x hx;omega
 rw[←hW1];clear hW1 hz1;clear hf hf2 hk hk2;refine(zat 3 _).mono ?_;rintro e w2 ⟨rfl,hb2⟩;have KR2:=zaa (zad hb2 hrl KR.o);have HJ2:=zaa (HJ1.o.below hb2);have HB2:=zaa (HB1.o.trans (Y:=[]) (ButL.of_below hb2) HB1.o.size (by simp));clear hb2;obtain⟨⟨y0,y1,y2⟩,yf⟩:=zbj KR2.o;go_wp2;exact zbc HE.o KR2.o HJ2.o HB2.o hrB hBX fun W u0 u1 u2=>by simp[results,Tryz.results15,go_sem,u0,u1,u2]
theorem z2f (B:Nat)(X:List Nat)(j:Jn)(w:World)(h:JAt w B X j)(hX:∀x∈X,x<w.heap.size)(hK:Ready j)(ah ab an:Int)(at0:ByteArray)(hn:an≤9223372036854775807)(ht:at0.size≤maxLen)(hf:¬400≤j.acts):
  Calls Tryz.prog 15 #[.pointer (some ⟨B,0,none⟩),.agg #[.int .i64 8,.int .i64 ah,.int .i64 ab,.int .i64 an,.string at0]] w (zdc w B X (doJ j ⟨8,ah,ab,an,at0⟩)):=by
 have HJ:=zaa h;have hlt:=h.lt;have hBX:=h.1;have HX:=zaa hX;have HK:=zaa hK;have HTX:=zaa ht;have HAN:=zaa hn;have ha0:=hK.acts0;have ha1:=hK.acts1;have hwa:IntKind.i64.wrap (j.acts+1)=j.acts+1:=by rw[IntKind.wrap_i64];omega
 obtain⟨_,da,dc,db,dd,na,nc,nb,nd,ne,nf,sa,sc,sb,sd,se,sf,ca,cc,fa,fc,ta,tc,h1,_⟩:=id h;have c0:w.cell? ⟨B,0,none⟩=some (.int .i64 j.acts):=zaj h1 0;have fc0:w.frozen? ⟨B,0,none⟩=false:=frozen_of_row w _ _ _ _ h1;have c6:w.cell? ⟨B,6,none⟩=some (.bool j.down):=zaj h1 6;have fc6:w.frozen? ⟨B,6,none⟩=false:=frozen_of_row w _ _ _ _ h1;clear h hX hK hn ht h1;have hne:¬w.heap.size=B:=by omega
 have hne1:¬w.heap.size+1=B:=by omega
 have HE:Hid (doJ j ⟨8,ah,ab,an,at0⟩=ziz ({j with acts:=j.acts+1}:Jn)):=by rw[Hid,doJ,if_neg hf,zkk];simp
 have hf2:¬(j.acts≥400):=hf;go_enter Tryz.func15,Tryz.ntmps15;go_wp2_with fail;obtain⟨W0,hW0⟩:∃W0,W0=w.setCell ⟨B,0,none⟩ (.int .i64 (j.acts+1)):=⟨_,rfl⟩;rw[←hW0];have hs0:W0.heap.size=w.heap.size:=by rw[hW0];simp[World.setCell]
 have HJ0:Hid (JAt W0 B X ({j with acts:=j.acts+1}:Jn)):=by rw[hW0];exact HJ.o.putActs _
 have HB0:Hid (ButL [B] w.heap.size w W0):=by rw[hW0];exact(ButL.refl _ _ _).set (.inl (by simp)) 0 _
 clear hW0;obtain⟨W1,hW1⟩:∃W1,W1=(W0.alloc (.cells #[.int .i64 8,.int .i64 ah,.int .i64 ab,.int .i64 an,.string at0] 23)).alloc (.cells #[.int .i64 0,.int .i64 0,.string ⟨#[]⟩] 31):=⟨_,rfl⟩;have hz1:(W0.alloc (.cells #[.int .i64 8,.int .i64 ah,.int .i64 ab,.int .i64 an,.string at0] 23)).heap.size=w.heap.size+1:=by simp[hs0]
 have hbW:Below W0.heap.size W0 W1:=by rw[hW1];exact zae (zab _ _) (zab _ _)
 have HJ1:Hid (JAt W1 B ((w.heap.size+1)::X) ({j with acts:=j.acts+1}:Jn)):=HJ0.o.more hbW (by omega);have HB1:Hid (ButL [B] w.heap.size w W1):=HB0.o.trans (Y:=[]) (ButL.of_below hbW) (by omega) (by simp);have KR:Hid (W1.heap[w.heap.size+1]?=some (.cells #[.int .i64 0,.int .i64 0,.string ⟨#[]⟩] 31 (0,0))):=by rw[hW1,←hz1];exact heap_alloc_new _ _
 have hs1:W1.heap.size=w.heap.size+2:=by rw[hW1];simp[hs0]
 have hrl:w.heap.size+1<W1.heap.size:=by omega
 have hrB:w.heap.size+1≠B:=by omega
 have HX2:Hid (∀x∈((w.heap.size+1)::X),x<W1.heap.size):=fun x hx=>by
  rcases List.mem_cons.1 hx with rfl|hx
  ·exact hrl
  ·have:=HX.o x hx;omega
 rw[←hW1];clear hW1 hz1;clear hf hf2;refine(zzz B ((w.heap.size+1)::X) ({j with acts:=j.acts+1}:Jn) W1 HJ1.o HX2.o HK.o.done HK.o.found HK.o.next).mono ?_;rintro e w2 ⟨rfl,hJ2,hB2⟩;have KR2:Hid (w2.heap[w.heap.size+1]?=some (.cells #[.int .i64 0,.int .i64 0,.string ⟨#[]⟩] 31 (0,0))):=(hB2.block _ (by omega) (by simpa using hrB)).trans KR.o;have HJ2:=zaa hJ2;have HB2:Hid (ButL [B] w.heap.size w w2):=HB1.o.trans hB2 HB1.o.size (by simp);have hs2:W1.heap.size≤w2.heap.size:=hB2.size;clear hJ2 hB2;obtain⟨P,hP⟩:∃P,P=ziz ({j with acts:=j.acts+1}:Jn):=⟨_,rfl⟩;rw[←hP] at HE HJ2⊢;have HE3:Hid (doJ j ⟨8,ah,ab,an,at0⟩=(P.1,⟨P.2.code,P.2.n,P.2.text⟩)):=HE.o;rw[show vRp P.2=.agg #[.int .i64 P.2.code,.int .i64 P.2.n,.string P.2.text] from rfl];clear hP HE;obtain⟨⟨y0,y1,y2⟩,yf⟩:=zbj KR2.o;go_wp2;exact zbc HE3.o KR2.o HJ2.o HB2.o hrB hBX fun W u0 u1 u2=>by simp[results,Tryz.results15,go_sem,u0,u1,u2]
theorem z0d (B:Nat)(X:List Nat)(j:Jn)(w:World)(h:JAt w B X j)(hX:∀x∈X,x<w.heap.size)(hK:Ready j)(ah ab an:Int)(at0:ByteArray)(hn:an≤9223372036854775807)(ht:at0.size≤maxLen)(hf:¬400≤j.acts):
  Calls Tryz.prog 15 #[.pointer (some ⟨B,0,none⟩),.agg #[.int .i64 10,.int .i64 ah,.int .i64 ab,.int .i64 an,.string at0]] w (zdc w B X (doJ j ⟨10,ah,ab,an,at0⟩)):=by
 have HJ:=zaa h;have hlt:=h.lt;have hBX:=h.1;have HX:=zaa hX;have HK:=zaa hK;have HTX:=zaa ht;have HAN:=zaa hn;have ha0:=hK.acts0;have ha1:=hK.acts1;have hwa:IntKind.i64.wrap (j.acts+1)=j.acts+1:=by rw[IntKind.wrap_i64];omega
 obtain⟨_,da,dc,db,dd,na,nc,nb,nd,ne,nf,sa,sc,sb,sd,se,sf,ca,cc,fa,fc,ta,tc,h1,_⟩:=id h;have c0:w.cell? ⟨B,0,none⟩=some (.int .i64 j.acts):=zaj h1 0;have fc0:w.frozen? ⟨B,0,none⟩=false:=frozen_of_row w _ _ _ _ h1;have c6:w.cell? ⟨B,6,none⟩=some (.bool j.down):=zaj h1 6;have fc6:w.frozen? ⟨B,6,none⟩=false:=frozen_of_row w _ _ _ _ h1;clear h hX hK hn ht h1;have hne:¬w.heap.size=B:=by omega
 have hne1:¬w.heap.size+1=B:=by omega
 have HE:Hid (doJ j ⟨10,ah,ab,an,at0⟩=zi0 ({j with acts:=j.acts+1}:Jn) an):=by rw[Hid,doJ,if_neg hf,zkk];simp
 have hf2:¬(j.acts≥400):=hf;go_enter Tryz.func15,Tryz.ntmps15;go_wp2_with fail;obtain⟨W0,hW0⟩:∃W0,W0=w.setCell ⟨B,0,none⟩ (.int .i64 (j.acts+1)):=⟨_,rfl⟩;rw[←hW0];have hs0:W0.heap.size=w.heap.size:=by rw[hW0];simp[World.setCell]
 have HJ0:Hid (JAt W0 B X ({j with acts:=j.acts+1}:Jn)):=by rw[hW0];exact HJ.o.putActs _
 have HB0:Hid (ButL [B] w.heap.size w W0):=by rw[hW0];exact(ButL.refl _ _ _).set (.inl (by simp)) 0 _
 clear hW0;obtain⟨W1,hW1⟩:∃W1,W1=(W0.alloc (.cells #[.int .i64 10,.int .i64 ah,.int .i64 ab,.int .i64 an,.string at0] 23)).alloc (.cells #[.int .i64 0,.int .i64 0,.string ⟨#[]⟩] 31):=⟨_,rfl⟩;have hz1:(W0.alloc (.cells #[.int .i64 10,.int .i64 ah,.int .i64 ab,.int .i64 an,.string at0] 23)).heap.size=w.heap.size+1:=by simp[hs0]
 have hbW:Below W0.heap.size W0 W1:=by rw[hW1];exact zae (zab _ _) (zab _ _)
 have HJ1:Hid (JAt W1 B ((w.heap.size+1)::X) ({j with acts:=j.acts+1}:Jn)):=HJ0.o.more hbW (by omega);have HB1:Hid (ButL [B] w.heap.size w W1):=HB0.o.trans (Y:=[]) (ButL.of_below hbW) (by omega) (by simp);have KR:Hid (W1.heap[w.heap.size+1]?=some (.cells #[.int .i64 0,.int .i64 0,.string ⟨#[]⟩] 31 (0,0))):=by rw[hW1,←hz1];exact heap_alloc_new _ _
 have hs1:W1.heap.size=w.heap.size+2:=by rw[hW1];simp[hs0]
 have hrl:w.heap.size+1<W1.heap.size:=by omega
 have hrB:w.heap.size+1≠B:=by omega
 have HX2:Hid (∀x∈((w.heap.size+1)::X),x<W1.heap.size):=fun x hx=>by
  rcases List.mem_cons.1 hx with rfl|hx
  ·exact hrl
  ·have:=HX.o x hx;omega
 rw[←hW1];clear hW1 hz1;clear hf hf2;refine(zw8 B ((w.heap.size+1)::X) ({j with acts:=j.acts+1}:Jn) W1 HJ1.o HX2.o an HAN.o).mono ?_;rintro e w2 ⟨rfl,hJ2,hB2⟩;have KR2:Hid (w2.heap[w.heap.size+1]?=some (.cells #[.int .i64 0,.int .i64 0,.string ⟨#[]⟩] 31 (0,0))):=(hB2.block _ (by omega) (by simpa using hrB)).trans KR.o;have HJ2:=zaa hJ2;have HB2:Hid (ButL [B] w.heap.size w w2):=HB1.o.trans hB2 HB1.o.size (by simp);have hs2:W1.heap.size≤w2.heap.size:=hB2.size;clear hJ2 hB2;obtain⟨P,hP⟩:∃P,P=zi0 ({j with acts:=j.acts+1}:Jn) an:=⟨_,rfl⟩;rw[←hP] at HE HJ2⊢;have HE3:Hid (doJ j ⟨10,ah,ab,an,at0⟩=(P.1,⟨P.2.code,P.2.n,P.2.text⟩)):=HE.o;rw[show vRp P.2=.agg #[.int .i64 P.2.code,.int .i64 P.2.n,.string P.2.text] from rfl];clear hP HE;obtain⟨⟨y0,y1,y2⟩,yf⟩:=zbj KR2.o;go_wp2;exact zbc HE3.o KR2.o HJ2.o HB2.o hrB hBX fun W u0 u1 u2=>by simp[results,Tryz.results15,go_sem,u0,u1,u2]
theorem z0e (B:Nat)(X:List Nat)(j:Jn)(w:World)(h:JAt w B X j)(hX:∀x∈X,x<w.heap.size)(hK:Ready j)(ah ab an:Int)(at0:ByteArray)(hn:an≤9223372036854775807)(ht:at0.size≤maxLen)(hf:¬400≤j.acts):
  Calls Tryz.prog 15 #[.pointer (some ⟨B,0,none⟩),.agg #[.int .i64 11,.int .i64 ah,.int .i64 ab,.int .i64 an,.string at0]] w (zdc w B X (doJ j ⟨11,ah,ab,an,at0⟩)):=by
 have HJ:=zaa h;have hlt:=h.lt;have hBX:=h.1;have HX:=zaa hX;have HK:=zaa hK;have HTX:=zaa ht;have HAN:=zaa hn;have ha0:=hK.acts0;have ha1:=hK.acts1;have hwa:IntKind.i64.wrap (j.acts+1)=j.acts+1:=by rw[IntKind.wrap_i64];omega
 obtain⟨_,da,dc,db,dd,na,nc,nb,nd,ne,nf,sa,sc,sb,sd,se,sf,ca,cc,fa,fc,ta,tc,h1,_⟩:=id h;have c0:w.cell? ⟨B,0,none⟩=some (.int .i64 j.acts):=zaj h1 0;have fc0:w.frozen? ⟨B,0,none⟩=false:=frozen_of_row w _ _ _ _ h1;have c6:w.cell? ⟨B,6,none⟩=some (.bool j.down):=zaj h1 6;have fc6:w.frozen? ⟨B,6,none⟩=false:=frozen_of_row w _ _ _ _ h1;clear h hX hK hn ht h1;have hne:¬w.heap.size=B:=by omega
 have hne1:¬w.heap.size+1=B:=by omega
 have HE:Hid (doJ j ⟨11,ah,ab,an,at0⟩=zb7 ({j with acts:=j.acts+1}:Jn)):=by rw[Hid,doJ,if_neg hf,zkk];simp
 have hf2:¬(j.acts≥400):=hf;go_enter Tryz.func15,Tryz.ntmps15;go_wp2_with fail;obtain⟨W0,hW0⟩:∃W0,W0=w.setCell ⟨B,0,none⟩ (.int .i64 (j.acts+1)):=⟨_,rfl⟩;rw[←hW0];have hs0:W0.heap.size=w.heap.size:=by rw[hW0];simp[World.setCell]
 have HJ0:Hid (JAt W0 B X ({j with acts:=j.acts+1}:Jn)):=by rw[hW0];exact HJ.o.putActs _
 have HB0:Hid (ButL [B] w.heap.size w W0):=by rw[hW0];exact(ButL.refl _ _ _).set (.inl (by simp)) 0 _
 clear hW0;obtain⟨W1,hW1⟩:∃W1,W1=(W0.alloc (.cells #[.int .i64 11,.int .i64 ah,.int .i64 ab,.int .i64 an,.string at0] 23)).alloc (.cells #[.int .i64 0,.int .i64 0,.string ⟨#[]⟩] 31):=⟨_,rfl⟩;have hz1:(W0.alloc (.cells #[.int .i64 11,.int .i64 ah,.int .i64 ab,.int .i64 an,.string at0] 23)).heap.size=w.heap.size+1:=by simp[hs0]
 have hbW:Below W0.heap.size W0 W1:=by rw[hW1];exact zae (zab _ _) (zab _ _)
 have HJ1:Hid (JAt W1 B ((w.heap.size+1)::X) ({j with acts:=j.acts+1}:Jn)):=HJ0.o.more hbW (by omega);have HB1:Hid (ButL [B] w.heap.size w W1):=HB0.o.trans (Y:=[]) (ButL.of_below hbW) (by omega) (by simp);have KR:Hid (W1.heap[w.heap.size+1]?=some (.cells #[.int .i64 0,.int .i64 0,.string ⟨#[]⟩] 31 (0,0))):=by rw[hW1,←hz1];exact heap_alloc_new _ _
 have hs1:W1.heap.size=w.heap.size+2:=by rw[hW1];simp[hs0]
 have hrl:w.heap.size+1<W1.heap.size:=by omega
 have hrB:w.heap.size+1≠B:=by omega
 have HX2:Hid (∀x∈((w.heap.size+1)::X),x<W1.heap.size):=fun x hx=>by
  rcases List.mem_cons.1 hx with rfl|hx
  ·exact hrl
  ·have:=HX.o x hx;omega
 rw[←hW1];clear hW1 hz1;clear hf hf2;refine(zzq B ((w.heap.size+1)::X) ({j with acts:=j.acts+1}:Jn) W1 HJ1.o HX2.o HK.o.few).mono ?_;rintro e w2 ⟨rfl,hJ2,hB2⟩;have KR2:Hid (w2.heap[w.heap.size+1]?=some (.cells #[.int .i64 0,.int .i64 0,.string ⟨#[]⟩] 31 (0,0))):=(hB2.block _ (by omega) (by simpa using hrB)).trans KR.o;have HJ2:=zaa hJ2;have HB2:Hid (ButL [B] w.heap.size w w2):=HB1.o.trans hB2 HB1.o.size (by simp);have hs2:W1.heap.size≤w2.heap.size:=hB2.size;clear hJ2 hB2;obtain⟨P,hP⟩:∃P,P=zb7 ({j with acts:=j.acts+1}:Jn):=⟨_,rfl⟩;rw[←hP] at HE HJ2⊢;have HE3:Hid (doJ j ⟨11,ah,ab,an,at0⟩=(P.1,⟨P.2.code,P.2.n,P.2.text⟩)):=HE.o;rw[show vRp P.2=.agg #[.int .i64 P.2.code,.int .i64 P.2.n,.string P.2.text] from rfl];clear hP HE;obtain⟨⟨y0,y1,y2⟩,yf⟩:=zbj KR2.o;go_wp2;exact zbc HE3.o KR2.o HJ2.o HB2.o hrB hBX fun W u0 u1 u2=>by simp[results,Tryz.results15,go_sem,u0,u1,u2]
theorem zty (B:Nat)(X:List Nat)(j:Jn)(w:World)(h:JAt w B X j)(hX:∀x∈X,x<w.heap.size)(hK:Ready j)(ak ah ab an:Int)(at0:ByteArray)(hn:an≤9223372036854775807)(ht:at0.size≤maxLen)(hf:¬400≤j.acts)(h0:1≤ak)(h11:ak≤11)(k8:¬ak=8)(k10:¬ak=10)(k11:¬ak=11)(hd:j.down=true):
  Calls Tryz.prog 15 #[.pointer (some ⟨B,0,none⟩),.agg #[.int .i64 ak,.int .i64 ah,.int .i64 ab,.int .i64 an,.string at0]] w (zdc w B X (doJ j ⟨ak,ah,ab,an,at0⟩)):=by
 have HJ:=zaa h;have hlt:=h.lt;have hBX:=h.1;have HX:=zaa hX;have HK:=zaa hK;have HTX:=zaa ht;have HAN:=zaa hn;have ha0:=hK.acts0;have ha1:=hK.acts1;have hwa:IntKind.i64.wrap (j.acts+1)=j.acts+1:=by rw[IntKind.wrap_i64];omega
 obtain⟨_,da,dc,db,dd,na,nc,nb,nd,ne,nf,sa,sc,sb,sd,se,sf,ca,cc,fa,fc,ta,tc,h1,_⟩:=id h;have c0:w.cell? ⟨B,0,none⟩=some (.int .i64 j.acts):=zaj h1 0;have fc0:w.frozen? ⟨B,0,none⟩=false:=frozen_of_row w _ _ _ _ h1;have c6:w.cell? ⟨B,6,none⟩=some (.bool j.down):=zaj h1 6;have fc6:w.frozen? ⟨B,6,none⟩=false:=frozen_of_row w _ _ _ _ h1;clear h hX hK hn ht h1;have hne:¬w.heap.size=B:=by omega
 have hne1:¬w.heap.size+1=B:=by omega
 have HE:Hid (doJ j ⟨ak,ah,ab,an,at0⟩=(({j with acts:=j.acts+1}:Jn),zav 10)):=by rw[Hid,doJ,if_neg hf,zkk,if_neg (by simp only;omega),if_neg k8,if_neg k10,if_neg k11,if_pos hd]
 have hf2:¬(j.acts≥400):=hf;have b8:(ak==8)=false:=by simpa using k8
 have b10:(ak==10)=false:=by simpa using k10
 have b11:(ak==11)=false:=by simpa using k11
 have r1:¬ak<1:=by omega
 have r2:¬ak>11:=by omega
 rw[hd] at c6;go_enter Tryz.func15,Tryz.ntmps15;go_wp2_with fail;obtain⟨W0,hW0⟩:∃W0,W0=w.setCell ⟨B,0,none⟩ (.int .i64 (j.acts+1)):=⟨_,rfl⟩;rw[←hW0];have hs0:W0.heap.size=w.heap.size:=by rw[hW0];simp[World.setCell]
 have HJ0:Hid (JAt W0 B X ({j with acts:=j.acts+1}:Jn)):=by rw[hW0];exact HJ.o.putActs _
 have HB0:Hid (ButL [B] w.heap.size w W0):=by rw[hW0];exact(ButL.refl _ _ _).set (.inl (by simp)) 0 _
 clear hW0;obtain⟨W1,hW1⟩:∃W1,W1=(W0.alloc (.cells #[.int .i64 ak,.int .i64 ah,.int .i64 ab,.int .i64 an,.string at0] 23)).alloc (.cells #[.int .i64 0,.int .i64 0,.string ⟨#[]⟩] 31):=⟨_,rfl⟩;have hz1:(W0.alloc (.cells #[.int .i64 ak,.int .i64 ah,.int .i64 ab,.int .i64 an,.string at0] 23)).heap.size=w.heap.size+1:=by simp[hs0]
 have hbW:Below W0.heap.size W0 W1:=by rw[hW1];exact zae (zab _ _) (zab _ _)
 have HJ1:Hid (JAt W1 B ((w.heap.size+1)::X) ({j with acts:=j.acts+1}:Jn)):=HJ0.o.more hbW (by omega);have HB1:Hid (ButL [B] w.heap.size w W1):=HB0.o.trans (Y:=[]) (ButL.of_below hbW) (by omega) (by simp);have KR:Hid (W1.heap[w.heap.size+1]?=some (.cells #[.int .i64 0,.int .i64 0,.string ⟨#[]⟩] 31 (0,0))):=by rw[hW1,←hz1];exact heap_alloc_new _ _
 have hs1:W1.heap.size=w.heap.size+2:=by rw[hW1];simp[hs0]
 have hrl:w.heap.size+1<W1.heap.size:=by omega
 have hrB:w.heap.size+1≠B:=by omega
 have HX2:Hid (∀x∈((w.heap.size+1)::X),x<W1.heap.size):=fun x hx=>by
  rcases List.mem_cons.1 hx with rfl|hx
  ·exact hrl
  ·have:=HX.o x hx;omega
 rw[←hW1];clear hW1 hz1;clear hf hf2 k8 b8 k10 b10 k11 b11 r1 r2 h0 h11;refine(zat 10 _).mono ?_;rintro e w2 ⟨rfl,hb2⟩;have KR2:=zaa (zad hb2 hrl KR.o);have HJ2:=zaa (HJ1.o.below hb2);have HB2:=zaa (HB1.o.trans (Y:=[]) (ButL.of_below hb2) HB1.o.size (by simp));clear hb2;obtain⟨⟨y0,y1,y2⟩,yf⟩:=zbj KR2.o;go_wp2;exact zbc HE.o KR2.o HJ2.o HB2.o hrB hBX fun W u0 u1 u2=>by simp[results,Tryz.results15,go_sem,u0,u1,u2]
theorem z0f (B:Nat)(X:List Nat)(j:Jn)(w:World)(h:JAt w B X j)(hX:∀x∈X,x<w.heap.size)(hK:Ready j)(ak ah ab an:Int)(at0:ByteArray)(hn:an≤9223372036854775807)(ht:at0.size≤maxLen)(hf:¬400≤j.acts)(h0:1≤ak)(h11:ak≤11)(k8:¬ak=8)(k10:¬ak=10)(k11:¬ak=11)(hd:j.down=false):
  Calls Tryz.prog 15 #[.pointer (some ⟨B,0,none⟩),.agg #[.int .i64 ak,.int .i64 ah,.int .i64 ab,.int .i64 an,.string at0]] w (zdc w B X (doJ j ⟨ak,ah,ab,an,at0⟩)):=by
 have HJ:=zaa h;have hlt:=h.lt;have hBX:=h.1;have HX:=zaa hX;have HK:=zaa hK;have HTX:=zaa ht;have HAN:=zaa hn;have ha0:=hK.acts0;have ha1:=hK.acts1;have hwa:IntKind.i64.wrap (j.acts+1)=j.acts+1:=by rw[IntKind.wrap_i64];omega
 obtain⟨_,da,dc,db,dd,na,nc,nb,nd,ne,nf,sa,sc,sb,sd,se,sf,ca,cc,fa,fc,ta,tc,h1,_⟩:=id h;have c0:w.cell? ⟨B,0,none⟩=some (.int .i64 j.acts):=zaj h1 0;have fc0:w.frozen? ⟨B,0,none⟩=false:=frozen_of_row w _ _ _ _ h1;have c6:w.cell? ⟨B,6,none⟩=some (.bool j.down):=zaj h1 6;have fc6:w.frozen? ⟨B,6,none⟩=false:=frozen_of_row w _ _ _ _ h1;clear h hX hK hn ht h1;have hne:¬w.heap.size=B:=by omega
 have hne1:¬w.heap.size+1=B:=by omega
 have HE:Hid (doJ j ⟨ak,ah,ab,an,at0⟩=za4 ({j with acts:=j.acts+1}:Jn) ⟨ak,ah,ab,an,at0⟩):=by rw[Hid,doJ,if_neg hf,zkk,if_neg (by simp only;omega),if_neg k8,if_neg k10,if_neg k11,if_neg (by simp[hd])]
 have HKB:Hid (Ready ({j with acts:=j.acts+1}:Jn)):=HK.o.bump _ (by omega) (by omega);have hf2:¬(j.acts≥400):=hf;have b8:(ak==8)=false:=by simpa using k8
 have b10:(ak==10)=false:=by simpa using k10
 have b11:(ak==11)=false:=by simpa using k11
 have r1:¬ak<1:=by omega
 have r2:¬ak>11:=by omega
 rw[hd] at c6;go_enter Tryz.func15,Tryz.ntmps15;go_wp2_with fail;obtain⟨W0,hW0⟩:∃W0,W0=w.setCell ⟨B,0,none⟩ (.int .i64 (j.acts+1)):=⟨_,rfl⟩;rw[←hW0];have hs0:W0.heap.size=w.heap.size:=by rw[hW0];simp[World.setCell]
 have HJ0:Hid (JAt W0 B X ({j with acts:=j.acts+1}:Jn)):=by rw[hW0];exact HJ.o.putActs _
 have HB0:Hid (ButL [B] w.heap.size w W0):=by rw[hW0];exact(ButL.refl _ _ _).set (.inl (by simp)) 0 _
 clear hW0;obtain⟨W1,hW1⟩:∃W1,W1=(W0.alloc (.cells #[.int .i64 ak,.int .i64 ah,.int .i64 ab,.int .i64 an,.string at0] 23)).alloc (.cells #[.int .i64 0,.int .i64 0,.string ⟨#[]⟩] 31):=⟨_,rfl⟩;have hz1:(W0.alloc (.cells #[.int .i64 ak,.int .i64 ah,.int .i64 ab,.int .i64 an,.string at0] 23)).heap.size=w.heap.size+1:=by simp[hs0]
 have hbW:Below W0.heap.size W0 W1:=by rw[hW1];exact zae (zab _ _) (zab _ _)
 have HJ1:Hid (JAt W1 B ((w.heap.size+1)::X) ({j with acts:=j.acts+1}:Jn)):=HJ0.o.more hbW (by omega);have HB1:Hid (ButL [B] w.heap.size w W1):=HB0.o.trans (Y:=[]) (ButL.of_below hbW) (by omega) (by simp);have KR:Hid (W1.heap[w.heap.size+1]?=some (.cells #[.int .i64 0,.int .i64 0,.string ⟨#[]⟩] 31 (0,0))):=by rw[hW1,←hz1];exact heap_alloc_new _ _
 have hs1:W1.heap.size=w.heap.size+2:=by rw[hW1];simp[hs0]
 have hrl:w.heap.size+1<W1.heap.size:=by omega
 have hrB:w.heap.size+1≠B:=by omega
 have HX2:Hid (∀x∈((w.heap.size+1)::X),x<W1.heap.size):=fun x hx=>by
  rcases List.mem_cons.1 hx with rfl|hx
  ·exact hrl
  ·have:=HX.o x hx;omega
 rw[←hW1];clear hW1 hz1;clear hf hf2 k8 b8 k10 b10 k11 b11 r1 r2 h0 h11;refine(zrj B ((w.heap.size+1)::X) ({j with acts:=j.acts+1}:Jn) W1 HJ1.o HX2.o HKB.o ⟨ak,ah,ab,an,at0⟩ HTX.o).mono ?_;rintro e w2 ⟨rfl,hJ2,hB2⟩;have KR2:Hid (w2.heap[w.heap.size+1]?=some (.cells #[.int .i64 0,.int .i64 0,.string ⟨#[]⟩] 31 (0,0))):=(hB2.block _ (by omega) (by simpa using hrB)).trans KR.o;have HJ2:=zaa hJ2;have HB2:Hid (ButL [B] w.heap.size w w2):=HB1.o.trans hB2 HB1.o.size (by simp);have hs2:W1.heap.size≤w2.heap.size:=hB2.size;clear hJ2 hB2;obtain⟨P,hP⟩:∃P,P=za4 ({j with acts:=j.acts+1}:Jn) ⟨ak,ah,ab,an,at0⟩:=⟨_,rfl⟩;rw[←hP] at HE HJ2⊢;have HE3:Hid (doJ j ⟨ak,ah,ab,an,at0⟩=(P.1,⟨P.2.code,P.2.n,P.2.text⟩)):=HE.o;rw[show vRp P.2=.agg #[.int .i64 P.2.code,.int .i64 P.2.n,.string P.2.text] from rfl];clear hP HE;obtain⟨⟨y0,y1,y2⟩,yf⟩:=zbj KR2.o;go_wp2;exact zbc HE3.o KR2.o HJ2.o HB2.o hrB hBX fun W u0 u1 u2=>by simp[results,Tryz.results15,go_sem,u0,u1,u2]
theorem zjs (B:Nat)(X:List Nat)(j:Jn)(w:World)(h:JAt w B X j)(hX:∀x∈X,x<w.heap.size)(hK:Ready j)(ac:Ac)(hn:ac.n≤9223372036854775807)(ht:ac.text.size≤maxLen):
  Calls Tryz.prog 15 #[.pointer (some ⟨B,0,none⟩),vAc ac] w (zdc w B X (doJ j ac)):=by
 obtain⟨ak,ah,ab,an,at0⟩:=ac;by_cases hf:400≤j.acts
 ·exact ztw B X j w h hX hK ak ah ab an at0 hn ht hf
 by_cases hl:ak<1
 ·exact zw9 B X j w h hX hK ak ah ab an at0 hn ht hf hl
 by_cases hh:11<ak
 ·exact ztx B X j w h hX hK ak ah ab an at0 hn ht hf hh
 by_cases k8:ak=8
 ·subst k8;exact z2f B X j w h hX hK ah ab an at0 hn ht hf
 by_cases k10:ak=10
 ·subst k10;exact z0d B X j w h hX hK ah ab an at0 hn ht hf
 by_cases k11:ak=11
 ·subst k11;exact z0e B X j w h hX hK ah ab an at0 hn ht hf
 cases hd:j.down with
 |true=>exact zty B X j w h hX hK ak ah ab an at0 hn ht hf (by omega) (by omega) k8 k10 k11 hd
 |false=>exact z0f B X j w h hX hK ak ah ab an at0 hn ht hf (by omega) (by omega) k8 k10 k11 hd
theorem z2v:goodM (zbo 0 1)=0:=by kernel_rfl
def z2g:Dk:=⟨encT (zbo 0 1)::List.replicate 36 (fitT ⟨#[]⟩),[]⟩
theorem z3n:zxd=ze0 z2g 0 1:=rfl
def zl9 (bs:Nat)(D:Nat)(g:Nat)(c:Nat)(s:ByteArray):Nat→Value→World→Prop
 |0,v,_=>v=.pointer (some ⟨D,0,none⟩)
 |1,v,_=>v=.slice (some ⟨g,0,none⟩) 37 c
 |2,v,_=>v=.agg #[.int .i64 1,.int .i64 1,.int .i64 0,.slice none 0 0,.slice none 0 0]
 |3,v,_=>v=.tuple #[.string s,.int .i64 0]
 |4,v,_=>v=.tuple #[.string s,.int .i64 0]
 |5,v,_=>v=.string s
 |6,v,_=>v=.int .i64 0
 |7,v,_=>v=.pointer (some ⟨g,0,none⟩)
 |8,_,w=>w.ownsRow bs 9 1 (.slice (some ⟨g,0,none⟩) 37 c) 37 (cellsS (s::List.replicate 36 (fitT ⟨#[]⟩)))
 |_,_,_=>True
theorem zrk {bs:Nat}{D:Nat}{g:Nat}{c:Nat}{s:ByteArray}{w w':World}(hb:Below w.heap.size w w'){i:Nat}:∀kk uu,kk≠i→zl9 bs D g c s kk uu w→zl9 bs D g c s kk uu w':=by
 intro kk uu _ h
 match kk,h with
 |0,h|1,h|2,h|3,h|4,h|5,h|6,h|7,h=>exact h
 |8,h=>exact zah h hb
 |_+9,_=>exact trivial
theorem zxa {bs:Nat}{D:Nat}{g:Nat}{c:Nat}{s:ByteArray}{w w':World}:∀kk x,kk≠8→zl9 bs D g c s kk x w→zl9 bs D g c s kk x w':=by
 intro kk x hk h
 match kk,h with
 |0,h|1,h|2,h|3,h|4,h|5,h|6,h|7,h=>exact h
 |8,_=>exact absurd rfl hk
 |_+9,_=>exact trivial
def newR (w:World)(D g c:Nat)(w':World):Prop:=Below w.heap.size w w'∧w'.heap[D]?=some (.cells #[.slice (some ⟨g,0,none⟩) 37 c,.slice none 0 0] 46 (0,0))∧∃t,w'.ownsRow w.heap.size 9 1 (.slice (some ⟨g,0,none⟩) 37 c) 37 (cellsS (t::List.replicate 36 (fitT ⟨#[]⟩)))
theorem newR.below {w:World}{D g c:Nat}{w' w2:World}(h:newR w D g c w')(hb:Below w'.heap.size w' w2):newR w D g c w2:=⟨zae h.1 hb,zad hb (Array.getElem?_eq_some_iff.1 h.2.1).1 h.2.1,h.2.2.imp fun _ ho=>zah ho hb⟩
theorem zo8 (w:World):
  Calls Tryz.prog 41 #[] w fun e w'=>∃B,e=.returned (.pointer (some ⟨B,0,none⟩))∧w.heap.size≤B∧(∀X:List Nat,(∀x∈X,x<w.heap.size)→JAt w' B (B::X) zxd)∧Below w.heap.size w w':=by
 obtain⟨s,hs⟩:∃s,s=encT (zbo 0 1):=⟨_,rfl⟩;have HS:=zaa hs;clear hs;go_enter Tryz.func41,Tryz.ntmps41;go_wp2_with fail;refine(z3m _).mono ?_;rintro e w1 ⟨g,c,rfl,hown,hb1⟩;have hgl:=hown.lt g rfl;have hg1:w.heap.size≤g:=hgl.1;have hg2:g<w1.heap.size:=hgl.2;go_wp2;rename_i KK hKK;obtain⟨W1,hW1⟩:∃W1,W1=w1.alloc (.cells #[.slice (some ⟨g,0,none⟩) 37 c,.slice none 0 0] 46):=⟨_,rfl⟩;have hb11:Below w1.heap.size w1 W1:=by rw[hW1];exact zab _ _
 have HOW:=zaa (zah hown hb11);have HB1:=zaa (zae hb1 hb11);have KD:Hid (W1.heap[w1.heap.size]?=some (.cells #[.slice (some ⟨g,0,none⟩) 37 c,.slice none 0 0] 46 (0,0))):=by rw[hW1];exact heap_alloc_new _ _
 have hs1:W1.heap.size=w1.heap.size+1:=by rw[hW1];simp
 have hs01:w.heap.size≤w1.heap.size:=hb1.size;rw[←hW1];clear hW1 hb11 hown hb1 hgl;have HR1:Hid (newR w w1.heap.size g c W1):=⟨HB1.o,KD.o,fitT ⟨#[]⟩,HOW.o⟩
 have TAIL:∀(g0 g2 g3 g4 g5 g6 g7 g8 g9 g10 g11 g12 g13:Value) (W:World),W.ownsRow w.heap.size 9 1 (.slice (some ⟨g,0,none⟩) 37 c) 37 (cellsS (s::List.replicate 36 (fitT ⟨#[]⟩)))→Below w.heap.size w W→W.heap[w1.heap.size]?=some (.cells #[.slice (some ⟨g,0,none⟩) 37 c,.slice none 0 0] 46 (0,0))→KK ⟨#[g0,.pointer (some ⟨w1.heap.size,0,none⟩),g2,g3,g4,g5,g6,g7,g8,g9,g10,g11,g12,g13],[]⟩ W:=by
  intro g0 g2 g3 g4 g5 g6 g7 g8 g9 g10 g11 g12 g13 W3 hst hb3 hd3;apply hKK;clear hKK;have HST:=zaa hst;have HB3:=zaa hb3;have KD3:=zaa hd3;obtain⟨⟨y0,y1⟩,_⟩:=zfl KD3.o;clear hst hb3 hd3;go_wp2_with fail;refine(zq8 z2g (some ⟨g,0,none⟩) c none 0 0 1 W3 (by decide+kernel)).mono ?_;rintro e w4 ⟨rfl,hb4⟩;have HST4:=zaa (zah HST.o hb4);have HB4:=zaa (zae HB3.o hb4);have hs4:W3.heap.size≤w4.heap.size:=hb4.size;clear y0 y1 hb4;obtain⟨CS,hCS⟩:∃CS,CS=zbq (ze0 z2g 0 1) (some ⟨g,0,none⟩) c none 0 none 0 none 0 none 0 none 0 none 0 none 0 none 0 none 0 none 0:=⟨_,rfl⟩;rw[←hCS];have HCS:=zaa hCS;have HIN:Hid ((Tryz.prog.info? 93).map (·.size)=some CS.size):=by rw[Hid,HCS.o];exact z18 _ _ _ _ _ _ _ _ _ _ _ _ _ _ _ _ _ _ _ _ _ _ _
  have HON:Hid (CS.all (·.oneCell')=true):=by rw[Hid,HCS.o];exact zhn _ _ _ _ _ _ _ _ _ _ _ _ _ _ _ _ _ _ _ _ _ _ _
  have HSZ:Hid (57=CS.size):=by rw[Hid,HCS.o];kernel_rfl
  clear hCS;dsimp only
  repeat (first|(refine wpList_store_rowTo rfl _ _ _ rfl rfl w4.heap.size CS rfl rfl _ _ (heap_alloc_new _ _) HIN.o HSZ.o HON.o ?_)|go_step)
  refine bodyPost_ret (results_tmp rfl _ _ _) rfl ⟨w4.heap.size,rfl,HB4.o.size,fun X hX=>?_,?_⟩
  ·rw[HCS.o,z3n]
   refine JAt.putAll (by simp) (heap_alloc_new w4 _) (some ⟨g,0,none⟩) c none 0 none 0 none 0 none 0 none 0 none 0 none 0 none 0 none 0 none 0 ⟨?_,zqq _ _,zqq _ _,.inl rfl,.inl rfl,.inl rfl,z17 _,Nat.le_refl _,Nat.le_refl _,Nat.le_refl _⟩;have hg4:g<w4.heap.size:=(HST4.o.lt g rfl).2;obtain⟨a2,c2,hv,hS,_⟩:=SegS.of_owns (zah HST4.o (zab w4 _));simp only[Value.slice.injEq] at hv;obtain⟨rfl,_,rfl⟩:=hv;rw[HS.o] at hS;refine⟨some ⟨g,0,none⟩,c,none,0,rfl,?_,.inl rfl,by decide+kernel,by decide+kernel⟩;rcases hS with h0|⟨b,off,he,hlt,hc⟩
   ·cases h0
   ·cases he
    refine .inr ⟨g,0,rfl,by rw[zbk];exact hlt,fun i hi=>zb1 ?_ (hc i hi)⟩;simp only[List.mem_cons,not_or];exact⟨by omega,fun hx=>by have:=hX g hx;omega⟩
  ·exact((ButL.of_below (X:=[]) (HB4.o.alloc HB4.o.size _)).setRow (.inr HB4.o.size) CS).below
 have HTAIL:=zaa TAIL;clear TAIL hKK;refine(show∀A0:Act,A0=_→Code.wp Tryz.prog _ _ A0 _ from fun A0 hA0=>?_) _ rfl;have hsz:A0.tmps.size=14:=by rw[hA0];rfl
 have hdf:A0.defers=[]:=by rw[hA0]
 have v1:A0.eval (.tmp 1)=.pointer (some ⟨w1.heap.size,0,none⟩):=by rw[hA0];rfl
 clear hA0;refine zep (fun w'=>newR w w1.heap.size g c w') [5,6,7,8,4,9,10,11,11] (zl9 w.heap.size w1.heap.size g c s) (by kernel_rfl) (by kernel_rfl) (by kernel_rfl) (HR1.o.below (Below.refl _ _).drew) ⟨?_,?_,?_,?_,?_,?_,?_,?_,?_,trivial⟩ ?_
 ·intro a w' hF hR hp
  have z1:=(hF.other 1 rfl).trans v1;exact zak _ rfl rfl (by revert z1;generalize a.eval=ρ;intro z1;simp only[execOp];go_simp) hF hsz hR rfl
 ·intro a w' hF hR hp
  have p5:a.eval (.tmp 5)=.pointer (some ⟨w1.heap.size,0,none⟩):=hp ⟨0,.data⟩ (by simp) rfl;have c0:w'.cell? ⟨w1.heap.size,0,none⟩=some (.slice (some ⟨g,0,none⟩) 37 c):=(zfl hR.2.1).1.1;exact zak _ rfl rfl (by revert p5;generalize a.eval=ρ;intro p5;simp only[execOp];go_simp) hF hsz hR rfl
 ·intro a w' hF hR hp
  exact zak _ rfl rfl (by have pc0:=Act.eval_const a (.int .i64 1);revert pc0;generalize a.eval=ρ;intro pc0;simp only[execOp];go_simp) hF hsz hR rfl
 ·intro a w' hF hR hp
  have p7:a.eval (.tmp 7)=.agg #[.int .i64 1,.int .i64 1,.int .i64 0,.slice none 0 0,.slice none 0 0]:=hp ⟨2,.data⟩ (by simp) rfl;refine zbu 70 #[.agg #[.int .i64 1,.int .i64 1,.int .i64 0,.slice none 0 0,.slice none 0 0]] rfl rfl (by have pf:=Act.eval_func a 70;revert p7 pf;generalize a.eval=ρ;intro p7 pf;simp only[execOp];go_simp) _ (zdn _ (zbo 0 1) _ ⟨none,0,none,0,rfl,.inl rfl,.inl rfl,Nat.zero_le _,Nat.zero_le _⟩) ?_;rintro e w2 ⟨rfl,hb2⟩;refine⟨_,rfl,_,rfl,hR.below hb2,?_,zrk hb2⟩;show zl9 _ _ _ _ _ _ ((a.put (some 8) _).eval (.tmp 8)) w2;rw[zap hF hsz (by decide)];rw[HS.o,z2v];exact rfl
 ·intro a w' hF hR hp
  have p8:a.eval (.tmp 8)=.tuple #[.string s,.int .i64 0]:=hp ⟨3,.data⟩ (by simp) rfl;exact zak _ rfl rfl (by revert p8;generalize a.eval=ρ;intro p8;simp only[execOp];go_simp) hF hsz hR rfl
 ·intro a w' hF hR hp
  have p4:a.eval (.tmp 4)=.tuple #[.string s,.int .i64 0]:=hp ⟨4,.data⟩ (by simp) rfl;exact zak _ rfl rfl (by revert p4;generalize a.eval=ρ;intro p4;simp only[execOp];go_simp) hF hsz hR rfl
 ·intro a w' hF hR hp
  have p4:a.eval (.tmp 4)=.tuple #[.string s,.int .i64 0]:=hp ⟨4,.data⟩ (by simp) rfl;exact zak _ rfl rfl (by revert p4;generalize a.eval=ρ;intro p4;simp only[execOp];go_simp) hF hsz hR rfl
 ·intro a w' hF hR hp
  have p6:a.eval (.tmp 6)=.slice (some ⟨g,0,none⟩) 37 c:=hp ⟨1,.data⟩ (by simp) rfl;exact zak _ rfl rfl (by have pc0:=Act.eval_const a (.int .i64 0);revert p6 pc0;generalize a.eval=ρ;intro p6 pc0;simp only[execOp];go_simp) hF hsz hR rfl
 ·intro a w' hF hR hp
  have p9:a.eval (.tmp 9)=.string s:=hp ⟨5,.data⟩ (by simp) rfl;have p11:a.eval (.tmp 11)=.pointer (some ⟨g,0,none⟩):=hp ⟨7,.data⟩ (by simp) rfl;obtain⟨hRb,hRd,t,hRo⟩:=hR;have hcW:w'.cell? ⟨g,0,none⟩=some (.string t):=by rw[hRo.cellAt 0 (by decide)];rfl
  have hfW:w'.frozen? ⟨g,0,none⟩=false:=hRo.frozenAt 0;have hst:=(hRo.stored 0 (.string s)).1;have hst2:(w'.setCell ⟨g,0,none⟩ (.string s)).ownsRow w.heap.size 9 1 (.slice (some ⟨g,0,none⟩) 37 c) 37 (cellsS (s::List.replicate 36 (fitT ⟨#[]⟩))):=hst;refine zco rfl rfl (w':=w'.setCell ⟨g,0,none⟩ (.string s)) (by revert p9 p11;generalize a.eval=ρ;intro p9 p11;simp only[execOp];go_simp) ⟨_,rfl,⟨hRb.setCell (p:=⟨g,0,none⟩) hg1 _,(Below.heap_setCell _ _ _ _ (by simp only;omega)).trans hRd,s,hst2⟩,?_,zxa⟩;show zl9 _ _ _ _ _ _ _ _;exact hst2
 ·intro a W hF hR hp
  have hst:W.ownsRow w.heap.size 9 1 (.slice (some ⟨g,0,none⟩) 37 c) 37 (cellsS (s::List.replicate 36 (fitT ⟨#[]⟩))):=hp 8 (by decide);have hsa:a.tmps.size=14:=hF.size.trans hsz;have f1:a.eval (.tmp 1)=.pointer (some ⟨w1.heap.size,0,none⟩):=(hF.other 1 rfl).trans v1;have hlit:a=⟨#[_,_,_,_,_,_,_,_,_,_,_,_,_,_],[]⟩:=zcj a 14 hsa (hF.defers.trans hdf);dsimp only at hlit;rw[f1] at hlit;show KK a _;exact(congrArg (fun x=>KK x _) hlit).mpr (HTAIL.o (a.eval (.tmp 0)) (a.eval (.tmp 2)) (a.eval (.tmp 3)) (a.eval (.tmp 4)) (a.eval (.tmp 5)) (a.eval (.tmp 6)) (a.eval (.tmp 7)) (a.eval (.tmp 8)) (a.eval (.tmp 9)) (a.eval (.tmp 10)) (a.eval (.tmp 11)) (a.eval (.tmp 12)) (a.eval (.tmp 13)) W hst hR.1 hR.2.1)
theorem Move.acts {j:Jn}{a:Ac}{j':Jn}{r:Rp}(m:Move j a j' r):j'.acts=j.acts:=by
 cases m with
 |last hk s hs he=>
  rw[zb6];split
  ·rfl
  split
  ·rfl
  split
  ·rfl
  ·rfl
 |_=>rfl
theorem z4n {j:Jn}{D:Dk}(h:Md j D)(a:Ac)(h0:0≤j.acts)(h1:j.acts≤400):
  (400≤j.acts∧doJ j a=(j,zav 11))∨(j.acts<400∧(doJ j a).1.acts=j.acts+1∧∃D',Md (doJ j a).1 D'∧Trans {j with acts:=j.acts+1} D a (doJ j a).1 (doJ j a).2 D'):=by
 by_cases hf:400≤j.acts
 ·exact .inl ⟨hf,by rw[doJ,if_pos hf]⟩
 ·have e:doJ j a=zkk {j with acts:=j.acts+1} a:=by rw[doJ,if_neg hf]
  have m:=zyu {j with acts:=j.acts+1} a;rw[e];refine .inr ⟨by omega,m.acts,(h.bump (x:=j.acts+1) (by omega)).move m (fun hk hs=>?_)⟩;show j.now.seq≤j.acts+1
  cases h with
  |idle p hs hz hD ht hq=>exact p.seq
  |commit P U k p hw hk hs hD ht he hse hrh hru hq hN=>exact p.seq
  |check k p hw hz hk hs hD ht hq=>exact p.seq
  |off l N P U p hs hf hD ht=>rw[p.now];show(0:Int)≤_;omega
  |back U k p hw hk hs hD ht=>rw[p.now];show(0:Int)≤_;omega
theorem z0h:Tells z2g [] 1 0 0:=by
 have hg:za1 z2g=true:=by kernel_rfl
 refine zqh hg rfl (by kernel_rfl) z2v (fun n h1 h2=>?_)
 have hr:zal z2g n=fitT ⟨#[]⟩:=by
  rw[z2g,zgm hg (by omega)];obtain⟨m,rfl⟩:∃m,n=m+1:=⟨n - 1,by omega⟩;rw[List.getD_cons_succ,List.getD,List.getElem?_replicate,if_pos (by omega)];rfl
 rw[hr];intro he;rw[z0g] at he;cases he
theorem z4o:Md zxd z2g:=.idle ⟨rfl,zov (by decide) (by decide),by decide,rfl,rfl,fun hb=>by cases hb⟩ rfl rfl rfl z0h rfl
theorem Md.ready {j:Jn}{D:Dk}(h:Md j D)(h0:0≤j.acts)(h1:j.acts≤400):Ready j:=by
 have wrp:∀x:Int, -10≤x→x≤1000→IntKind.i64.wrap x=x:=fun x _ _=>by rw[IntKind.wrap_i64];omega
 have pw:∀{l:List Tx} {N P U:Int},Pow j→j.done.length≤24→j.now.seq≤j.last+2→j.last+1≤j.now.seq→0≤j.last→0≤j.ru→j.ru≤24→Ready j:=by
  intro _ _ _ _ p hd hq hq2 hl hu0 hu1;have hs:=zaw p.good;have hsq:=p.seq;refine⟨by omega,by rw[p.fL];exact Nat.zero_le _,by rw[p.fN];exact wrp _ (by omega) (by omega),wrp _ (by omega) (by omega),wrp _ (by omega) (by omega),by omega,by omega,(fun hd2=>by rw[p.up] at hd2;cases hd2),hu0,hu1,h0,h1⟩
 have len:∀{N P U:Int},Tells D (j.done.map zd3) N P U→j.done.length≤24:=by
  intro N P U ht;have h5:=zob D;rw[ht.tL,List.length_map] at h5;exact h5
 have dn:∀{N:Int},Dn j N→j.fL.length≤24→ -1≤j.fN→j.fN≤402→(j.steps=[]→∀t∈fndL j.disk,Few t)→Ready j:=by
  intro N p hf hf0 hf1 hfew;have h5:=p.lo;have h6:=p.seq;have h7:=p.last0;refine⟨by rw[p.done];exact Nat.zero_le _,by unfold maxLen;omega,wrp _ (by omega) (by omega),by rw[p.now];exact wrp _ (by decide) (by decide),wrp _ (by omega) (by omega),by rw[p.now];decide,by rw[p.now];decide,fun _=>hfew,by rw[p.ru];exact Int.le_refl _,by rw[p.ru];decide,h0,h1⟩
 cases h with
 |idle p hs hz hD ht hq=>have:=ht.range;exact pw (l:=[]) (N:=0) (P:=0) (U:=0) p (len ht) (by omega) (by omega) (by omega) (by omega) (by omega)
 |commit P U k p hw hk hs hD ht he hse hrh hru hq hN=>
  have:=ht.range;obtain⟨_,hg,_,hU0,hUn⟩:=zb2 he;have hn:=zel j.sealed (zaw hg).1 (zaw hg).2.2
  have hUU:zcc P U j.sealed=U+needN j.sealed.info.length j.sealed.rev.length:=by
   have h5:=he;unfold sealE at h5;split at h5
   ·cases h5
   ·rw[zcc,if_pos he,takeU,if_pos h5]
  exact pw (l:=[]) (N:=0) (P:=0) (U:=0) p (len ht) (by omega) (by omega) (by omega) (by omega) (by omega)
 |check k p hw hz hk hs hD ht hq=>have:=ht.range;exact pw (l:=[]) (N:=0) (P:=0) (U:=0) p (len ht) (by omega) (by omega) (by omega) (by omega) (by omega)
 |off l N P U p hs hf hD ht=>
  refine dn p (by rw[hf.1];exact Nat.zero_le _) (by omega) (by omega) (fun _ t ht2=>z1s (ht.goods t ?_))
  rwa [hD,ht.tL] at ht2
 |back U k p hw hk hs hD ht=>
  have h5:=ht.range;have h6:=p.seq;refine dn p (by have h7:=zob D;rwa [ht.tL] at h7) (by omega) (by omega) (fun hs2=>?_);rw[hs2] at hs;have:=congrArg List.length hs;rw[List.length_drop] at this;simp at this;omega
def PJ (j:Jn):Prop:=∃D,Md j D∧0≤j.acts∧j.acts≤400
theorem PJ.ready {j:Jn}(h:PJ j):Ready j:=by
 obtain⟨D,h1,h2,h3⟩:=h;exact h1.ready h2 h3
theorem PJ.do {j:Jn}(h:PJ j)(a:Ac):PJ (doJ j a).1:=by
 obtain⟨D,h1,h2,h3⟩:=h;rcases z4n h1 a h2 h3 with⟨h4,h5⟩|⟨h4,h5,D',h6,_⟩
 ·rw[h5];exact⟨D,h1,h2,h3⟩
 ·exact⟨D',h6,by omega,by omega⟩
theorem PJ.new:PJ zxd:=⟨z2g,z4o,by decide,by decide⟩
def al1:Jn:=(doJ zxd ⟨1,0,0,2,⟨#[]⟩⟩).1
def al2:Jn:=(doJ al1 ⟨2,0,3,0,⟨#[120]⟩⟩).1
def al3:Jn:=(doJ al2 ⟨9,0,3,0,⟨#[]⟩⟩).1
theorem z4p:(doJ zxd ⟨1,0,0,2,⟨#[]⟩⟩).2.code=0:=by kernel_rfl
theorem z4q:(doJ al1 ⟨2,0,3,0,⟨#[120]⟩⟩).2.code=0:=by kernel_rfl
theorem z2w:(doJ al2 ⟨9,0,3,0,⟨#[]⟩⟩).2.n=1∧(doJ al2 ⟨9,0,3,0,⟨#[]⟩⟩).2.text=fitT ⟨#[120]⟩:=⟨by kernel_rfl,by kernel_rfl⟩
theorem z4r:(doJ al3 ⟨6,0,0,0,⟨#[]⟩⟩).2.code=9:=by kernel_rfl
def zus (R1:Nat)(R2:Nat)(R3:Nat)(R4:Nat)(z:ByteArray):Nat→Value→World→Prop
 |0,v,_=>v=.pointer (some ⟨R1,0,none⟩)
 |1,v,_=>v=.int .i64 0
 |2,v,_=>v=.bool true
 |3,v,_=>v=.bool true
 |4,v,_=>v=.pointer (some ⟨R2,0,none⟩)
 |5,v,_=>v=.int .i64 0
 |6,v,_=>v=.bool true
 |7,v,_=>v=.bool true
 |8,v,_=>v=.bool true
 |9,v,_=>v=.pointer (some ⟨R3,2,none⟩)
 |10,v,_=>v=.string z
 |11,v,_=>v=.string z
 |12,v,_=>v=.bool true
 |13,v,_=>v=.bool true
 |14,v,_=>v=.bool true
 |15,v,_=>v=.pointer (some ⟨R3,1,none⟩)
 |16,v,_=>v=.int .i64 1
 |17,v,_=>v=.bool true
 |18,v,_=>v=.bool true
 |19,v,_=>v=.bool true
 |20,v,_=>v=.pointer (some ⟨R4,0,none⟩)
 |21,v,_=>v=.int .i64 9
 |22,v,_=>v=.bool true
 |23,v,_=>v=.bool true
 |24,v,_=>v=.bool true
 |_,_,_=>True
theorem zrl {R1:Nat}{R2:Nat}{R3:Nat}{R4:Nat}{z:ByteArray}{w w':World}(_hb:Below w.heap.size w w'){i:Nat}:∀kk uu,kk≠i→zus R1 R2 R3 R4 z kk uu w→zus R1 R2 R3 R4 z kk uu w':=by
 intro kk uu _ h
 match kk,h with
 |0,h|1,h|2,h|3,h|4,h|5,h|6,h|7,h|8,h|9,h|10,h|11,h|12,h|13,h|14,h|15,h|16,h|17,h|18,h|19,h|20,h|21,h|22,h|23,h|24,h=>exact h
 |_+25,_=>exact trivial
theorem z0i (w:World):Calls Tryz.prog 39 #[] w fun e w'=>e=.returned (.bool true)∧Below w.heap.size w w':=by
 obtain⟨z,hz⟩:∃z,z=fitT ⟨#[120]⟩:=⟨_,rfl⟩;have HZ:=zaa hz;clear hz;go_enter Tryz.func39,Tryz.ntmps39;go_wp2_with fail;refine(zo8 _).mono ?_;rintro e w1 ⟨B,rfl,hB0,hJ,hbn⟩;have HJ0:=zaa (hJ [] (by simp));have hBl:B<w1.heap.size:=HJ0.o.lt;have HBW0:=zaa hbn;have hs0:w.heap.size≤w1.heap.size:=hbn.size;have HP0:=zaa PJ.new
 have HF0:Hid (∀P,P=doJ zxd ⟨1,0,0,2,⟨#[]⟩⟩→P.2.code=0∧∀j1,j1=P.1→∀P,P=doJ j1 ⟨2,0,3,0,⟨#[120]⟩⟩→P.2.code=0∧∀j2,j2=P.1→∀P,P=doJ j2 ⟨9,0,3,0,⟨#[]⟩⟩→P.2.n=1∧P.2.text=z∧∀j3,j3=P.1→∀P,P=doJ j3 ⟨6,0,0,0,⟨#[]⟩⟩→P.2.code=9∧True):=by
  rintro P rfl;refine⟨z4p,?_⟩;rintro j1 rfl P rfl;refine⟨z4q,?_⟩;rintro j2 rfl P rfl;refine⟨z2w.1,z2w.2.trans HZ.o.symm,?_⟩;rintro j3 rfl P rfl;exact⟨z4r,trivial⟩
 clear hJ hbn;obtain⟨j0,hj0⟩:∃j0,j0=zxd:=⟨_,rfl⟩;rw[←hj0] at HJ0 HP0 HF0;clear hj0;go_wp2_with fail;refine(zjs B [B] j0 w1 HJ0.o (fun x hx=>by rw[List.mem_singleton.1 hx];omega) HP0.o.ready ⟨1,0,0,2,⟨#[]⟩⟩ (by decide) (by decide)).mono ?_;rintro e w0b ⟨rfl,hJ,hB⟩;obtain⟨P,hP⟩:∃P,P=doJ j0 ⟨1,0,0,2,⟨#[]⟩⟩:=⟨_,rfl⟩;have HP1:Hid (PJ P.1):=by rw[hP];exact HP0.o.do _
 have HQ0:=zaa (HF0.o P hP);rw[←hP] at hJ⊢
 have hvr:vRp P.2=.agg #[.int .i64 0,.int .i64 P.2.n,.string P.2.text]:=by
  show Value.agg #[.int .i64 P.2.code,.int .i64 P.2.n,.string P.2.text]=_;rw[HQ0.o.1]
 rw[hvr];obtain⟨j1,hj1⟩:∃x,x=P.1:=⟨_,rfl⟩;rw[←hj1] at HP1 hJ;have HF1:=zaa (HQ0.o.2 j1 hj1);clear hj1 hvr;generalize P.2.n=n1 at *;generalize P.2.text=t1 at *;generalize P.2.code=c1 at *;clear hP;have hbs:w1.heap.size≤w0b.heap.size:=hB.size
 have HBB0:Hid (Below w.heap.size w w0b):=by
  have hx:=HBW0.o;exact⟨hB.os.trans hx.os,hB.tape.trans hx.tape,hB.output.trans hx.output,Nat.le_trans hx.size hB.size,fun q hq=>(hB.block q (by have:=hx.size;omega) (by simp;omega)).trans (hx.block q hq)⟩
 go_wp2_with fail;obtain⟨W1,hW⟩:∃W,W=w0b.alloc (.cells #[.int .i64 0,.int .i64 n1,.string t1] 31):=⟨_,rfl⟩;rw[←hW];have hbn:Below w0b.heap.size w0b W1:=by rw[hW];exact zab _ _
 have HJ1:=zaa (hJ.below hbn);have HBW1:=zaa (zae HBB0.o hbn);have hsz1:W1.heap.size=w0b.heap.size+1:=by rw[hW];simp
 have KR0:Hid (W1.heap[w0b.heap.size]?=some (.cells #[.int .i64 0,.int .i64 n1,.string t1] 31 (0,0))):=by rw[hW];exact heap_alloc_new _ _
 clear hW hbn hJ hB HBB0 HBW0;refine(zjs B [B] j1 W1 HJ1.o (fun x hx=>by rw[List.mem_singleton.1 hx];omega) HP1.o.ready ⟨2,0,3,0,⟨#[120]⟩⟩ (by decide) (by decide)).mono ?_;rintro e w1b ⟨rfl,hJ,hB⟩;obtain⟨P,hP⟩:∃P,P=doJ j1 ⟨2,0,3,0,⟨#[120]⟩⟩:=⟨_,rfl⟩;have HP2:Hid (PJ P.1):=by rw[hP];exact HP1.o.do _
 have HQ1:=zaa (HF1.o P hP);rw[←hP] at hJ⊢
 have hvr:vRp P.2=.agg #[.int .i64 0,.int .i64 P.2.n,.string P.2.text]:=by
  show Value.agg #[.int .i64 P.2.code,.int .i64 P.2.n,.string P.2.text]=_;rw[HQ1.o.1]
 rw[hvr];obtain⟨j2,hj2⟩:∃x,x=P.1:=⟨_,rfl⟩;rw[←hj2] at HP2 hJ;have HF2:=zaa (HQ1.o.2 j2 hj2);clear hj2 hvr;generalize P.2.n=n2 at *;generalize P.2.text=t2 at *;generalize P.2.code=c2 at *;clear hP;have hbs:W1.heap.size≤w1b.heap.size:=hB.size;have KR0b:=zaa ((hB.block _ (by omega) (by simp;omega)).trans KR0.o);clear KR0;have KR0:=KR0b;clear KR0b
 have HBB1:Hid (Below w.heap.size w w1b):=by
  have hx:=HBW1.o;exact⟨hB.os.trans hx.os,hB.tape.trans hx.tape,hB.output.trans hx.output,Nat.le_trans hx.size hB.size,fun q hq=>(hB.block q (by have:=hx.size;omega) (by simp;omega)).trans (hx.block q hq)⟩
 go_wp2_with fail;obtain⟨W2,hW⟩:∃W,W=w1b.alloc (.cells #[.int .i64 0,.int .i64 n2,.string t2] 31):=⟨_,rfl⟩;rw[←hW];have hbn:Below w1b.heap.size w1b W2:=by rw[hW];exact zab _ _
 have HJ2:=zaa (hJ.below hbn);have HBW2:=zaa (zae HBB1.o hbn);have hsz2:W2.heap.size=w1b.heap.size+1:=by rw[hW];simp
 have KR1:Hid (W2.heap[w1b.heap.size]?=some (.cells #[.int .i64 0,.int .i64 n2,.string t2] 31 (0,0))):=by rw[hW];exact heap_alloc_new _ _
 have KR0b:=zaa (zad hbn (by omega) KR0.o);clear KR0;have KR0:=KR0b;clear KR0b;clear hW hbn hJ hB HBB1 HBW1;refine(zjs B [B] j2 W2 HJ2.o (fun x hx=>by rw[List.mem_singleton.1 hx];omega) HP2.o.ready ⟨9,0,3,0,⟨#[]⟩⟩ (by decide) (by decide)).mono ?_;rintro e w2b ⟨rfl,hJ,hB⟩;obtain⟨P,hP⟩:∃P,P=doJ j2 ⟨9,0,3,0,⟨#[]⟩⟩:=⟨_,rfl⟩;have HP3:Hid (PJ P.1):=by rw[hP];exact HP2.o.do _
 have HQ2:=zaa (HF2.o P hP);rw[←hP] at hJ⊢
 have hvr:vRp P.2=.agg #[.int .i64 P.2.code,.int .i64 1,.string z]:=by
  show Value.agg #[.int .i64 P.2.code,.int .i64 P.2.n,.string P.2.text]=_;rw[HQ2.o.1,HQ2.o.2.1]
 rw[hvr];obtain⟨j3,hj3⟩:∃x,x=P.1:=⟨_,rfl⟩;rw[←hj3] at HP3 hJ;have HF3:=zaa (HQ2.o.2.2 j3 hj3);clear hj3 hvr;generalize P.2.n=n3 at *;generalize P.2.text=t3 at *;generalize P.2.code=c3 at *;clear hP;have hbs:W2.heap.size≤w2b.heap.size:=hB.size;have KR0b:=zaa ((hB.block _ (by omega) (by simp;omega)).trans KR0.o);clear KR0;have KR0:=KR0b;clear KR0b;have KR1b:=zaa ((hB.block _ (by omega) (by simp;omega)).trans KR1.o);clear KR1;have KR1:=KR1b;clear KR1b
 have HBB2:Hid (Below w.heap.size w w2b):=by
  have hx:=HBW2.o;exact⟨hB.os.trans hx.os,hB.tape.trans hx.tape,hB.output.trans hx.output,Nat.le_trans hx.size hB.size,fun q hq=>(hB.block q (by have:=hx.size;omega) (by simp;omega)).trans (hx.block q hq)⟩
 go_wp2_with fail;obtain⟨W3,hW⟩:∃W,W=w2b.alloc (.cells #[.int .i64 c3,.int .i64 1,.string z] 31):=⟨_,rfl⟩;rw[←hW];have hbn:Below w2b.heap.size w2b W3:=by rw[hW];exact zab _ _
 have HJ3:=zaa (hJ.below hbn);have HBW3:=zaa (zae HBB2.o hbn);have hsz3:W3.heap.size=w2b.heap.size+1:=by rw[hW];simp
 have KR2:Hid (W3.heap[w2b.heap.size]?=some (.cells #[.int .i64 c3,.int .i64 1,.string z] 31 (0,0))):=by rw[hW];exact heap_alloc_new _ _
 have KR0b:=zaa (zad hbn (by omega) KR0.o);clear KR0;have KR0:=KR0b;clear KR0b;have KR1b:=zaa (zad hbn (by omega) KR1.o);clear KR1;have KR1:=KR1b;clear KR1b;clear hW hbn hJ hB HBB2 HBW2;refine(zjs B [B] j3 W3 HJ3.o (fun x hx=>by rw[List.mem_singleton.1 hx];omega) HP3.o.ready ⟨6,0,0,0,⟨#[]⟩⟩ (by decide) (by decide)).mono ?_;rintro e w3b ⟨rfl,hJ,hB⟩;obtain⟨P,hP⟩:∃P,P=doJ j3 ⟨6,0,0,0,⟨#[]⟩⟩:=⟨_,rfl⟩;have HP4:Hid (PJ P.1):=by rw[hP];exact HP3.o.do _
 have HQ3:=zaa (HF3.o P hP);rw[←hP] at hJ⊢
 have hvr:vRp P.2=.agg #[.int .i64 9,.int .i64 P.2.n,.string P.2.text]:=by
  show Value.agg #[.int .i64 P.2.code,.int .i64 P.2.n,.string P.2.text]=_;rw[HQ3.o.1]
 rw[hvr];obtain⟨j4,hj4⟩:∃x,x=P.1:=⟨_,rfl⟩;rw[←hj4] at HP4 hJ;clear hj4 hvr;generalize P.2.n=n4 at *;generalize P.2.text=t4 at *;generalize P.2.code=c4 at *;clear hP;have hbs:W3.heap.size≤w3b.heap.size:=hB.size;have KR0b:=zaa ((hB.block _ (by omega) (by simp;omega)).trans KR0.o);clear KR0;have KR0:=KR0b;clear KR0b;have KR1b:=zaa ((hB.block _ (by omega) (by simp;omega)).trans KR1.o);clear KR1;have KR1:=KR1b;clear KR1b;have KR2b:=zaa ((hB.block _ (by omega) (by simp;omega)).trans KR2.o);clear KR2;have KR2:=KR2b;clear KR2b
 have HBB3:Hid (Below w.heap.size w w3b):=by
  have hx:=HBW3.o;exact⟨hB.os.trans hx.os,hB.tape.trans hx.tape,hB.output.trans hx.output,Nat.le_trans hx.size hB.size,fun q hq=>(hB.block q (by have:=hx.size;omega) (by simp;omega)).trans (hx.block q hq)⟩
 go_wp2;rename_i KK hKK;obtain⟨W4,hW⟩:∃W,W=w3b.alloc (.cells #[.int .i64 9,.int .i64 n4,.string t4] 31):=⟨_,rfl⟩;rw[←hW];have hbn:Below w3b.heap.size w3b W4:=by rw[hW];exact zab _ _
 have HJ4:=zaa (hJ.below hbn);have HBW4:=zaa (zae HBB3.o hbn);have hsz4:W4.heap.size=w3b.heap.size+1:=by rw[hW];simp
 have KR3:Hid (W4.heap[w3b.heap.size]?=some (.cells #[.int .i64 9,.int .i64 n4,.string t4] 31 (0,0))):=by rw[hW];exact heap_alloc_new _ _
 have KR0b:=zaa (zad hbn (by omega) KR0.o);clear KR0;have KR0:=KR0b;clear KR0b;have KR1b:=zaa (zad hbn (by omega) KR1.o);clear KR1;have KR1:=KR1b;clear KR1b;have KR2b:=zaa (zad hbn (by omega) KR2.o);clear KR2;have KR2:=KR2b;clear KR2b;clear hW hbn hJ hB HBB3 HBW3;obtain⟨R1,hR1⟩:∃x,x=w0b.heap.size:=⟨_,rfl⟩;obtain⟨R2,hR2⟩:∃x,x=w1b.heap.size:=⟨_,rfl⟩;obtain⟨R3,hR3⟩:∃x,x=w2b.heap.size:=⟨_,rfl⟩;obtain⟨R4,hR4⟩:∃x,x=w3b.heap.size:=⟨_,rfl⟩;obtain⟨W,hW⟩:∃x,x=W4:=⟨_,rfl⟩;rw[←hR1] at KR0;rw[←hR2] at KR1;rw[←hR3] at KR2;rw[←hR4] at KR3;rw[←hW] at KR0 KR1 KR2 KR3 HBW4;rw[←hR1,←hR2,←hR3,←hR4,←hW];have C00:Hid (W.cell? ⟨R1,0,none⟩=some (.int .i64 0)):=(cell_of_row W _ 0 _ _ _ KR0.o).trans rfl;have C01:Hid (W.cell? ⟨R1,1,none⟩=some (.int .i64 n1)):=(cell_of_row W _ 1 _ _ _ KR0.o).trans rfl;have C02:Hid (W.cell? ⟨R1,2,none⟩=some (.string t1)):=(cell_of_row W _ 2 _ _ _ KR0.o).trans rfl;have C10:Hid (W.cell? ⟨R2,0,none⟩=some (.int .i64 0)):=(cell_of_row W _ 0 _ _ _ KR1.o).trans rfl;have C11:Hid (W.cell? ⟨R2,1,none⟩=some (.int .i64 n2)):=(cell_of_row W _ 1 _ _ _ KR1.o).trans rfl;have C12:Hid (W.cell? ⟨R2,2,none⟩=some (.string t2)):=(cell_of_row W _ 2 _ _ _ KR1.o).trans rfl;have C20:Hid (W.cell? ⟨R3,0,none⟩=some (.int .i64 c3)):=(cell_of_row W _ 0 _ _ _ KR2.o).trans rfl;have C21:Hid (W.cell? ⟨R3,1,none⟩=some (.int .i64 1)):=(cell_of_row W _ 1 _ _ _ KR2.o).trans rfl;have C22:Hid (W.cell? ⟨R3,2,none⟩=some (.string z)):=(cell_of_row W _ 2 _ _ _ KR2.o).trans rfl;have C30:Hid (W.cell? ⟨R4,0,none⟩=some (.int .i64 9)):=(cell_of_row W _ 0 _ _ _ KR3.o).trans rfl;have C31:Hid (W.cell? ⟨R4,1,none⟩=some (.int .i64 n4)):=(cell_of_row W _ 1 _ _ _ KR3.o).trans rfl;have C32:Hid (W.cell? ⟨R4,2,none⟩=some (.string t4)):=(cell_of_row W _ 2 _ _ _ KR3.o).trans rfl;have hR1l:R1<W.heap.size:=(Array.getElem?_eq_some_iff.1 KR0.o).1;have hR2l:R2<W.heap.size:=(Array.getElem?_eq_some_iff.1 KR1.o).1;have hR3l:R3<W.heap.size:=(Array.getElem?_eq_some_iff.1 KR2.o).1;have hR4l:R4<W.heap.size:=(Array.getElem?_eq_some_iff.1 KR3.o).1
 clear hR1 hR2 hR3 hR4 hW;have hR1:=hR1l;have hR2:=hR2l;have hR3:=hR3l;have hR4:=hR4l
 have TAIL:∀(g:Nat→Value) (W':World),Below W.heap.size W W'→KK ⟨#[.bool true,g 1,g 2,g 3,g 4,g 5,g 6,g 7,g 8,g 9,g 10,g 11,g 12,g 13,g 14,g 15,g 16,g 17,g 18,g 19,g 20,g 21,g 22,g 23,g 24,g 25,g 26,g 27,g 28,g 29,g 30,g 31,g 32,g 33,g 34,g 35,g 36,g 37,g 38,g 39,g 40,g 41,g 42,g 43,g 44],[]⟩ W':=by
  intro g W' hb;apply hKK;clear hKK;go_wp2;go_ret;exact⟨rfl,zae HBW4.o hb⟩
 have HTAIL:=zaa TAIL;clear TAIL hKK;refine(show∀A0:Act,A0=_→Code.wp Tryz.prog _ _ A0 _ from fun A0 hA0=>?_) _ rfl;have hsz:A0.tmps.size=45:=by rw[hA0];rfl
 have hdf:A0.defers=[]:=by rw[hA0]
 have v2:A0.eval (.tmp 2)=.pointer (some ⟨R1,0,none⟩):=by rw[hA0];rfl
 have v3:A0.eval (.tmp 3)=.pointer (some ⟨R2,0,none⟩):=by rw[hA0];rfl
 have v4:A0.eval (.tmp 4)=.pointer (some ⟨R3,0,none⟩):=by rw[hA0];rfl
 have v5:A0.eval (.tmp 5)=.pointer (some ⟨R4,0,none⟩):=by rw[hA0];rfl
 clear hA0;refine zep (fun w'=>Below W.heap.size W w') [21,22,23,24,25,26,27,28,29,30,31,32,33,34,35,36,37,38,39,40,41,42,43,44,0] (zus R1 R2 R3 R4 z) (by kernel_rfl) (by kernel_rfl) (by kernel_rfl) ((Below.refl _ _).drew) ⟨?_,?_,?_,?_,?_,?_,?_,?_,?_,?_,?_,?_,?_,?_,?_,?_,?_,?_,?_,?_,?_,?_,?_,?_,?_,trivial⟩ ?_
 ·intro a w' hF hR hp
  have z2:=(hF.other 2 rfl).trans v2;exact zak _ rfl rfl (by revert z2;generalize a.eval=ρ;intro z2;simp only[execOp];go_simp) hF hsz hR rfl
 ·intro a w' hF hR hp
  have p21:a.eval (.tmp 21)=.pointer (some ⟨R1,0,none⟩):=hp ⟨0,.data⟩ (by simp) rfl;have c0:w'.cell? ⟨R1,0,none⟩=some (.int .i64 0):=zac hR hR1 C00.o;exact zak _ rfl rfl (by revert p21;generalize a.eval=ρ;intro p21;simp only[execOp];go_simp) hF hsz hR rfl
 ·intro a w' hF hR hp
  have p22:a.eval (.tmp 22)=.int .i64 0:=hp ⟨1,.data⟩ (by simp) rfl;exact zak _ rfl rfl (by have pc0:=Act.eval_const a (.int .i64 0);revert p22 pc0;generalize a.eval=ρ;intro p22 pc0;simp only[execOp];go_simp) hF hsz hR rfl
 ·intro a w' hF hR hp
  have p23:a.eval (.tmp 23)=.bool true:=hp ⟨2,.data⟩ (by simp) rfl;exact zak _ rfl rfl (by revert p23;generalize a.eval=ρ;intro p23;simp only[execOp];go_simp) hF hsz hR rfl
 ·intro a w' hF hR hp
  have pg:a.eval (.tmp 24)=.bool true:=hp ⟨3,Ground.guard⟩ (by simp) rfl;have z3:=(hF.other 3 rfl).trans v3;exact zf6 _ rfl (zbn (b:=true) rfl rfl pg) (by revert z3;generalize a.eval=ρ;intro z3;simp only[execOp];go_simp) hF hsz hR rfl
 ·intro a w' hF hR hp
  have pg:a.eval (.tmp 24)=.bool true:=hp ⟨3,Ground.guard⟩ (by simp) rfl;have p25:a.eval (.tmp 25)=.pointer (some ⟨R2,0,none⟩):=hp ⟨4,.data⟩ (by simp) rfl;have c0:w'.cell? ⟨R2,0,none⟩=some (.int .i64 0):=zac hR hR2 C10.o;exact zf6 _ rfl (zbn (b:=true) rfl rfl pg) (by revert p25;generalize a.eval=ρ;intro p25;simp only[execOp];go_simp) hF hsz hR rfl
 ·intro a w' hF hR hp
  have pg:a.eval (.tmp 24)=.bool true:=hp ⟨3,Ground.guard⟩ (by simp) rfl;have p26:a.eval (.tmp 26)=.int .i64 0:=hp ⟨5,.data⟩ (by simp) rfl;exact zf6 _ rfl (zbn (b:=true) rfl rfl pg) (by have pc0:=Act.eval_const a (.int .i64 0);revert p26 pc0;generalize a.eval=ρ;intro p26 pc0;simp only[execOp];go_simp) hF hsz hR rfl
 ·intro a w' hF hR hp
  have p24:a.eval (.tmp 24)=.bool true:=hp ⟨3,.data⟩ (by simp) rfl;have p27:a.eval (.tmp 27)=.bool true:=hp ⟨6,.data⟩ (by simp) rfl;exact zak _ rfl rfl (by revert p24 p27;generalize a.eval=ρ;intro p24 p27;simp only[execOp];go_simp) hF hsz hR rfl
 ·intro a w' hF hR hp
  have p28:a.eval (.tmp 28)=.bool true:=hp ⟨7,.data⟩ (by simp) rfl;exact zak _ rfl rfl (by revert p28;generalize a.eval=ρ;intro p28;simp only[execOp];go_simp) hF hsz hR rfl
 ·intro a w' hF hR hp
  have pg:a.eval (.tmp 29)=.bool true:=hp ⟨8,Ground.guard⟩ (by simp) rfl;have z4:=(hF.other 4 rfl).trans v4;exact zf6 _ rfl (zbn (b:=true) rfl rfl pg) (by revert z4;generalize a.eval=ρ;intro z4;simp only[execOp];go_simp) hF hsz hR rfl
 ·intro a w' hF hR hp
  have pg:a.eval (.tmp 29)=.bool true:=hp ⟨8,Ground.guard⟩ (by simp) rfl;have p30:a.eval (.tmp 30)=.pointer (some ⟨R3,2,none⟩):=hp ⟨9,.data⟩ (by simp) rfl;have c0:w'.cell? ⟨R3,2,none⟩=some (.string z):=zac hR hR3 C22.o;exact zf6 _ rfl (zbn (b:=true) rfl rfl pg) (by revert p30;generalize a.eval=ρ;intro p30;simp only[execOp];go_simp) hF hsz hR rfl
 ·intro a w' hF hR hp
  have pg:a.eval (.tmp 29)=.bool true:=hp ⟨8,Ground.guard⟩ (by simp) rfl;refine zno 25 #[.string ⟨#[120]⟩] rfl (zbn (b:=true) rfl rfl pg) (by have pf:=Act.eval_func a 25;have pc0:=Act.eval_const a (.string ⟨#[120]⟩);revert pf pc0;generalize a.eval=ρ;intro pf pc0;simp only[execOp];go_simp) _ (zgb ⟨#[120]⟩ _ (by decide)) ?_;rintro e w2 ⟨rfl,hb2⟩;refine⟨_,rfl,_,rfl,zae hR hb2,?_,zrl hb2⟩;show zus _ _ _ _ _ _ ((a.put (some 32) _).eval (.tmp 32)) w2;rw[zap hF hsz (by decide)];rw[←HZ.o];exact rfl
 ·intro a w' hF hR hp
  have pg:a.eval (.tmp 29)=.bool true:=hp ⟨8,Ground.guard⟩ (by simp) rfl;have p31:a.eval (.tmp 31)=.string z:=hp ⟨10,.data⟩ (by simp) rfl;have p32:a.eval (.tmp 32)=.string z:=hp ⟨11,.data⟩ (by simp) rfl;exact zf6 _ rfl (zbn (b:=true) rfl rfl pg) (by revert p31 p32;generalize a.eval=ρ;intro p31 p32;simp only[execOp];go_simp) hF hsz hR rfl
 ·intro a w' hF hR hp
  have p29:a.eval (.tmp 29)=.bool true:=hp ⟨8,.data⟩ (by simp) rfl;have p33:a.eval (.tmp 33)=.bool true:=hp ⟨12,.data⟩ (by simp) rfl;exact zak _ rfl rfl (by revert p29 p33;generalize a.eval=ρ;intro p29 p33;simp only[execOp];go_simp) hF hsz hR rfl
 ·intro a w' hF hR hp
  have p34:a.eval (.tmp 34)=.bool true:=hp ⟨13,.data⟩ (by simp) rfl;exact zak _ rfl rfl (by revert p34;generalize a.eval=ρ;intro p34;simp only[execOp];go_simp) hF hsz hR rfl
 ·intro a w' hF hR hp
  have pg:a.eval (.tmp 35)=.bool true:=hp ⟨14,Ground.guard⟩ (by simp) rfl;have z4:=(hF.other 4 rfl).trans v4;exact zf6 _ rfl (zbn (b:=true) rfl rfl pg) (by revert z4;generalize a.eval=ρ;intro z4;simp only[execOp];go_simp) hF hsz hR rfl
 ·intro a w' hF hR hp
  have pg:a.eval (.tmp 35)=.bool true:=hp ⟨14,Ground.guard⟩ (by simp) rfl;have p36:a.eval (.tmp 36)=.pointer (some ⟨R3,1,none⟩):=hp ⟨15,.data⟩ (by simp) rfl;have c0:w'.cell? ⟨R3,1,none⟩=some (.int .i64 1):=zac hR hR3 C21.o;exact zf6 _ rfl (zbn (b:=true) rfl rfl pg) (by revert p36;generalize a.eval=ρ;intro p36;simp only[execOp];go_simp) hF hsz hR rfl
 ·intro a w' hF hR hp
  have pg:a.eval (.tmp 35)=.bool true:=hp ⟨14,Ground.guard⟩ (by simp) rfl;have p37:a.eval (.tmp 37)=.int .i64 1:=hp ⟨16,.data⟩ (by simp) rfl;exact zf6 _ rfl (zbn (b:=true) rfl rfl pg) (by have pc0:=Act.eval_const a (.int .i64 1);revert p37 pc0;generalize a.eval=ρ;intro p37 pc0;simp only[execOp];go_simp) hF hsz hR rfl
 ·intro a w' hF hR hp
  have p35:a.eval (.tmp 35)=.bool true:=hp ⟨14,.data⟩ (by simp) rfl;have p38:a.eval (.tmp 38)=.bool true:=hp ⟨17,.data⟩ (by simp) rfl;exact zak _ rfl rfl (by revert p35 p38;generalize a.eval=ρ;intro p35 p38;simp only[execOp];go_simp) hF hsz hR rfl
 ·intro a w' hF hR hp
  have p39:a.eval (.tmp 39)=.bool true:=hp ⟨18,.data⟩ (by simp) rfl;exact zak _ rfl rfl (by revert p39;generalize a.eval=ρ;intro p39;simp only[execOp];go_simp) hF hsz hR rfl
 ·intro a w' hF hR hp
  have pg:a.eval (.tmp 40)=.bool true:=hp ⟨19,Ground.guard⟩ (by simp) rfl;have z5:=(hF.other 5 rfl).trans v5;exact zf6 _ rfl (zbn (b:=true) rfl rfl pg) (by revert z5;generalize a.eval=ρ;intro z5;simp only[execOp];go_simp) hF hsz hR rfl
 ·intro a w' hF hR hp
  have pg:a.eval (.tmp 40)=.bool true:=hp ⟨19,Ground.guard⟩ (by simp) rfl;have p41:a.eval (.tmp 41)=.pointer (some ⟨R4,0,none⟩):=hp ⟨20,.data⟩ (by simp) rfl;have c0:w'.cell? ⟨R4,0,none⟩=some (.int .i64 9):=zac hR hR4 C30.o;exact zf6 _ rfl (zbn (b:=true) rfl rfl pg) (by revert p41;generalize a.eval=ρ;intro p41;simp only[execOp];go_simp) hF hsz hR rfl
 ·intro a w' hF hR hp
  have pg:a.eval (.tmp 40)=.bool true:=hp ⟨19,Ground.guard⟩ (by simp) rfl;have p42:a.eval (.tmp 42)=.int .i64 9:=hp ⟨21,.data⟩ (by simp) rfl;exact zf6 _ rfl (zbn (b:=true) rfl rfl pg) (by have pc0:=Act.eval_const a (.int .i64 9);revert p42 pc0;generalize a.eval=ρ;intro p42 pc0;simp only[execOp];go_simp) hF hsz hR rfl
 ·intro a w' hF hR hp
  have p40:a.eval (.tmp 40)=.bool true:=hp ⟨19,.data⟩ (by simp) rfl;have p43:a.eval (.tmp 43)=.bool true:=hp ⟨22,.data⟩ (by simp) rfl;exact zak _ rfl rfl (by revert p40 p43;generalize a.eval=ρ;intro p40 p43;simp only[execOp];go_simp) hF hsz hR rfl
 ·intro a w' hF hR hp
  have p44:a.eval (.tmp 44)=.bool true:=hp ⟨23,.data⟩ (by simp) rfl;exact zak _ rfl rfl (by revert p44;generalize a.eval=ρ;intro p44;simp only[execOp];go_simp) hF hsz hR rfl
 ·intro a W' hF hR hp
  have p0:a.eval (.tmp 0)=.bool true:=hp 24 (by decide);have hsa:a.tmps.size=45:=hF.size.trans hsz;have hlit:a=⟨#[_,_,_,_,_,_,_,_,_,_,_,_,_,_,_,_,_,_,_,_,_,_,_,_,_,_,_,_,_,_,_,_,_,_,_,_,_,_,_,_,_,_,_,_,_],[]⟩:=zcj a 45 hsa (hF.defers.trans hdf);dsimp only at hlit;rw[p0] at hlit;show KK a _;exact(congrArg (fun x=>KK x _) hlit).mpr (HTAIL.o (fun k=>a.eval (.tmp k)) _ hR)
def ac0:Ac:=⟨0,0,0,0,⟨#[]⟩⟩
def ActAt (w:World)(b o:Nat)(x:Ac):Prop:=
 w.cell? ⟨b,o,none⟩=some (.int .i64 x.kind)∧w.cell? ⟨b,o+1,none⟩=some (.int .i64 x.h)∧w.cell? ⟨b,o+2,none⟩=some (.int .i64 x.b)∧w.cell? ⟨b,o+3,none⟩=some (.int .i64 x.n)∧w.cell? ⟨b,o+4,none⟩=some (.string x.text)
def SegA (w:World)(a:Option Addr)(l:List Ac):Prop:=l=[]∨∃b off,a=some ⟨b,off,none⟩∧b<w.heap.size∧∀i,i<l.length→ActAt w b (off+i*5) (l.getD i ac0)
theorem ActAt.ext {w w':World}{b o:Nat}{x:Ac}(h:ActAt w b o x)(e:Ext w w'):ActAt w' b o x:=⟨e.cell _ _ _ h.1,e.cell _ _ _ h.2.1,e.cell _ _ _ h.2.2.1,e.cell _ _ _ h.2.2.2.1,e.cell _ _ _ h.2.2.2.2⟩
theorem SegA.ext {w w':World}{a:Option Addr}{l:List Ac}(h:SegA w a l)(e:Ext w w'):SegA w' a l:=by
 rcases h with h|⟨b,off,rfl,hlt,hc⟩
 ·exact .inl h
 ·exact .inr ⟨b,off,rfl,Nat.lt_of_lt_of_le hlt e.size,fun i hi=>(hc i hi).ext e⟩
structure OkA (x:Ac):Prop where
 n:x.n≤9223372036854775807
 text:x.text.size≤maxLen
def jOf (l:List Ac)(k:Nat):Jn:=(l.take k).foldl (fun j a=>(doJ j a).1) zxd
def rOf (l:List Ac)(k:Nat):Rp:=(doJ (jOf l k) (l.getD k ac0)).2
theorem zut (l:List Ac):jOf l 0=zxd:=by rw[jOf,List.take_zero];rfl
theorem zuu {l:List Ac}{k:Nat}(h:k<l.length):jOf l (k+1)=(doJ (jOf l k) (l.getD k ac0)).1:=by
 rw[jOf,List.take_add_one,List.getElem?_eq_getElem h,List.foldl_append,List.getD,List.getElem?_eq_getElem h];rfl
theorem z0j (l:List Ac)(k:Nat):PJ (jOf l k):=by
 unfold jOf;generalize l.take k=q
 have:∀(q:List Ac) (j:Jn),PJ j→PJ (q.foldl (fun j a=>(doJ j a).1) j):=by
  intro q
  induction q with
  |nil=>intro j h;exact h
  |cons a q ih=>intro j h;exact ih _ (h.do a)
 exact this q _ PJ.new
def played (l:List Ac):Nat:=min l.length 150
def z4s (B:Nat)(b:Nat)(off:Nat)(k:Nat)(x:Ac)(r:Rp)(look:Value)(c:Nat)(l:List Ac):Nat→Value→World→Prop
 |0,v,_=>v=look
 |1,v,_=>v=.pointer (some ⟨B,0,none⟩)
 |2,v,_=>v=.slice (some ⟨b,off,none⟩) l.length c
 |3,v,_=>v=.int .i64 k
 |4,v,_=>v=.pointer (some ⟨b,off+k*5,none⟩)
 |5,v,_=>v=.agg #[.int .i64 x.kind,.int .i64 x.h,.int .i64 x.b,.int .i64 x.n,.string x.text]
 |6,v,_=>v=.agg #[.int .i64 r.code,.int .i64 r.n,.string r.text]
 |_,_,_=>True
theorem z0k (look:Value)(g:Nat)(lk:Value→Value→Value→Array Value)
  (hent:∀(o:Oper) (ρ:Operand→Value) (w:World) (x y z:Value) (ts:Array TypeId),o.op=Op.call {callee:=.value (.tmp 28),args:=#[.tmp 29,.tmp 33,.tmp 34],argTypes:=ts}→ρ (.tmp 28)=look→ρ (.tmp 29)=x→ρ (.tmp 33)=y→ρ (.tmp 34)=z→(execOp ρ o).run Tryz.prog w=.ok (.enter g (lk x y z)) w)
  (a:Option Addr) (c:Nat) (l:List Ac) (w:World) (LX:List Nat) (hA:SegA (zar w LX) a l) (hlen:l.length≤maxLen) (hok:∀x∈l,OkA x) (hLX:∀x∈LX,x<w.heap.size)
  (S:Nat→Nat→World→Prop) (hS0:∀W B,w.heap.size≤B→Below w.heap.size w W→JAt W B (B::LX) zxd→S B 0 W) (hSb:∀k W W' B,S B k W→w.heap.size≤B→w.heap.size≤W.heap.size→ButL [B] W.heap.size W W'→S B k W')
  (hL:∀k W B,k<played l→w.heap.size≤B→S B k W→JAt W B (B::LX) (jOf l (k+1))→(∀x∈(B::LX),x<W.heap.size)→Calls Tryz.prog g (lk (.pointer (some ⟨B,0,none⟩)) (.agg #[.int .i64 (l.getD k ac0).kind,.int .i64 (l.getD k ac0).h,.int .i64 (l.getD k ac0).b,.int .i64 (l.getD k ac0).n,.string (l.getD k ac0).text]) (.agg #[.int .i64 (rOf l k).code,.int .i64 (rOf l k).n,.string (rOf l k).text])) W fun e W'=>e=.returned (.bool true)∧S B (k+1) W'∧JAt W' B (B::LX) (jOf l (k+1))∧ButL LX w.heap.size W W'∧W.heap.size≤W'.heap.size):
  Calls Tryz.prog 21 #[.slice a l.length c,look] w fun e w'=>∃B,e=.returned (.tuple #[.pointer (some ⟨B,0,none⟩),.bool true])∧w.heap.size≤B∧S B (played l) w'∧JAt w' B (B::LX) (jOf l (played l))∧ButL LX w.heap.size w w':=by
 have HA:=zaa hA;have HOK:=zaa hok;have HLX:=zaa hLX;have HS0:=zaa hS0;have HSB:=zaa hSb;have HL:=zaa hL;have HENT:=zaa hent;clear hA hok hLX hS0 hSb hL hent;unfold maxLen at hlen;go_enter Tryz.func21,Tryz.ntmps21;go_wp2_with fail;refine(z0i _).mono ?_;rintro e w1 ⟨rfl,hb1⟩;have HB1:=zaa hb1;clear hb1;go_wp2_with fail;refine(zo8 _).mono ?_;rintro e w2 ⟨B,rfl,hB0,hJ,hbn⟩;have hs1:w.heap.size≤w1.heap.size:=HB1.o.size;have HJ2:=zaa (hJ LX (fun x hx=>Nat.lt_of_lt_of_le (HLX.o x hx) hs1));have HB2:=zaa (zae HB1.o hbn);have hBw:w.heap.size≤B:=by omega
 have HS2:Hid (S B 0 w2):=HS0.o w2 B hBw HB2.o HJ2.o;clear hJ hbn;go_wp2
 go_loopw [7] (fun i wr=>∃k:Nat,k≤played l∧i=.int .i64 k∧Hid (S B k wr)∧Hid (JAt wr B (B::LX) (jOf l k))∧Hid (ButL LX w.heap.size w wr)) (fun i _=>l.length - (intOf i).toNat)
 case atStart=>exact⟨0,Nat.zero_le _,rfl,HS2,by rw[zut];exact HJ2,ButL.of_below HB2.o⟩
 case round=>
  obtain⟨k,hk,rfl,HSr,HJr,HBr⟩:=hrel;clear HJ2 HB2 HS2 HB1;have hpl:played l=min l.length 150:=rfl;by_cases hkp:k<played l
  ·have hk1:k<l.length:=by omega
   have hk2:k<150:=by omega
   have i1:(k:Int)<(l.length:Int):=by omega
   have i2:(k:Int)<150:=by omega
   have i0:(0:Int)≤(k:Int):=by omega
   obtain⟨b,off,rfl,hb,hc⟩:=(HA.o.ext (Ext.butL HBr.o)).resolve_left (fun e=>by rw[e] at hk1;simp at hk1);obtain⟨x,hx⟩:∃x,x=l.getD k ac0:=⟨_,rfl⟩;have hca:=hc k hk1;rw[←hx] at hca;obtain⟨hnL,e0⟩:=zbz hca.1;have e1:=(zbz hca.2.1).2;have e2:=(zbz hca.2.2.1).2;have e3:=(zbz hca.2.2.2.1).2;have e4:=(zbz hca.2.2.2.2).2;have P00:=zaa e0;have P10:=zaa e1;have P20:=zaa e2;have P30:=zaa e3;have P40:=zaa e4;have hbr:b<wr.heap.size:=by rw[zbk] at hb;exact hb
   have hbw:b<w.heap.size:=by
    rcases HA.o with e|⟨b2,off2,he,hb2,_⟩
    ·rw[e] at hk1;simp at hk1
    ·cases he;rw[zbk] at hb2;exact hb2
   have HX:=zaa hx;have hxm:OkA x:=HOK.o x (by rw[hx,List.getD,List.getElem?_eq_getElem hk1];exact List.getElem_mem hk1);have HXM:=zaa hxm;have hsr:w.heap.size≤wr.heap.size:=HBr.o.size;clear hc hca hx hb hxm;go_wp2_with fail;refine(zjs B (B::LX) (jOf l k) wr HJr.o (fun y hy=>?_) (z0j l k).ready x HXM.o.n HXM.o.text).mono ?_
   ·rcases List.mem_cons.1 hy with rfl|hy
    ·exact HJr.o.lt
    ·have:=HLX.o y hy;omega
   rintro e wq ⟨rfl,hJq,hBq⟩;have hrE:(doJ (jOf l k) x).2=rOf l k:=by rw[rOf,HX.o]
   have hjE:(doJ (jOf l k) x).1=jOf l (k+1):=by rw[zuu hk1,HX.o]
   rw[hjE] at hJq;rw[hrE];obtain⟨r,hr⟩:∃r,r=rOf l k:=⟨_,rfl⟩;rw[←hr];rw[show vRp r=.agg #[.int .i64 r.code,.int .i64 r.n,.string r.text] from rfl];have HRR:=zaa hr;have hsq:wr.heap.size≤wq.heap.size:=hBq.size;have hbq:wq.heap[b]?=wr.heap[b]?:=hBq.block b hbr (by simp;omega);have P01:=zaa ((World.cell?_of_block hbq).trans P00.o);have P11:=zaa ((World.cell?_of_block hbq).trans P10.o);have P21:=zaa ((World.cell?_of_block hbq).trans P20.o);have P31:=zaa ((World.cell?_of_block hbq).trans P30.o);have P41:=zaa ((World.cell?_of_block hbq).trans P40.o);have HSq:=zaa (HSB.o k wr wq B HSr.o hBw hsr hBq);have HBq2:Hid (ButL LX w.heap.size w wq):=HBr.o.trans hBq hsr (by simp;omega);clear hrE hjE hr hBq hbq e0 e1 e2 e3 e4;go_wp2;rename_i KK hKK;obtain⟨W1,hW1⟩:∃W1,W1=wq.alloc (.cells #[.int .i64 r.code,.int .i64 r.n,.string r.text] 31):=⟨_,rfl⟩;rw[←hW1];have hbW:Below wq.heap.size wq W1:=by rw[hW1];exact zab _ _
   have KRb:W1.heap[wq.heap.size]?=some (.cells #[.int .i64 r.code,.int .i64 r.n,.string r.text] 31 (0,0)):=by rw[hW1];exact heap_alloc_new _ _
   have Q0:Hid (W1.cell? ⟨wq.heap.size,0,none⟩=some (.int .i64 r.code)):=(cell_of_row W1 _ 0 _ _ _ KRb).trans rfl;have Q1:Hid (W1.cell? ⟨wq.heap.size,1,none⟩=some (.int .i64 r.n)):=(cell_of_row W1 _ 1 _ _ _ KRb).trans rfl;have Q2:Hid (W1.cell? ⟨wq.heap.size,2,none⟩=some (.string r.text)):=(cell_of_row W1 _ 2 _ _ _ KRb).trans rfl;have P0:=zaa (zac hbW (show b<wq.heap.size by omega) P01.o);have P1:=zaa (zac hbW (show b<wq.heap.size by omega) P11.o);have P2:=zaa (zac hbW (show b<wq.heap.size by omega) P21.o);have P3:=zaa (zac hbW (show b<wq.heap.size by omega) P31.o);have P4:=zaa (zac hbW (show b<wq.heap.size by omega) P41.o);have hs1:W1.heap.size=wq.heap.size+1:=by rw[hW1];simp
   have hRW:wq.heap.size<W1.heap.size:=by omega
   have hbW1:b<W1.heap.size:=by omega
   have HLK:Hid (∀W,Below W1.heap.size W1 W→Calls Tryz.prog g (lk (.pointer (some ⟨B,0,none⟩)) (.agg #[.int .i64 x.kind,.int .i64 x.h,.int .i64 x.b,.int .i64 x.n,.string x.text]) (.agg #[.int .i64 r.code,.int .i64 r.n,.string r.text])) W fun e W'=>e=.returned (.bool true)∧S B (k+1) W'∧JAt W' B (B::LX) (jOf l (k+1))∧ButL LX w.heap.size w W'∧W.heap.size≤W'.heap.size):=by
    intro W hR;have hbb:=zae hbW hR
    have h1:=HL.o k W B hkp hBw (HSB.o k wq W B HSq.o hBw (by omega) (ButL.of_below hbb)) (hJq.below hbb) (fun y hy=>by
     have h2:=hbb.size;rcases List.mem_cons.1 hy with rfl|hy
     ·have:=hJq.lt;omega
     ·have:=HLX.o y hy;omega)
    rw[←HX.o,←HRR.o] at h1;refine h1.mono ?_;rintro e W' ⟨h3,h4,h5,h6,h7⟩;exact⟨h3,h4,h5,(HBq2.o.trans (Y:=[]) (ButL.of_below hbb) (by omega) (by simp)).trans h6 (Nat.le_refl _) (by intro y hy;exact .inl hy),h7⟩
   have hbW:=hbW1
   have TAIL:∀(g:Nat→Value) (W':World),S B (k+1) W'→JAt W' B (B::LX) (jOf l (k+1))→ButL LX w.heap.size w W'→True→KK ⟨#[.slice (some ⟨b,off,none⟩) l.length c,look,undef,undef,g 4,g 5,.pointer (some ⟨B,0,none⟩),.int .i64 (k:Int),g 8,.bool true,.bool false,.pointer (some ⟨B,0,none⟩),g 12,g 13,g 14,g 15,g 16,g 17,g 18,g 19,g 20,g 21,g 22,g 23,g 24,g 25,g 26,g 27,g 28,g 29,g 30,g 31,g 32,g 33,g 34,g 35,.bool false,g 37,undef],[]⟩ W':=by
    intro g W' hS' hJ' hB' _;apply hKK;clear hKK;have HS':=zaa hS';have HJ':=zaa hJ';have HB':=zaa hB';clear hS' hJ' hB';go_wp2
    go_roundw
    case rel=>exact⟨k+1,by omega,by go_num,HS',HJ',HB'⟩
    case measure=>first|(simp[intOf];omega)|simp[intOf]
   have HTAIL:=zaa TAIL;clear TAIL hKK;refine(show∀A0:Act,A0=_→Code.wp Tryz.prog _ _ A0 _ from fun A0 hA0=>?_) _ rfl;have hsz:A0.tmps.size=39:=by rw[hA0];rfl
   have hdf:A0.defers=[]:=by rw[hA0]
   have v0:A0.eval (.tmp 0)=.slice (some ⟨b,off,none⟩) l.length c:=by rw[hA0];rfl
   have v1:A0.eval (.tmp 1)=look:=by rw[hA0];rfl
   have v2:A0.eval (.tmp 2)=undef:=by rw[hA0];rfl
   have v3:A0.eval (.tmp 3)=undef:=by rw[hA0];rfl
   have v6:A0.eval (.tmp 6)=.pointer (some ⟨B,0,none⟩):=by rw[hA0];rfl
   have v7:A0.eval (.tmp 7)=.int .i64 (k:Int):=by rw[hA0];rfl
   have v9:A0.eval (.tmp 9)=.bool true:=by rw[hA0];rfl
   have v10:A0.eval (.tmp 10)=.bool false:=by rw[hA0];rfl
   have v11:A0.eval (.tmp 11)=.pointer (some ⟨B,0,none⟩):=by rw[hA0];rfl
   have v38:A0.eval (.tmp 38)=undef:=by rw[hA0];rfl
   have v8:A0.eval (.tmp 8)=.pointer (some ⟨wq.heap.size,0,none⟩):=by rw[hA0];rfl
   clear hA0;refine zbe 7 (fun w'=>Below W1.heap.size W1 w') [28,29,30,31,32,33,34] (z4s B b off k x r look c l) (by kernel_rfl) (by kernel_rfl) (by kernel_rfl) (by kernel_rfl) (by decide) ((Below.refl _ _).drew) ⟨?_,?_,?_,?_,?_,?_,?_,trivial⟩ ?_
   ·intro a w' hF hR hp
    have z1:=(hF.other 1 rfl).trans v1;exact zak _ rfl rfl (by revert z1;generalize a.eval=ρ;intro z1;simp only[execOp];go_simp) hF hsz hR rfl
   ·intro a w' hF hR hp
    have z6:=(hF.other 6 rfl).trans v6;exact zak _ rfl rfl (by revert z6;generalize a.eval=ρ;intro z6;simp only[execOp];go_simp) hF hsz hR rfl
   ·intro a w' hF hR hp
    have z0:=(hF.other 0 rfl).trans v0;exact zak _ rfl rfl (by revert z0;generalize a.eval=ρ;intro z0;simp only[execOp];go_simp) hF hsz hR rfl
   ·intro a w' hF hR hp
    have z7:=(hF.other 7 rfl).trans v7;exact zak _ rfl rfl (by revert z7;generalize a.eval=ρ;intro z7;simp only[execOp];go_simp) hF hsz hR rfl
   ·intro a w' hF hR hp
    have p30:a.eval (.tmp 30)=.slice (some ⟨b,off,none⟩) l.length c:=hp ⟨2,.data⟩ (by simp) rfl;have p31:a.eval (.tmp 31)=.int .i64 k:=hp ⟨3,.data⟩ (by simp) rfl;exact zak _ rfl rfl (by revert p30 p31;generalize a.eval=ρ;intro p30 p31;simp only[execOp];go_simp) hF hsz hR rfl
   ·intro a w' hF hR hp
    have p32:a.eval (.tmp 32)=.pointer (some ⟨b,off+k*5,none⟩):=hp ⟨4,.data⟩ (by simp) rfl;have c0:w'.cell? ⟨b,off+k*5,none⟩=some (.int .i64 x.kind):=zac hR hbW (P0.o);have c1:w'.cell? ⟨b,off+k*5+1,none⟩=some (.int .i64 x.h):=zac hR hbW (P1.o);have c2:w'.cell? ⟨b,off+k*5+2,none⟩=some (.int .i64 x.b):=zac hR hbW (P2.o);have c3:w'.cell? ⟨b,off+k*5+3,none⟩=some (.int .i64 x.n):=zac hR hbW (P3.o);have c4:w'.cell? ⟨b,off+k*5+4,none⟩=some (.string x.text):=zac hR hbW (P4.o);exact zak _ rfl rfl (by revert p32;generalize a.eval=ρ;intro p32;simp only[execOp];go_simp) hF hsz hR rfl
   ·intro a w' hF hR hp
    have z8:=(hF.other 8 rfl).trans v8;have c0:w'.cell? ⟨wq.heap.size,0,none⟩=some (.int .i64 r.code):=zac hR hRW (Q0.o);have c1:w'.cell? ⟨wq.heap.size,1,none⟩=some (.int .i64 r.n):=zac hR hRW (Q1.o);have c2:w'.cell? ⟨wq.heap.size,2,none⟩=some (.string r.text):=zac hR hRW (Q2.o);exact zak _ rfl rfl (by revert z8;generalize a.eval=ρ;intro z8;simp only[execOp];go_simp) hF hsz hR rfl
   ·intro aa W hF hR hp
    have p28:aa.eval (.tmp 28)=look:=hp 0 (by decide);have p29:aa.eval (.tmp 29)=.pointer (some ⟨B,0,none⟩):=hp 1 (by decide);have p33:aa.eval (.tmp 33)=.agg #[.int .i64 x.kind,.int .i64 x.h,.int .i64 x.b,.int .i64 x.n,.string x.text]:=hp 5 (by decide);have p34:aa.eval (.tmp 34)=.agg #[.int .i64 r.code,.int .i64 r.n,.string r.text]:=hp 6 (by decide);have hsa:aa.tmps.size=39:=hF.size.trans hsz;show wpOps Tryz.prog _ _ [7,8] aa W;rw[wpOps_cons];refine zbu g (lk (.pointer (some ⟨B,0,none⟩)) (.agg #[.int .i64 x.kind,.int .i64 x.h,.int .i64 x.b,.int .i64 x.n,.string x.text]) (.agg #[.int .i64 r.code,.int .i64 r.n,.string r.text])) rfl rfl (HENT.o _ aa.eval W _ _ _ _ rfl p28 p29 p33 p34) _ (HLK.o W hR) ?_;rintro e w5 ⟨rfl,hS5,hJ5,hB5,_⟩;refine⟨_,rfl,?_⟩;obtain⟨b1,hb1⟩:∃b1,b1=aa.put (some 35) (.bool true):=⟨_,rfl⟩;have s35:b1.eval (.tmp 35)=.bool true:=by rw[hb1];exact Act.eval_put_same _ _ _ (by rw[hsa];decide)
    have hs1:b1.tmps.size=39:=by rw[hb1,Act.size_put];exact hsa
    show wpOps Tryz.prog _ _ [8] (aa.put (some 35) (.bool true)) w5;rw[←hb1,wpOps_cons];refine zax (.bool false) rfl rfl (by revert s35;generalize b1.eval=ρ;intro s35;simp only[execOp];go_simp) ?_;obtain⟨b2,hb2⟩:∃b2,b2=b1.put (some 36) (.bool false):=⟨_,rfl⟩;have f36:b2.eval (.tmp 36)=.bool false:=by rw[hb2];exact Act.eval_put_same _ _ _ (by rw[hs1];decide)
    have f0:b2.eval (.tmp 0)=.slice (some ⟨b,off,none⟩) l.length c:=by rw[hb2,Act.eval_put_ne _ _ _ _ (by decide),hb1,Act.eval_put_ne _ _ _ _ (by decide)];exact(hF.other 0 rfl).trans v0
    have f1:b2.eval (.tmp 1)=look:=by rw[hb2,Act.eval_put_ne _ _ _ _ (by decide),hb1,Act.eval_put_ne _ _ _ _ (by decide)];exact(hF.other 1 rfl).trans v1
    have f2:b2.eval (.tmp 2)=undef:=by rw[hb2,Act.eval_put_ne _ _ _ _ (by decide),hb1,Act.eval_put_ne _ _ _ _ (by decide)];exact(hF.other 2 rfl).trans v2
    have f3:b2.eval (.tmp 3)=undef:=by rw[hb2,Act.eval_put_ne _ _ _ _ (by decide),hb1,Act.eval_put_ne _ _ _ _ (by decide)];exact(hF.other 3 rfl).trans v3
    have f6:b2.eval (.tmp 6)=.pointer (some ⟨B,0,none⟩):=by rw[hb2,Act.eval_put_ne _ _ _ _ (by decide),hb1,Act.eval_put_ne _ _ _ _ (by decide)];exact(hF.other 6 rfl).trans v6
    have f7:b2.eval (.tmp 7)=.int .i64 (k:Int):=by rw[hb2,Act.eval_put_ne _ _ _ _ (by decide),hb1,Act.eval_put_ne _ _ _ _ (by decide)];exact(hF.other 7 rfl).trans v7
    have f9:b2.eval (.tmp 9)=.bool true:=by rw[hb2,Act.eval_put_ne _ _ _ _ (by decide),hb1,Act.eval_put_ne _ _ _ _ (by decide)];exact(hF.other 9 rfl).trans v9
    have f10:b2.eval (.tmp 10)=.bool false:=by rw[hb2,Act.eval_put_ne _ _ _ _ (by decide),hb1,Act.eval_put_ne _ _ _ _ (by decide)];exact(hF.other 10 rfl).trans v10
    have f11:b2.eval (.tmp 11)=.pointer (some ⟨B,0,none⟩):=by rw[hb2,Act.eval_put_ne _ _ _ _ (by decide),hb1,Act.eval_put_ne _ _ _ _ (by decide)];exact(hF.other 11 rfl).trans v11
    have f38:b2.eval (.tmp 38)=undef:=by rw[hb2,Act.eval_put_ne _ _ _ _ (by decide),hb1,Act.eval_put_ne _ _ _ _ (by decide)];exact(hF.other 38 rfl).trans v38
    have hlit:b2=⟨#[_,_,_,_,_,_,_,_,_,_,_,_,_,_,_,_,_,_,_,_,_,_,_,_,_,_,_,_,_,_,_,_,_,_,_,_,_,_,_],[]⟩:=zcj b2 39 (by rw[hb2,Act.size_put];exact hs1) (by rw[hb2,Act.defers_put',hb1,Act.defers_put'];exact hF.defers.trans hdf);dsimp only at hlit;rw[f0,f1,f2,f3,f6,f7,f9,f10,f11,f36,f38] at hlit;show KK (b1.put (some 36) (.bool false)) _;rw[←hb2];exact(congrArg (fun y=>KK y _) hlit).mpr (HTAIL.o (fun k=>b2.eval (.tmp k)) _ hS5 hJ5 hB5 trivial)
  ·have hkn:k=played l:=by omega
   subst hkn;have hfin:¬((played l:Int)<(l.length:Int))∨¬((played l:Int)<150):=by omega
   clear hpl;rcases Classical.em ((played l:Int)<(l.length:Int)) with i1|i1
   ·have i2:¬((played l:Int)<150):=by omega
    clear hfin;go_wp2;refine bodyPost_ret (results_tmp2 rfl _ _ _) rfl ⟨B,rfl,hBw,HSr.o,HJr.o,HBr.o⟩
   ·clear hfin
    go_wp2;refine bodyPost_ret (results_tmp2 rfl _ _ _) rfl ⟨B,rfl,hBw,HSr.o,HJr.o,HBr.o⟩
theorem SegA.hideW {w:World}{a:Option Addr}{l:List Ac}(h:SegA w a l){w':World}(hb:Below w.heap.size w w'){X:List Nat}(hX:∀x∈X,w.heap.size≤x):SegA (zar w' X) a l:=by
 rcases h with h0|⟨b,off,rfl,hlt,hc⟩
 ·exact .inl h0
 ·have hn:b∉X:=fun hx=>by have:=hX b hx;omega
  refine .inr ⟨b,off,rfl,by rw[zbk];have:=hb.size;omega,fun i hi=>?_⟩;obtain⟨g0,g1,g2,g3,g4⟩:=hc i hi;exact⟨zb1 hn (zac hb hlt g0),zb1 hn (zac hb hlt g1),zb1 hn (zac hb hlt g2),zb1 hn (zac hb hlt g3),zb1 hn (zac hb hlt g4)⟩
theorem PJ.reach {j:Jn}(h:PJ j):zrt j.now∧j.disk.safe.length*16≤140737488355328∧j.disk.wr.length*24≤140737488355328:=by
 have hR:=h.ready;obtain⟨D,h1,_,_⟩:=h;have hg:=zg9 h1.disk
 have hrv:j.now.rev.length≤12:=by
  by_cases hu:j.down=false
  ·exact(zaw (h1.pow hu).good).2.2
  ·cases h1 with
   |idle p=>exact absurd p.up hu
   |commit P U k p=>exact absurd p.up hu
   |check k p=>exact absurd p.up hu
   |off l N P U p=>rw[p.now];exact Nat.zero_le _
   |back U k p=>rw[p.now];exact Nat.zero_le _
 exact⟨⟨by have:=hR.info;omega,by have:=hR.data;omega,by omega⟩,by omega,by omega⟩
theorem z2h (A:Nat)(XA:List Nat)(B:Nat)(XB:List Nat)(i j:Jn)(w:World)(hA:JAt w A XA i)(hB:JAt w B XB j)(hi:PJ i)(hj:PJ j)(e1:i.rh=j.rh)(e2:i.ru=j.ru)(e3:i.last=j.last)(e4:i.down=j.down)(e5:i.now=j.now)(e6:i.disk=j.disk):
  Calls Tryz.prog 38 #[.pointer (some ⟨A,0,none⟩),.pointer (some ⟨B,0,none⟩)] w fun e w'=>e=.returned (.bool true)∧Below w.heap.size w w':=by
 have HA:=zaa hA;have HB:=zaa hB;have HI:=zaa hi.reach;have HJ:=zaa hj.reach;have E5:=zaa e5;have E6:=zaa e6;clear hA hB hi hj e5 e6;go_enter Tryz.func38,Tryz.ntmps38;go_wp2_with fail;refine(zrn A XA i w HA.o).mono ?_;rintro e w1 ⟨rfl,hb1⟩;have H1:=zaa hb1;clear hb1;go_wp2_with fail;refine(zrn B XB j _ (HB.o.below (zae H1.o (zab _ _)))).mono ?_;rintro e w2 ⟨rfl,hb2⟩;rw[e1,e2,e3,e4] at *;have KA:=zaa (z2j hb2);have H2:=zaa (zae (zae H1.o (zab _ _)) hb2);have hs2:w1.heap.size<w2.heap.size:=by have:=hb2.size;simp at this;omega
 clear hb2 H1;obtain⟨⟨x0,x1⟩,_⟩:=zfl KA.o;go_wp2_with fail;obtain⟨W3,hW3⟩:∃W3,W3=w2.alloc (.cells #[.int .i64 j.rh,.int .i64 j.ru] 26):=⟨_,rfl⟩;have H3:Hid (Below w.heap.size w W3):=by rw[hW3];exact zae H2.o (zab _ _)
 rw[←hW3];clear hW3 x0 x1 hs2 KA;refine(zke A XA i W3 (HA.o.below H3.o) HI.o.1).mono ?_;rintro e w4 ⟨v4,rfl,hT4,hb4⟩;have HT4:=zaa hT4;have H4:=zaa (zae H3.o hb4);clear hT4 hb4;go_wp2_with fail;refine(zke B XB j w4 (HB.o.below H4.o) HJ.o.1).mono ?_;rintro e w5 ⟨v5,rfl,hT5,hb5⟩;have H5:=zaa (zae H4.o hb5);have HT45:Hid (IsTx w5 v4 j.now):=by rw[Hid,←E5.o];exact HT4.o.below hb5
 have HT5:=zaa hT5;clear hT5 hb5;go_wp2_with fail;refine(zxb v4 v5 j.now w5 HT45.o HT5.o).mono ?_;rintro e w6 ⟨rfl,hb6⟩;have H6:=zaa (zae H5.o hb6);clear hb6;go_wp2_with fail;refine(zrp A XA i w6 (HA.o.below H6.o) HI.o.2.1 HI.o.2.2).mono ?_;rintro e w7 ⟨v7,rfl,hD7,hb7⟩;have HD7:=zaa hD7;have H7:=zaa (zae H6.o hb7);clear hD7 hb7;go_wp2_with fail;refine(zrp B XB j w7 (HB.o.below H7.o) HJ.o.2.1 HJ.o.2.2).mono ?_;rintro e w8 ⟨v8,rfl,hD8,hb8⟩;have H8:=zaa (zae H7.o hb8);have HD78:Hid (IsDk w8 v7 j.disk):=by rw[Hid,←E6.o];exact HD7.o.below hb8
 have HD8:=zaa hD8;clear hD8 hb8;go_wp2_with fail;obtain⟨a1,c1,a1',c1',rfl,s1,s2,n1,n2⟩:=HD78.o;obtain⟨a2,c2,a2',c2',rfl,s3,s4,_,_⟩:=HD8.o;refine(zrm a1 c1 a1' c1' a2 c2 a2' c2' j.disk w8 s1 s2 s3 s4 n1 n2).mono ?_;rintro e w9 ⟨rfl,hb9⟩;have H9:=zaa (zae H8.o hb9);clear hb9 s1 s2 s3 s4;go_wp2;go_ret;exact⟨rfl,H9.o⟩
def SRow (W:World)(a:Option Addr)(n sz off lo hi:Nat):Prop:=
 n=0∨∃g,a=some ⟨g,0,none⟩∧lo≤g∧g<hi∧∀i,i<n→(∃s,W.cell? ⟨g,i*sz+off,none⟩=some (.string s))∧W.frozen? ⟨g,i*sz+off,none⟩=false
theorem SRow.below {W W':World}{a:Option Addr}{n sz off lo hi:Nat}(h:SRow W a n sz off lo hi)(hi':hi≤W.heap.size)(hb:Below W.heap.size W W'):SRow W' a n sz off lo hi:=by
 rcases h with h|⟨g,e,h1,h2,h3⟩
 ·exact .inl h
 ·refine .inr ⟨g,e,h1,h2,fun i hi2=>?_⟩
  obtain⟨⟨s,hs⟩,hf⟩:=h3 i hi2;exact⟨⟨s,zac hb (by omega) hs⟩,za3 hb (by omega) hf⟩
theorem SRow.wider {W:World}{a:Option Addr}{n sz off lo hi lo' hi':Nat}(h:SRow W a n sz off lo hi)(h1:lo'≤lo)(h2:hi≤hi'):SRow W a n sz off lo' hi':=by
 rcases h with h|⟨q,e,a1,a2,a3⟩
 ·exact .inl h
 ·exact .inr ⟨q,e,by omega,by omega,a3⟩
theorem SRow.own {W:World}{a:Option Addr}{n sz off lo hi g o:Nat}{u:ByteArray}(h:SRow W a n sz off lo hi):SRow (W.setCell ⟨g,o,none⟩ (.string u)) a n sz off lo hi:=by
 rcases h with h|⟨q,e,h1,h2,h3⟩
 ·exact .inl h
 ·refine .inr ⟨q,e,h1,h2,fun i hi2=>?_⟩
  obtain⟨⟨s,hs⟩,hf⟩:=h3 i hi2;rw[World.frozen?_setCell];refine⟨?_,hf⟩;by_cases he:(⟨g,o,none⟩:Addr)=⟨q,i*sz+off,none⟩
  ·rw[he];exact⟨u,World.cell?_setCell_same _ _ _ hs⟩
  ·rw[World.cell?_setCell_other _ _ _ _ he];exact⟨s,hs⟩
theorem SRow.other {W:World}{a:Option Addr}{n sz off lo hi g o:Nat}{u v:Int}(h:SRow W a n sz off lo hi)(hv:W.cell? ⟨g,o,none⟩=some (.int .i64 v)):SRow (W.setCell ⟨g,o,none⟩ (.int .i64 u)) a n sz off lo hi:=by
 rcases h with h|⟨q,e,h1,h2,h3⟩
 ·exact .inl h
 ·refine .inr ⟨q,e,h1,h2,fun i hi2=>?_⟩
  obtain⟨⟨s,hs⟩,hf⟩:=h3 i hi2;rw[World.frozen?_setCell];refine⟨?_,hf⟩;have he:(⟨g,o,none⟩:Addr)≠⟨q,i*sz+off,none⟩:=fun e=>by rw[e,hs] at hv;cases hv
  rw[World.cell?_setCell_other _ _ _ _ he];exact⟨s,hs⟩
def IRow (W:World)(a:Option Addr)(n sz off lo hi:Nat):Prop:=
 n=0∨∃g,a=some ⟨g,0,none⟩∧lo≤g∧g<hi∧∀i,i<n→(∃s,W.cell? ⟨g,i*sz+off,none⟩=some (.int .i64 s))∧W.frozen? ⟨g,i*sz+off,none⟩=false
theorem IRow.below {W W':World}{a:Option Addr}{n sz off lo hi:Nat}(h:IRow W a n sz off lo hi)(hi':hi≤W.heap.size)(hb:Below W.heap.size W W'):IRow W' a n sz off lo hi:=by
 rcases h with h|⟨g,e,h1,h2,h3⟩
 ·exact .inl h
 ·refine .inr ⟨g,e,h1,h2,fun i hi2=>?_⟩
  obtain⟨⟨s,hs⟩,hf⟩:=h3 i hi2;exact⟨⟨s,zac hb (by omega) hs⟩,za3 hb (by omega) hf⟩
theorem IRow.wider {W:World}{a:Option Addr}{n sz off lo hi lo' hi':Nat}(h:IRow W a n sz off lo hi)(h1:lo'≤lo)(h2:hi≤hi'):IRow W a n sz off lo' hi':=by
 rcases h with h|⟨q,e,a1,a2,a3⟩
 ·exact .inl h
 ·exact .inr ⟨q,e,by omega,by omega,a3⟩
theorem IRow.own {W:World}{a:Option Addr}{n sz off lo hi g o:Nat}{u:Int}(h:IRow W a n sz off lo hi):IRow (W.setCell ⟨g,o,none⟩ (.int .i64 u)) a n sz off lo hi:=by
 rcases h with h|⟨q,e,h1,h2,h3⟩
 ·exact .inl h
 ·refine .inr ⟨q,e,h1,h2,fun i hi2=>?_⟩
  obtain⟨⟨s,hs⟩,hf⟩:=h3 i hi2;rw[World.frozen?_setCell];refine⟨?_,hf⟩;by_cases he:(⟨g,o,none⟩:Addr)=⟨q,i*sz+off,none⟩
  ·rw[he];exact⟨u,World.cell?_setCell_same _ _ _ hs⟩
  ·rw[World.cell?_setCell_other _ _ _ _ he];exact⟨s,hs⟩
theorem IRow.other {W:World}{a:Option Addr}{n sz off lo hi g o:Nat}{u v:ByteArray}(h:IRow W a n sz off lo hi)(hv:W.cell? ⟨g,o,none⟩=some (.string v)):IRow (W.setCell ⟨g,o,none⟩ (.string u)) a n sz off lo hi:=by
 rcases h with h|⟨q,e,h1,h2,h3⟩
 ·exact .inl h
 ·refine .inr ⟨q,e,h1,h2,fun i hi2=>?_⟩
  obtain⟨⟨s,hs⟩,hf⟩:=h3 i hi2;rw[World.frozen?_setCell];refine⟨?_,hf⟩;have he:(⟨g,o,none⟩:Addr)≠⟨q,i*sz+off,none⟩:=fun e=>by rw[e,hs] at hv;cases hv
  rw[World.cell?_setCell_other _ _ _ _ he];exact⟨s,hs⟩
theorem zk2 {W:World}{base n sz c:Nat}{e:TypeId}{a:Option Addr}{xs:List Value}(h:W.ownsRow base e sz (.slice a n c) n xs):n=0∨∃g,a=some ⟨g,0,none⟩∧base≤g∧g<W.heap.size∧(∀j,j<n*sz→W.cell? ⟨g,j,none⟩=xs[j]?)∧∀j,W.frozen? ⟨g,j,none⟩=false:=by
 rcases h.2 with⟨_,h0⟩|⟨g,cap,cur,hv,hb,hg,_⟩
 ·exact .inl h0
 ·simp only[Value.slice.injEq] at hv
  obtain⟨rfl,_,rfl⟩:=hv;exact .inr ⟨g,rfl,hb,(Array.getElem?_eq_some_iff.1 hg).1,fun j hj=>h.cellAt j hj,fun j=>frozen_of_row W _ j _ _ hg⟩
theorem z4u {W:World}{base c:Nat}{a:Option Addr}{l:List ByteArray}(h:W.ownsRow base 9 1 (.slice a l.length c) l.length (cellsS l)):SRow W a l.length 1 0 base W.heap.size:=by
 rcases zk2 h with h0|⟨g,e,h1,h2,h3,h4⟩
 ·exact .inl h0
 ·refine .inr ⟨g,e,h1,h2,fun i hi=>⟨⟨l.getD i ByteArray.empty,?_⟩,h4 _⟩⟩
  rw[show i*1+0=i by omega,h3 i (by omega),zk5 l i hi]
theorem z4v {W:World}{base c:Nat}{a:Option Addr}{l:List (Int×ByteArray)}(h:W.ownsRow base 82 2 (.slice a l.length c) l.length (cellsW l)):SRow W a l.length 2 1 base W.heap.size:=by
 rcases zk2 h with h0|⟨g,e,h1,h2,h3,h4⟩
 ·exact .inl h0
 ·refine .inr ⟨g,e,h1,h2,fun i hi=>⟨⟨(l.getD i (0,ByteArray.empty)).2,?_⟩,h4 _⟩⟩
  rw[h3 (i*2+1) (by omega),(zk6 l i hi).2]
theorem z2x {W:World}{base c:Nat}{a:Option Addr}{l:List (Int×ByteArray)}(h:W.ownsRow base 84 2 (.slice a l.length c) l.length (cellsC l)):SRow W a l.length 2 1 base W.heap.size:=by
 rcases zk2 h with h0|⟨g,e,h1,h2,h3,h4⟩
 ·exact .inl h0
 ·refine .inr ⟨g,e,h1,h2,fun i hi=>⟨⟨(l.getD i (0,ByteArray.empty)).2,?_⟩,h4 _⟩⟩
  obtain⟨a2,c2,hv,hs,_⟩:=SegC.of_owns h;simp only[Value.slice.injEq] at hv;obtain⟨rfl,_,rfl⟩:=hv;rcases hs with hs|⟨b,off,e2,_,hc⟩
  ·rw[hs] at hi;simp at hi
  ·rw[e] at e2
   cases e2;have:=(hc i hi).2;rw[Nat.zero_add] at this;exact this
theorem z4w {W:World}{base c:Nat}{a:Option Addr}{l:List Int}(h:W.ownsRow base 3 1 (.slice a l.length c) l.length (cellsI l)):IRow W a l.length 1 0 base W.heap.size:=by
 rcases zk2 h with h0|⟨g,e,h1,h2,h3,h4⟩
 ·exact .inl h0
 ·refine .inr ⟨g,e,h1,h2,fun i hi=>⟨⟨l.getD i 0,?_⟩,h4 _⟩⟩
  obtain⟨a2,c2,hv,hs,_⟩:=SegI.of_owns h;simp only[Value.slice.injEq] at hv;obtain⟨rfl,_,rfl⟩:=hv;rcases hs with hs|⟨b,off,e2,_,hc⟩
  ·rw[hs] at hi;simp at hi
  ·rw[e] at e2
   cases e2;have:=hc i hi;rw[Nat.zero_add] at this;rw[show i*1+0=i by omega];exact this
theorem ButL.drew {X:List Nat}{n:Nat}{w w':World}(h:ButL X n w w'):ButL X n w {w' with drawn:=w'.drawn+1}:=⟨h.os,h.tape,h.output,h.size,h.block⟩
theorem JAt.drew {w:World}{B:Nat}{X:List Nat}{j:Jn}(h:JAt w B X j):JAt {w with drawn:=w.drawn+1} B X j:=h.below ((Below.refl _ _).drew)
theorem z2y {W:World}{L:Nat}{v:Value}{t:TypeId}(h:W.heap[L]?=some (.cells #[v] t (0,0))):W.cell? ⟨L,0,none⟩=some v:=(cell_of_row W _ 0 _ _ _ h).trans rfl
structure MemR (O L:Nat)(X:List Nat)(jo jn:Jn)(W0:World)(b:Bool)(w:World):Prop where
 but:ButL [O] W0.heap.size W0 w
 old:b=false→JAt w O X jo
 new:b=true→JAt w O X jn
 box:w.heap[L]?=some (.cells #[.pointer (some ⟨O,0,none⟩)] 24 (0,0))
theorem MemR.below {O L:Nat}{X:List Nat}{jo jn:Jn}{W0:World}{b:Bool}{w w':World}(h:MemR O L X jo jn W0 b w)(hb:Below w.heap.size w w'):MemR O L X jo jn W0 b w':=
 ⟨h.but.trans (Y:=[]) (ButL.of_below hb) h.but.size (by simp),fun e=>(h.old e).below hb,fun e=>(h.new e).below hb,zad hb (Array.getElem?_eq_some_iff.1 h.box).1 h.box⟩
structure MemI (V W:World)(R:Nat)(C8 C9:Obj)(pa qa ma mb mr:Option Addr)(n1 n2 n3 n4 n5:Nat):Prop where
 bel:Below V.heap.size V W
 b8:W.heap[R]?=some C8
 b9:W.heap[R+1]?=some C9
 r1:SRow W pa n1 1 0 V.heap.size R
 r2:SRow W qa n2 2 1 V.heap.size R
 r3:SRow W ma n3 2 1 V.heap.size R
 r4:SRow W mb n4 2 1 V.heap.size R
 r5:IRow W mr n5 1 0 V.heap.size R
section
variable {V W:World} {R:Nat} {C8 C9:Obj} {pa qa ma mb mr:Option Addr} {n1 n2 n3 n4 n5 g o:Nat}
theorem MemI.str (h:MemI V W R C8 C9 pa qa ma mb mr n1 n2 n3 n4 n5)(u:ByteArray){v:ByteArray}(h1:V.heap.size≤g)(h2:g<R)(hv:W.cell? ⟨g,o,none⟩=some (.string v)):MemI V (W.setCell ⟨g,o,none⟩ (.string u)) R C8 C9 pa qa ma mb mr n1 n2 n3 n4 n5:=
 ⟨h.bel.setCell (by simpa using h1) _,(Below.heap_setCell _ _ _ _ (by show R≠g;omega)).trans h.b8,(Below.heap_setCell _ _ _ _ (by show R+1≠g;omega)).trans h.b9,h.r1.own,h.r2.own,h.r3.own,h.r4.own,h.r5.other hv⟩
theorem MemI.int (h:MemI V W R C8 C9 pa qa ma mb mr n1 n2 n3 n4 n5)(u:Int){v:Int}(h1:V.heap.size≤g)(h2:g<R)(hv:W.cell? ⟨g,o,none⟩=some (.int .i64 v)):MemI V (W.setCell ⟨g,o,none⟩ (.int .i64 u)) R C8 C9 pa qa ma mb mr n1 n2 n3 n4 n5:=
 ⟨h.bel.setCell (by simpa using h1) _,(Below.heap_setCell _ _ _ _ (by show R≠g;omega)).trans h.b8,(Below.heap_setCell _ _ _ _ (by show R+1≠g;omega)).trans h.b9,h.r1.other hv,h.r2.other hv,h.r3.other hv,h.r4.other hv,h.r5.own⟩
end
def zd6 (B:Nat)(O:Nat)(x:Ac)(r:Rp):Nat→Value→World→Prop
 |0,v,_=>v=.pointer (some ⟨O,0,none⟩)
 |1,v,_=>v=.agg #[.int .i64 x.kind,.int .i64 x.h,.int .i64 x.b,.int .i64 x.n,.string x.text]
 |2,v,_=>v=.agg #[.int .i64 r.code,.int .i64 r.n,.string r.text]
 |3,v,_=>v=.agg #[.int .i64 r.code,.int .i64 r.n,.string r.text]
 |4,v,_=>v=.bool false
 |5,v,_=>v=.bool false
 |6,v,_=>v=.pointer (some ⟨B,0,none⟩)
 |7,v,_=>v=.pointer (some ⟨O,0,none⟩)
 |8,v,_=>v=.bool true
 |9,v,_=>v=.bool false
 |10,v,_=>v=.bool false
 |_,_,_=>True
theorem zrq {B:Nat}{O:Nat}{x:Ac}{r:Rp}{w w':World}(_hb:Below w.heap.size w w'){i:Nat}:∀kk uu,kk≠i→zd6 B O x r kk uu w→zd6 B O x r kk uu w':=by
 intro kk uu _ h
 match kk,h with
 |0,h|1,h|2,h|3,h|4,h|5,h|6,h|7,h|8,h|9,h|10,h=>exact h
 |_+11,_=>exact trivial
theorem zxc {B:Nat}{O:Nat}{x:Ac}{r:Rp}{w w':World}:∀kk uu,kk≠2→zd6 B O x r kk uu w→zd6 B O x r kk uu w':=by
 intro kk uu _ h
 match kk,h with
 |0,h|1,h|2,h|3,h|4,h|5,h|6,h|7,h|8,h|9,h|10,h=>exact h
 |_+11,_=>exact trivial
theorem ztz (B O L:Nat)(X:List Nat)(j jo:Jn)(x:Ac)(r:Rp)(w:World)(hJ:JAt w B X j)(hO:JAt w O X jo)(hL:w.heap[L]?=some (.cells #[.pointer (some ⟨O,0,none⟩)] 24 (0,0)))(hX:∀y∈X,y<w.heap.size)(hBO:B≠O)(hLO:L≠O)(hPO:PJ jo)(hPJ:PJ j)(hdo:doJ jo x=(j,r))(hok:OkA x):
  Calls Tryz.prog 42 #[.pointer (some ⟨B,0,none⟩),.agg #[.int .i64 x.kind,.int .i64 x.h,.int .i64 x.b,.int .i64 x.n,.string x.text],.agg #[.int .i64 r.code,.int .i64 r.n,.string r.text],.pointer (some ⟨L,0,none⟩)] w fun e w'=>e=.returned (.bool true)∧JAt w' B X j∧JAt w' O X j∧ButL [O] w.heap.size w w':=by
 have hl3:L<w.heap.size:=(Array.getElem?_eq_some_iff.1 hL).1;have hOl:O<w.heap.size:=hO.lt;have HOX:O∈X:=hO.1;have HJ:=zaa hJ;have HO:=zaa hO;have HL:=zaa hL;have HX:=zaa hX;have HPO:=zaa hPO.ready;have HPJ:=zaa hPJ;have HDO:=zaa hdo;have HOK:=zaa hok;clear hJ hO hL hX hPO hPJ hdo hok;obtain⟨W0,hW0⟩:∃W0,W0=(w.alloc (.cells #[.int .i64 x.kind,.int .i64 x.h,.int .i64 x.b,.int .i64 x.n,.string x.text] 23)).alloc (.cells #[.int .i64 r.code,.int .i64 r.n,.string r.text] 31):=⟨_,rfl⟩;have HB0:Hid (Below w.heap.size w W0):=by rw[hW0];exact zae (zab _ _) (zab _ _)
 have hz1:(w.alloc (.cells #[.int .i64 x.kind,.int .i64 x.h,.int .i64 x.b,.int .i64 x.n,.string x.text] 23)).heap.size=w.heap.size+1:=by simp
 have KA:W0.heap[w.heap.size]?=some (.cells #[.int .i64 x.kind,.int .i64 x.h,.int .i64 x.b,.int .i64 x.n,.string x.text] 23 (0,0)):=by rw[hW0];exact zad (zab _ _) (by omega) (heap_alloc_new _ _)
 have KR:W0.heap[w.heap.size+1]?=some (.cells #[.int .i64 r.code,.int .i64 r.n,.string r.text] 31 (0,0)):=by rw[hW0,←hz1];exact heap_alloc_new _ _
 have hs0:W0.heap.size=w.heap.size+2:=by rw[hW0];simp
 obtain⟨⟨z0,z1,z2,z3,z4⟩,_⟩:=zie KA;obtain⟨⟨y0,y1,y2⟩,_⟩:=zbj KR;have CA0:=zaa z0;have CA1:=zaa z1;have CA2:=zaa z2;have CA3:=zaa z3;have CA4:=zaa z4;have CR0:=zaa y0;have CR1:=zaa y1;have CR2:=zaa y2;clear KA KR z0 z1 z2 z3 z4 y0 y1 y2;have KL0:=zaa (zad HB0.o hl3 HL.o);have HO0:=zaa (HO.o.below HB0.o);have HJB:=zaa (HJ.o.below HB0.o);have HXW:Hid (∀y∈X,y<W0.heap.size):=fun y hy=>by have:=HX.o y hy;omega
 have hPW:w.heap.size<W0.heap.size:=by omega
 have hQW:w.heap.size+1<W0.heap.size:=by omega
 have hLW:L<W0.heap.size:=by omega
 have hPO:w.heap.size∉[O]:=by simp;omega
 have hQO:w.heap.size+1∉[O]:=by simp;omega
 have HW0:=zaa hW0;clear hW0 hz1;go_enter Tryz.func42,Tryz.ntmps42;go_wp2_with fail;rw[←HW0.o];clear HW0;rename_i KK hKK
 have TAIL:∀(g:Nat→Value) (V:World),JAt V O X j→ButL [O] W0.heap.size W0 V→KK ⟨#[.pointer (some ⟨B,0,none⟩),g 1,g 2,g 3,g 4,g 5,g 6,g 7,g 8,g 9,g 10,g 11,g 12,g 13,g 14,g 15,g 16,g 17,g 18,g 19,g 20,g 21,g 22,g 23,g 24,.bool false,g 26,g 27,g 28,g 29,g 30,g 31,g 32,g 33,g 34,g 35,g 36,g 37,g 38,g 39,g 40,g 41,g 42,g 43,g 44,g 45,g 46,g 47,g 48,g 49,g 50,g 51,g 52,g 53,g 54,g 55,g 56,g 57,g 58,g 59,g 60,g 61,g 62,g 63,g 64,g 65,g 66,g 67,g 68,g 69,g 70,g 71,g 72,g 73,g 74,g 75,g 76,g 77,g 78,g 79,g 80,g 81,g 82,g 83,g 84,g 85,g 86,g 87],[]⟩ V:=by
  intro g V hVO hVb;apply hKK;clear hKK;have HVJ:=zaa (HJB.o.but hVb (by simpa using HOX) (by simpa using hBO));have HVO:=zaa hVO;have HVB:Hid (ButL [O] w.heap.size w V):=(ButL.of_below HB0.o).trans hVb (by omega) (by simp);have HRE:=zaa HPJ.o.reach;clear hVO hVb;go_wp2_with fail;refine(zro B X j V HVJ.o HRE.o.2.1 HRE.o.2.2).mono ?_;rintro e w1 ⟨pa,pc,qa,qc,rfl,o1,o2,hb1⟩;have HO1:=zaa (z4u o1);have HO2:=zaa (z4v o2);have HB1:=zaa hb1;clear o1 o2 hb1;go_wp2_with fail;refine(zkd B X j w1 (HVJ.o.below HB1.o) HRE.o.1).mono ?_;rintro e w2 ⟨ma,mc,mb,md,mr,mf,rfl,o3,o4,o5,hb2⟩;have hs1:=HB1.o.size;have hs2:=hb2.size
  have HI0:Hid (∀W,W=(w2.alloc (.cells #[.slice pa j.disk.safe.length pc,.slice qa j.disk.wr.length qc] 46)).alloc (.cells #[.int .i64 j.now.seq,.slice ma j.now.info.length mc,.slice mb j.now.data.length md,.slice mr j.now.rev.length mf,.bool j.now.h0.on,.int .i64 j.now.h0.left,.bool j.now.h1.on,.int .i64 j.now.h1.left,.bool j.now.h2.on,.int .i64 j.now.h2.left] 40)→MemI V W w2.heap.size (.cells #[.slice pa j.disk.safe.length pc,.slice qa j.disk.wr.length qc] 46 (0,0)) (.cells #[.int .i64 j.now.seq,.slice ma j.now.info.length mc,.slice mb j.now.data.length md,.slice mr j.now.rev.length mf,.bool j.now.h0.on,.int .i64 j.now.h0.left,.bool j.now.h1.on,.int .i64 j.now.h1.left,.bool j.now.h2.on,.int .i64 j.now.h2.left] 40 (0,0)) pa qa ma mb mr j.disk.safe.length j.disk.wr.length j.now.info.length j.now.data.length j.now.rev.length):=by
   intro W hW;have hb3:Below w2.heap.size w2 W:=by rw[hW];exact zae (zab _ _) (zab _ _)
   have hz2:(w2.alloc (.cells #[.slice pa j.disk.safe.length pc,.slice qa j.disk.wr.length qc] 46)).heap.size=w2.heap.size+1:=by simp
   refine⟨zae (zae HB1.o hb2) hb3,?_,?_,?_,?_,?_,?_,?_⟩
   ·rw[hW];exact zad (zab _ _) (by omega) (heap_alloc_new _ _)
   ·rw[hW,←hz2];exact heap_alloc_new _ _
   ·exact((HO1.o.below (Nat.le_refl _) hb2).wider (Nat.le_refl _) hs2).below (Nat.le_refl _) hb3
   ·exact((HO2.o.below (Nat.le_refl _) hb2).wider (Nat.le_refl _) hs2).below (Nat.le_refl _) hb3
   ·exact((z2x o3).wider hs1 (Nat.le_refl _)).below (Nat.le_refl _) hb3
   ·exact((z2x o4).wider hs1 (Nat.le_refl _)).below (Nat.le_refl _) hb3
   ·exact((z4w o5).wider hs1 (Nat.le_refl _)).below (Nat.le_refl _) hb3
  have HFIN:Hid (∀W,MemI V W w2.heap.size (.cells #[.slice pa j.disk.safe.length pc,.slice qa j.disk.wr.length qc] 46 (0,0)) (.cells #[.int .i64 j.now.seq,.slice ma j.now.info.length mc,.slice mb j.now.data.length md,.slice mr j.now.rev.length mf,.bool j.now.h0.on,.int .i64 j.now.h0.left,.bool j.now.h1.on,.int .i64 j.now.h1.left,.bool j.now.h2.on,.int .i64 j.now.h2.left] 40 (0,0)) pa qa ma mb mr j.disk.safe.length j.disk.wr.length j.now.info.length j.now.data.length j.now.rev.length→JAt W B X j∧JAt W O X j∧ButL [O] w.heap.size w W):=by
   intro W hW;exact⟨HVJ.o.below hW.bel,HVO.o.below hW.bel,HVB.o.trans (Y:=[]) (ButL.of_below hW.bel) HVB.o.size (by simp)⟩
  have HI:=zaa (HI0.o _ rfl);obtain⟨⟨q3,q4,q5⟩,q1,q2⟩:=HRE.o;have q1:j.disk.safe.length≤140737488355328:=by omega
  have q2:j.disk.wr.length≤140737488355328:=by omega
  have q3:j.now.info.length≤140737488355328:=by omega
  have q4:j.now.data.length≤140737488355328:=by omega
  have q5:j.now.rev.length≤140737488355328:=by omega
  clear o3 o4 o5 hb2 HO1 HO2 HB1 HI0 HVJ HVO HVB HRE HJB HO0 KL0 HXW HJ HO HL HX HPO HPJ HDO HOK HB0 CA0 CA1 CA2 CA3 CA4 CR0 CR1 CR2;obtain⟨⟨c0,c1⟩,_⟩:=zfl HI.o.b8;go_wp2_with fail;clear c0 c1
  go_loopw [33] (fun i W=>∃k:Nat,k≤j.disk.safe.length∧i=.int .i64 k∧Hid (MemI V W w2.heap.size (.cells #[.slice pa j.disk.safe.length pc,.slice qa j.disk.wr.length qc] 46 (0,0)) (.cells #[.int .i64 j.now.seq,.slice ma j.now.info.length mc,.slice mb j.now.data.length md,.slice mr j.now.rev.length mf,.bool j.now.h0.on,.int .i64 j.now.h0.left,.bool j.now.h1.on,.int .i64 j.now.h1.left,.bool j.now.h2.on,.int .i64 j.now.h2.left] 40 (0,0)) pa qa ma mb mr j.disk.safe.length j.disk.wr.length j.now.info.length j.now.data.length j.now.rev.length)) (fun i _=>j.disk.safe.length - (intOf i).toNat)
  case atStart=>exact⟨0,Nat.zero_le _,by go_num,HI⟩
  case round=>
   obtain⟨k,hk,rfl,HI⟩:=hrel;by_cases hkn:k<j.disk.safe.length
   ·have hkn':(k:Int)<(j.disk.safe.length:Int):=by omega
    have hk0:(0:Int)≤(k:Int):=by omega
    obtain⟨g,hg,hg1,hg2,hg3⟩:=HI.o.r1.resolve_left (by omega);obtain⟨⟨s,hs⟩,hf⟩:=hg3 k hkn;have HN:=zaa (HI.o.str (⟨#[115,112,111,105,108,116]⟩) hg1 hg2 hs);subst hg;obtain⟨⟨c0,c1⟩,_⟩:=zfl HI.o.b8;rw[show k*1+0=k by omega] at hs hf HN;clear hg3 HI;go_wp2
    go_roundw
    case rel=>exact⟨k+1,by omega,by go_num,HN⟩
    case measure=>first|(simp[intOf];omega)|simp[intOf]
   ·have hkn':¬(k:Int)<(j.disk.safe.length:Int):=by omega
    have e:k=j.disk.safe.length:=by omega
    clear hkn;obtain⟨⟨c0,c1⟩,_⟩:=zfl HI.o.b8;go_wp2_with fail;clear c0 c1
    go_loopw [44] (fun i W=>∃k:Nat,k≤j.disk.wr.length∧i=.int .i64 k∧Hid (MemI V W w2.heap.size (.cells #[.slice pa j.disk.safe.length pc,.slice qa j.disk.wr.length qc] 46 (0,0)) (.cells #[.int .i64 j.now.seq,.slice ma j.now.info.length mc,.slice mb j.now.data.length md,.slice mr j.now.rev.length mf,.bool j.now.h0.on,.int .i64 j.now.h0.left,.bool j.now.h1.on,.int .i64 j.now.h1.left,.bool j.now.h2.on,.int .i64 j.now.h2.left] 40 (0,0)) pa qa ma mb mr j.disk.safe.length j.disk.wr.length j.now.info.length j.now.data.length j.now.rev.length)) (fun i _=>j.disk.wr.length - (intOf i).toNat)
    case atStart=>exact⟨0,Nat.zero_le _,by go_num,HI⟩
    case round=>
     obtain⟨k,hk,rfl,HI⟩:=hrel;by_cases hkn:k<j.disk.wr.length
     ·have hkn':(k:Int)<(j.disk.wr.length:Int):=by omega
      have hk0:(0:Int)≤(k:Int):=by omega
      obtain⟨g,hg,hg1,hg2,hg3⟩:=HI.o.r2.resolve_left (by omega);obtain⟨⟨s,hs⟩,hf⟩:=hg3 k hkn;have HN:=zaa (HI.o.str (⟨#[115,112,111,105,108,116]⟩) hg1 hg2 hs);subst hg;obtain⟨⟨c0,c1⟩,_⟩:=zfl HI.o.b8;skip;clear hg3 HI;go_wp2
      go_roundw
      case rel=>exact⟨k+1,by omega,by go_num,HN⟩
      case measure=>first|(simp[intOf];omega)|simp[intOf]
     ·have hkn':¬(k:Int)<(j.disk.wr.length:Int):=by omega
      have e:k=j.disk.wr.length:=by omega
      clear hkn;obtain⟨⟨c0,c1,c2,c3,c4,c5,c6,c7,c8,c9⟩,_⟩:=zai HI.o.b9;go_wp2_with fail;clear c0 c1 c2 c3 c4 c5 c6 c7 c8 c9
      go_loopw [56] (fun i W=>∃k:Nat,k≤j.now.info.length∧i=.int .i64 k∧Hid (MemI V W w2.heap.size (.cells #[.slice pa j.disk.safe.length pc,.slice qa j.disk.wr.length qc] 46 (0,0)) (.cells #[.int .i64 j.now.seq,.slice ma j.now.info.length mc,.slice mb j.now.data.length md,.slice mr j.now.rev.length mf,.bool j.now.h0.on,.int .i64 j.now.h0.left,.bool j.now.h1.on,.int .i64 j.now.h1.left,.bool j.now.h2.on,.int .i64 j.now.h2.left] 40 (0,0)) pa qa ma mb mr j.disk.safe.length j.disk.wr.length j.now.info.length j.now.data.length j.now.rev.length)) (fun i _=>j.now.info.length - (intOf i).toNat)
      case atStart=>exact⟨0,Nat.zero_le _,by go_num,HI⟩
      case round=>
       obtain⟨k,hk,rfl,HI⟩:=hrel;by_cases hkn:k<j.now.info.length
       ·have hkn':(k:Int)<(j.now.info.length:Int):=by omega
        have hk0:(0:Int)≤(k:Int):=by omega
        obtain⟨g,hg,hg1,hg2,hg3⟩:=HI.o.r3.resolve_left (by omega);obtain⟨⟨s,hs⟩,hf⟩:=hg3 k hkn;have HN:=zaa (HI.o.str (⟨#[115,112,111,105,108,116]⟩) hg1 hg2 hs);subst hg;obtain⟨⟨c0,c1,c2,c3,c4,c5,c6,c7,c8,c9⟩,_⟩:=zai HI.o.b9;skip;clear hg3 HI;go_wp2
        go_roundw
        case rel=>exact⟨k+1,by omega,by go_num,HN⟩
        case measure=>first|(simp[intOf];omega)|simp[intOf]
       ·have hkn':¬(k:Int)<(j.now.info.length:Int):=by omega
        have e:k=j.now.info.length:=by omega
        clear hkn;obtain⟨⟨c0,c1,c2,c3,c4,c5,c6,c7,c8,c9⟩,_⟩:=zai HI.o.b9;go_wp2_with fail;clear c0 c1 c2 c3 c4 c5 c6 c7 c8 c9
        go_loopw [68] (fun i W=>∃k:Nat,k≤j.now.data.length∧i=.int .i64 k∧Hid (MemI V W w2.heap.size (.cells #[.slice pa j.disk.safe.length pc,.slice qa j.disk.wr.length qc] 46 (0,0)) (.cells #[.int .i64 j.now.seq,.slice ma j.now.info.length mc,.slice mb j.now.data.length md,.slice mr j.now.rev.length mf,.bool j.now.h0.on,.int .i64 j.now.h0.left,.bool j.now.h1.on,.int .i64 j.now.h1.left,.bool j.now.h2.on,.int .i64 j.now.h2.left] 40 (0,0)) pa qa ma mb mr j.disk.safe.length j.disk.wr.length j.now.info.length j.now.data.length j.now.rev.length)) (fun i _=>j.now.data.length - (intOf i).toNat)
        case atStart=>exact⟨0,Nat.zero_le _,by go_num,HI⟩
        case round=>
         obtain⟨k,hk,rfl,HI⟩:=hrel;by_cases hkn:k<j.now.data.length
         ·have hkn':(k:Int)<(j.now.data.length:Int):=by omega
          have hk0:(0:Int)≤(k:Int):=by omega
          obtain⟨g,hg,hg1,hg2,hg3⟩:=HI.o.r4.resolve_left (by omega);obtain⟨⟨s,hs⟩,hf⟩:=hg3 k hkn;have HN:=zaa (HI.o.str (⟨#[115,112,111,105,108,116]⟩) hg1 hg2 hs);subst hg;obtain⟨⟨c0,c1,c2,c3,c4,c5,c6,c7,c8,c9⟩,_⟩:=zai HI.o.b9;skip;clear hg3 HI;go_wp2
          go_roundw
          case rel=>exact⟨k+1,by omega,by go_num,HN⟩
          case measure=>first|(simp[intOf];omega)|simp[intOf]
         ·have hkn':¬(k:Int)<(j.now.data.length:Int):=by omega
          have e:k=j.now.data.length:=by omega
          clear hkn;obtain⟨⟨c0,c1,c2,c3,c4,c5,c6,c7,c8,c9⟩,_⟩:=zai HI.o.b9;go_wp2_with fail;clear c0 c1 c2 c3 c4 c5 c6 c7 c8 c9
          go_loopw [80] (fun i W=>∃k:Nat,k≤j.now.rev.length∧i=.int .i64 k∧Hid (MemI V W w2.heap.size (.cells #[.slice pa j.disk.safe.length pc,.slice qa j.disk.wr.length qc] 46 (0,0)) (.cells #[.int .i64 j.now.seq,.slice ma j.now.info.length mc,.slice mb j.now.data.length md,.slice mr j.now.rev.length mf,.bool j.now.h0.on,.int .i64 j.now.h0.left,.bool j.now.h1.on,.int .i64 j.now.h1.left,.bool j.now.h2.on,.int .i64 j.now.h2.left] 40 (0,0)) pa qa ma mb mr j.disk.safe.length j.disk.wr.length j.now.info.length j.now.data.length j.now.rev.length)) (fun i _=>j.now.rev.length - (intOf i).toNat)
          case atStart=>exact⟨0,Nat.zero_le _,by go_num,HI⟩
          case round=>
           obtain⟨k,hk,rfl,HI⟩:=hrel;by_cases hkn:k<j.now.rev.length
           ·have hkn':(k:Int)<(j.now.rev.length:Int):=by omega
            have hk0:(0:Int)≤(k:Int):=by omega
            obtain⟨g,hg,hg1,hg2,hg3⟩:=HI.o.r5.resolve_left (by omega);obtain⟨⟨s,hs⟩,hf⟩:=hg3 k hkn;have HN:=zaa (HI.o.int (-1) hg1 hg2 hs);subst hg;obtain⟨⟨c0,c1,c2,c3,c4,c5,c6,c7,c8,c9⟩,_⟩:=zai HI.o.b9;rw[show k*1+0=k by omega] at hs hf HN;clear hg3 HI;go_wp2
            go_roundw
            case rel=>exact⟨k+1,by omega,by go_num,HN⟩
            case measure=>first|(simp[intOf];omega)|simp[intOf]
           ·have hkn':¬(k:Int)<(j.now.rev.length:Int):=by omega
            have e:k=j.now.rev.length:=by omega
            clear hkn;go_wp2;go_ret;exact⟨rfl,HFIN.o _ HI.o⟩
 have HTAIL:=zaa TAIL;clear TAIL hKK;refine(show∀A0:Act,A0=_→Code.wp Tryz.prog _ _ A0 _ from fun A0 hA0=>?_) _ rfl;have hsz:A0.tmps.size=88:=by rw[hA0];rfl
 have hdf:A0.defers=[]:=by rw[hA0]
 have v0:A0.eval (.tmp 0)=.pointer (some ⟨B,0,none⟩):=by rw[hA0];rfl
 have v3:A0.eval (.tmp 3)=.pointer (some ⟨L,0,none⟩):=by rw[hA0];rfl
 have v5:A0.eval (.tmp 5)=.pointer (some ⟨w.heap.size,0,none⟩):=by rw[hA0];rfl
 have v6:A0.eval (.tmp 6)=.pointer (some ⟨w.heap.size+1,0,none⟩):=by rw[hA0];rfl
 clear hA0;refine zmo 2 (by decide) (MemR O L X jo j W0) [15,16,17,18,19,20,21,22,23,24,25] (zd6 B O x r) (by kernel_rfl) (by kernel_rfl) (by kernel_rfl) ⟨(ButL.refl _ _ _).drew,fun _=>HO0.o.drew,(fun h=>by cases h),KL0.o⟩ ⟨?_,?_,?_,?_,?_,?_,?_,?_,?_,?_,?_,trivial⟩ ?_
 ·intro b a w' hb hbt hF hR hp
  have z3:=(hF.other 3 rfl).trans v3;have c0:w'.cell? ⟨L,0,none⟩=some (.pointer (some ⟨O,0,none⟩)):=z2y hR.box;refine zax (.pointer (some ⟨O,0,none⟩)) rfl rfl (by revert z3;generalize a.eval=ρ;intro z3;simp only[execOp];go_simp) ⟨_,rfl,(by simpa using hR),?_,fun _ _ _ h=>h⟩;show zd6 _ _ _ _ _ ((a.put (some 15) _).eval (.tmp 15)) w';rw[zap hF hsz (by decide)];exact rfl
 ·intro b a w' hb hbt hF hR hp
  have z5:=(hF.other 5 rfl).trans v5;have c0:w'.cell? ⟨w.heap.size,0,none⟩=some (.int .i64 x.kind):=hR.but.cell hPW hPO CA0.o;have c1:w'.cell? ⟨w.heap.size,1,none⟩=some (.int .i64 x.h):=hR.but.cell hPW hPO CA1.o;have c2:w'.cell? ⟨w.heap.size,2,none⟩=some (.int .i64 x.b):=hR.but.cell hPW hPO CA2.o;have c3:w'.cell? ⟨w.heap.size,3,none⟩=some (.int .i64 x.n):=hR.but.cell hPW hPO CA3.o;have c4:w'.cell? ⟨w.heap.size,4,none⟩=some (.string x.text):=hR.but.cell hPW hPO CA4.o;refine zax (.agg #[.int .i64 x.kind,.int .i64 x.h,.int .i64 x.b,.int .i64 x.n,.string x.text]) rfl rfl (by revert z5;generalize a.eval=ρ;intro z5;simp only[execOp];go_simp) ⟨_,rfl,(by simpa using hR),?_,fun _ _ _ h=>h⟩;show zd6 _ _ _ _ _ ((a.put (some 16) _).eval (.tmp 16)) w';rw[zap hF hsz (by decide)];exact rfl
 ·intro b a w' hb hbt hF hR hp
  have p15:a.eval (.tmp 15)=.pointer (some ⟨O,0,none⟩):=hp ⟨0,.data⟩ (by simp) rfl;have p16:a.eval (.tmp 16)=.agg #[.int .i64 x.kind,.int .i64 x.h,.int .i64 x.b,.int .i64 x.n,.string x.text]:=hp ⟨1,.data⟩ (by simp) rfl;have hbf:b=false:=hb rfl;subst hbf;refine zbu 15 #[.pointer (some ⟨O,0,none⟩),.agg #[.int .i64 x.kind,.int .i64 x.h,.int .i64 x.b,.int .i64 x.n,.string x.text]] rfl rfl (by have pf:=Act.eval_func a 15;revert p15 p16 pf;generalize a.eval=ρ;intro p15 p16 pf;simp only[execOp];go_simp) _ (zjs O X jo w' (hR.old rfl) (fun y hy=>Nat.lt_of_lt_of_le (HXW.o y hy) hR.but.size) HPO.o x HOK.o.n HOK.o.text) ?_;rintro e w2 ⟨rfl,hJ2,hB2⟩;rw[HDO.o] at hJ2⊢;refine⟨_,rfl,_,rfl,⟨hR.but.trans hB2 hR.but.size (by simp),(fun h=>by cases h),(fun _=>hJ2),(hB2.block L (Nat.lt_of_lt_of_le hLW hR.but.size) (by simpa using hLO)).trans hR.box⟩,?_,zxc⟩;show zd6 _ _ _ _ _ ((a.put (some 17) _).eval (.tmp 17)) w2;rw[zap hF hsz (by decide)];exact rfl
 ·intro b a w' hb hbt hF hR hp
  have z6:=(hF.other 6 rfl).trans v6;have c0:w'.cell? ⟨w.heap.size+1,0,none⟩=some (.int .i64 r.code):=hR.but.cell hQW hQO CR0.o;have c1:w'.cell? ⟨w.heap.size+1,1,none⟩=some (.int .i64 r.n):=hR.but.cell hQW hQO CR1.o;have c2:w'.cell? ⟨w.heap.size+1,2,none⟩=some (.string r.text):=hR.but.cell hQW hQO CR2.o;refine zax (.agg #[.int .i64 r.code,.int .i64 r.n,.string r.text]) rfl rfl (by revert z6;generalize a.eval=ρ;intro z6;simp only[execOp];go_simp) ⟨_,rfl,(by simpa using hR),?_,fun _ _ _ h=>h⟩;show zd6 _ _ _ _ _ ((a.put (some 18) _).eval (.tmp 18)) w';rw[zap hF hsz (by decide)];exact rfl
 ·intro b a w' hb hbt hF hR hp
  have p17:a.eval (.tmp 17)=.agg #[.int .i64 r.code,.int .i64 r.n,.string r.text]:=hp ⟨2,.data⟩ (by simp) rfl;have p18:a.eval (.tmp 18)=.agg #[.int .i64 r.code,.int .i64 r.n,.string r.text]:=hp ⟨3,.data⟩ (by simp) rfl;refine zax (.bool false) rfl rfl (by revert p17 p18;generalize a.eval=ρ;intro p17 p18;simp only[execOp];go_simp) ⟨_,rfl,(by simpa using hR),?_,fun _ _ _ h=>h⟩;show zd6 _ _ _ _ _ ((a.put (some 19) _).eval (.tmp 19)) w';rw[zap hF hsz (by decide)];exact rfl
 ·intro b a w' hb hbt hF hR hp
  have p19:a.eval (.tmp 19)=.bool false:=hp ⟨4,.data⟩ (by simp) rfl;refine zax (.bool false) rfl rfl (by revert p19;generalize a.eval=ρ;intro p19;simp only[execOp];go_simp) ⟨_,rfl,(by simpa using hR),?_,fun _ _ _ h=>h⟩;show zd6 _ _ _ _ _ ((a.put (some 20) _).eval (.tmp 20)) w';rw[zap hF hsz (by decide)];exact rfl
 ·intro b a w' hb hbt hF hR hp
  have pg:a.eval (.tmp 20)=.bool false:=hp ⟨5,Ground.guard⟩ (by simp) rfl;have z0:=(hF.other 0 rfl).trans v0;refine zfx (.pointer (some ⟨B,0,none⟩)) rfl (zbn (b:=false) rfl rfl pg) (by revert z0;generalize a.eval=ρ;intro z0;simp only[execOp];go_simp) ⟨_,rfl,(by simpa using hR),?_,fun _ _ _ h=>h⟩;show zd6 _ _ _ _ _ ((a.put (some 21) _).eval (.tmp 21)) w';rw[zap hF hsz (by decide)];exact rfl
 ·intro b a w' hb hbt hF hR hp
  have pg:a.eval (.tmp 20)=.bool false:=hp ⟨5,Ground.guard⟩ (by simp) rfl;have z3:=(hF.other 3 rfl).trans v3;have c0:w'.cell? ⟨L,0,none⟩=some (.pointer (some ⟨O,0,none⟩)):=z2y hR.box;refine zfx (.pointer (some ⟨O,0,none⟩)) rfl (zbn (b:=false) rfl rfl pg) (by revert z3;generalize a.eval=ρ;intro z3;simp only[execOp];go_simp) ⟨_,rfl,(by simpa using hR),?_,fun _ _ _ h=>h⟩;show zd6 _ _ _ _ _ ((a.put (some 22) _).eval (.tmp 22)) w';rw[zap hF hsz (by decide)];exact rfl
 ·intro b a w' hb hbt hF hR hp
  have pg:a.eval (.tmp 20)=.bool false:=hp ⟨5,Ground.guard⟩ (by simp) rfl;have p21:a.eval (.tmp 21)=.pointer (some ⟨B,0,none⟩):=hp ⟨6,.data⟩ (by simp) rfl;have p22:a.eval (.tmp 22)=.pointer (some ⟨O,0,none⟩):=hp ⟨7,.data⟩ (by simp) rfl;have hO2:=hR.new (hbt (by kernel_rfl));refine zno 38 #[.pointer (some ⟨B,0,none⟩),.pointer (some ⟨O,0,none⟩)] rfl (zbn (b:=false) rfl rfl pg) (by have pf:=Act.eval_func a 38;revert p21 p22 pf;generalize a.eval=ρ;intro p21 p22 pf;simp only[execOp];go_simp) _ (z2h B X O X j j w' (HJB.o.but hR.but (by simpa using HOX) (by simpa using hBO)) hO2 HPJ.o HPJ.o rfl rfl rfl rfl rfl rfl) ?_;rintro e w2 ⟨rfl,hb2⟩;refine⟨_,rfl,_,rfl,(by simpa using hR.below hb2),?_,zrq hb2⟩;show zd6 _ _ _ _ _ ((a.put (some 23) _).eval (.tmp 23)) w2;rw[zap hF hsz (by decide)];exact rfl
 ·intro b a w' hb hbt hF hR hp
  have pg:a.eval (.tmp 20)=.bool false:=hp ⟨5,Ground.guard⟩ (by simp) rfl;have p23:a.eval (.tmp 23)=.bool true:=hp ⟨8,.data⟩ (by simp) rfl;refine zfx (.bool false) rfl (zbn (b:=false) rfl rfl pg) (by revert p23;generalize a.eval=ρ;intro p23;simp only[execOp];go_simp) ⟨_,rfl,(by simpa using hR),?_,fun _ _ _ h=>h⟩;show zd6 _ _ _ _ _ ((a.put (some 24) _).eval (.tmp 24)) w';rw[zap hF hsz (by decide)];exact rfl
 ·intro b a w' hb hbt hF hR hp
  have p20:a.eval (.tmp 20)=.bool false:=hp ⟨5,.data⟩ (by simp) rfl;have p24:a.eval (.tmp 24)=.bool false:=hp ⟨9,.data⟩ (by simp) rfl;refine zax (.bool false) rfl rfl (by revert p20 p24;generalize a.eval=ρ;intro p20 p24;simp only[execOp];go_simp) ⟨_,rfl,(by simpa using hR),?_,fun _ _ _ h=>h⟩;show zd6 _ _ _ _ _ ((a.put (some 25) _).eval (.tmp 25)) w';rw[zap hF hsz (by decide)];exact rfl
 ·intro aa W hF hR hp
  have p25:aa.eval (.tmp 25)=.bool false:=hp 10 (by decide);have hJ2:=hR.new rfl;have f0:aa.eval (.tmp 0)=.pointer (some ⟨B,0,none⟩):=(hF.other 0 rfl).trans v0;have hsa:aa.tmps.size=88:=hF.size.trans hsz;have hlit:aa=⟨#[_,_,_,_,_,_,_,_,_,_,_,_,_,_,_,_,_,_,_,_,_,_,_,_,_,_,_,_,_,_,_,_,_,_,_,_,_,_,_,_,_,_,_,_,_,_,_,_,_,_,_,_,_,_,_,_,_,_,_,_,_,_,_,_,_,_,_,_,_,_,_,_,_,_,_,_,_,_,_,_,_,_,_,_,_,_,_,_],[]⟩:=zcj aa 88 hsa (hF.defers.trans hdf);dsimp only at hlit;rw[p25,f0] at hlit;show KK aa W;exact(congrArg (fun y=>KK y _) hlit).mpr (HTAIL.o (fun k=>aa.eval (.tmp k)) W hJ2 hR.but)
theorem zmp (L:Nat)(o:Oper)(ρ:Operand→Value)(w:World)(x y z:Value)(ts:Array TypeId)(ho:o.op=Op.call {callee:=.value (.tmp 28),args:=#[.tmp 29,.tmp 33,.tmp 34],argTypes:=ts})(h1:ρ (.tmp 28)=.func (.func 42) #[] #[.pointer (some ⟨L,0,none⟩)])(h2:ρ (.tmp 29)=x)(h3:ρ (.tmp 33)=y)(h4:ρ (.tmp 34)=z):
  (execOp ρ o).run Tryz.prog w=.ok (.enter 42 #[x,y,z,.pointer (some ⟨L,0,none⟩)]) w:=by
 simp only[execOp,ho]
 go_simp
theorem z2i (a:Option Addr)(c:Nat)(l:List Ac)(w:World)(hA:SegA w a l)(hlen:l.length≤maxLen)(hok:∀y∈l,OkA y):
  Calls Tryz.prog 13 #[.slice a l.length c] w fun e w'=>e=.returned (.bool true)∧Below w.heap.size w w':=by
 have HA:=zaa hA;have HOK:=zaa hok;have HL:=zaa hlen;clear hA hok hlen;go_enter Tryz.func13,Tryz.ntmps13;go_wp2_with fail;refine(zo8 _).mono ?_;rintro e w1 ⟨O,rfl,hO0,hJ,hb1⟩;have hJO:=hJ [] (by simp);have hs1:=hb1.size;have hOl:=hJO.lt;obtain⟨W0,hW0⟩:∃W0,W0=w1.alloc (.cells #[.pointer (some ⟨O,0,none⟩)] 24):=⟨_,rfl⟩;have HB0:Hid (Below w.heap.size w W0):=by rw[hW0];exact zae hb1 (zab _ _)
 have KL:Hid (W0.heap[w1.heap.size]?=some (.cells #[.pointer (some ⟨O,0,none⟩)] 24 (0,0))):=by rw[hW0];exact heap_alloc_new _ _
 have HJ0:Hid (JAt W0 O [w1.heap.size,O] zxd):=by rw[hW0];exact hJO.more (zab _ _) (Nat.le_refl _)
 have hs0:W0.heap.size=w1.heap.size+1:=by rw[hW0];simp
 have HW0:=zaa hW0;clear hW0 hb1 hJ hJO;go_wp2_with fail;rw[←HW0.o];clear HW0
 refine(z0k _ 42 (fun x y z=>#[x,y,z,.pointer (some ⟨w1.heap.size,0,none⟩)]) (zmp _) a c l W0 [w1.heap.size,O] (HA.o.hideW HB0.o (by simp;omega)) HL.o HOK.o (by simp;omega)
  (fun B k W=>W.heap[w1.heap.size]?=some (.cells #[.pointer (some ⟨O,0,none⟩)] 24 (0,0))∧JAt W O [B,w1.heap.size,O] (jOf l k)) ?s0 ?sb ?look).mono ?fin
 case s0=>
  intro W B hB hW _;rw[zut];exact⟨zad hW (by omega) KL.o,HJ0.o.more hW hB⟩
 case sb=>
  rintro k W W' B ⟨h1,h2⟩ hB hs hb;exact⟨(hb.block _ (by omega) (by simp;omega)).trans h1,h2.but hb (by simp) (by simp;omega)⟩
 case look=>
  rintro k W B hk hB ⟨h1,h2⟩ hJ hX;have hkl:k<l.length:=by unfold played at hk;omega
  have hok:OkA (l.getD k ac0):=HOK.o _ (by rw[List.getD,List.getElem?_eq_getElem hkl];exact List.getElem_mem hkl);refine(ztz B O _ _ (jOf l (k+1)) (jOf l k) (l.getD k ac0) (rOf l k) W hJ h2 h1 hX (by omega) (by omega) (z0j l k) (z0j l (k+1)) (by rw[zuu hkl];rfl) hok).mono ?_;rintro e W' ⟨rfl,g1,g2,g3⟩;have hW:=hX B (by simp);exact⟨rfl,⟨(g3.block _ (by omega) (by simp;omega)).trans h1,g2⟩,g1,⟨g3.os,g3.tape,g3.output,g3.size,fun q hq hn=>g3.block q (by omega) (by simp at hn⊢;exact hn.2)⟩,g3.size⟩
 case fin=>
  rintro e w2 ⟨B,rfl,hB,_,_,hbb⟩;have HBF:Hid (Below w.heap.size w w2):=HB0.o.trans ⟨hbb.os,hbb.tape,hbb.output,hbb.size,fun q hq=>hbb.block q (by omega) (by simp;omega)⟩;clear hbb;go_wp2;go_ret;exact⟨rfl,HBF.o⟩
end Go.Proofs.YtjnpndfpajjihacGreat

