/-
  
-/
import Derived.Test.YtjnpndfpajjihadGreatGrTopEnds43
import Derived.Test.YtjnpndfpajjihadGreatGrTopEnds47
import Derived.Test.YtjnpndfpajjihadGreatGrTopEnds41
import Derived.Test.YtjnpndfpajjihadGreatGrTopEnds0
import Derived.Test.YtjnpndfpajjihadGreatGrTopEnds38
import Derived.Test.YtjnpndfpajjihadGreatXTellsP
import Derived.Test.YtjnpndfpajjihadGreatGrTopEnds32
import Derived.Test.YtjnpndfpajjihadGreatGrTopEnds1
import Derived.Test.YtjnpndfpajjihadGreatJRing
import Derived.Test.YtjnpndfpajjihadGreatJRunning
import Derived.Test.YtjnpndfpajjihadGreatJDisk
set_option maxRecDepth 100000
set_option maxHeartbeats 40000000
namespace Go.Proofs.YtjnpndfpajjihadGreat
open Go.RowKit
theorem DkFrom.lower {n m:Nat}{v:Value}(h:DkFrom n v)(hm:m≤n):DkFrom m v:=by
 obtain⟨a,l,c,a',l',c',rfl,h1,h2⟩:=h
 exact⟨a,l,c,a',l',c',rfl,fun b o e=>Nat.le_trans hm (h1 b o e),fun b o e=>Nat.le_trans hm (h2 b o e)⟩
def okD (bs:Nat)(v0:Value)(d:Dk)(v:Value)(w:World):Prop:=IsDk w v d∧(v=v0∨DkFrom bs v)
theorem okD.below {bs:Nat}{v0:Value}{d:Dk}{v:Value}{w w':World}(h:okD bs v0 d v w)(hb:Below w.heap.size w w'):okD bs v0 d v w':=⟨h.1.below hb,h.2⟩
theorem okD.store {bs:Nat}{v0:Value}{d:Dk}{v:Value}{w:World}(h:okD bs v0 d v w){T:Nat}{a1:Option Addr}{n1 c1:Nat}{a2:Option Addr}{n2 c2:Nat}(hT:w.heap[T]?=some (.cells #[.slice a1 n1 c1,.slice a2 n2 c2] 45 (0,0)))(b1:Option Addr)(m1 k1:Nat)(b2:Option Addr)(m2 k2:Nat):okD bs v0 d v ((w.setCell ⟨T,0,none⟩ (.slice b1 m1 k1)).setCell ⟨T,1,none⟩ (.slice b2 m2 k2)):=
 ⟨(h.1.setBox hT 0 _).setBox (heap_setCell_same _ _ 0 _ _ (.slice b1 m1 k1) hT) 1 _,h.2⟩
def zhf (B:Nat)(bs:Nat)(j:Jn)(s:St)(da:Option Addr)(dc:Nat)(db:Option Addr)(dd:Nat)(tb:Nat)(tq:Nat)(tc:Nat)(n:Nat):Nat→Value→World→Prop
 |0,v,_=>v=.pointer (some ⟨B,0,none⟩)
 |1,v,_=>v=.pointer (some ⟨B,0,none⟩)
 |2,v,_=>v=.pointer (some ⟨B,1,none⟩)
 |3,v,_=>v=.agg #[.slice da j.disk.safe.length dc,.slice db j.disk.wr.length dd]
 |4,v,_=>v=.pointer (some ⟨B,0,none⟩)
 |5,v,_=>v=.pointer (some ⟨B,0,none⟩)
 |6,v,_=>v=.pointer (some ⟨B,56,none⟩)
 |7,v,_=>v=.slice (some ⟨tb,tq,none⟩) n tc
 |8,v,_=>v=.pointer (some ⟨tb,tq,none⟩)
 |9,v,_=>v=.agg #[.int .i64 s.1,.int .i64 s.2.1,.string s.2.2]
 |10,v,w=>∃v2,v=.tuple #[v2,.int .i64 (doneE j.disk s)]∧okD bs (.agg #[.slice da j.disk.safe.length dc,.slice db j.disk.wr.length dd]) (za8 j.disk s) v2 w
 |11,v,w=>∃v2,v=.tuple #[v2,.int .i64 (doneE j.disk s)]∧okD bs (.agg #[.slice da j.disk.safe.length dc,.slice db j.disk.wr.length dd]) (za8 j.disk s) v2 w
 |12,v,w=>okD bs (.agg #[.slice da j.disk.safe.length dc,.slice db j.disk.wr.length dd]) (za8 j.disk s) v w
 |13,v,_=>v=.int .i64 (doneE j.disk s)
 |14,v,w=>∃(T:Nat) (a1:Option Addr) (n1 c1:Nat) (a2:Option Addr) (n2 c2:Nat),v=.pointer (some ⟨T,0,none⟩)∧bs≤T∧w.heap[T]?=some (.cells #[.slice a1 n1 c1,.slice a2 n2 c2] 45 (0,0))
 |15,v,w=>∃(T:Nat) (e1:Option Addr) (e2:Nat) (e3:Option Addr) (e4:Nat),v=.pointer (some ⟨T,0,none⟩)∧bs≤T∧w.heap[T]?=some (.cells #[.slice e1 (za8 j.disk s).safe.length e2,.slice e3 (za8 j.disk s).wr.length e4] 45 (0,0))∧okD bs (.agg #[.slice da j.disk.safe.length dc,.slice db j.disk.wr.length dd]) (za8 j.disk s) (.agg #[.slice e1 (za8 j.disk s).safe.length e2,.slice e3 (za8 j.disk s).wr.length e4]) w
 |_,_,_=>True
theorem zjq {B:Nat}{bs:Nat}{j:Jn}{s:St}{da:Option Addr}{dc:Nat}{db:Option Addr}{dd:Nat}{tb:Nat}{tq:Nat}{tc:Nat}{n:Nat}{w w':World}(hb:Below w.heap.size w w'){i:Nat}:∀kk uu,kk≠i→zhf B bs j s da dc db dd tb tq tc n kk uu w→zhf B bs j s da dc db dd tb tq tc n kk uu w':=by
 intro kk uu _ h
 match kk,h with
 |0,h|1,h|2,h|3,h|4,h|5,h|6,h|7,h|8,h|9,h=>exact h
 |10,⟨v2,h1,h2⟩=>exact⟨v2,h1,h2.below hb⟩
 |11,⟨v2,h1,h2⟩=>exact⟨v2,h1,h2.below hb⟩
 |12,h=>exact h.below hb
 |13,h=>exact h
 |14,⟨T,a1,n1,c1,a2,n2,c2,h1,h2,h3⟩=>exact⟨T,a1,n1,c1,a2,n2,c2,h1,h2,zac hb (Array.getElem?_eq_some_iff.1 h3).1 h3⟩
 |15,⟨T,e1,e2,e3,e4,h1,h2,h3,h4⟩=>exact⟨T,e1,e2,e3,e4,h1,h2,zac hb (Array.getElem?_eq_some_iff.1 h3).1 h3,h4.below hb⟩
 |_+16,_=>exact trivial
theorem stpPsi_store {B:Nat}{bs:Nat}{j:Jn}{s:St}{da:Option Addr}{dc:Nat}{db:Option Addr}{dd:Nat}{tb:Nat}{tq:Nat}{tc:Nat}{n:Nat}{w:World}{T:Nat}{a1:Option Addr}{n1 c1:Nat}{a2:Option Addr}{n2 c2:Nat}(hT:w.heap[T]?=some (.cells #[.slice a1 n1 c1,.slice a2 n2 c2] 45 (0,0)))(b1:Option Addr)(m1 k1:Nat)(b2:Option Addr)(m2 k2:Nat):∀kk x,kk≠15→zhf B bs j s da dc db dd tb tq tc n kk x w→zhf B bs j s da dc db dd tb tq tc n kk x ((w.setCell ⟨T,0,none⟩ (.slice b1 m1 k1)).setCell ⟨T,1,none⟩ (.slice b2 m2 k2)):=by
 intro kk x hk h
 match kk,h with
 |0,h|1,h|2,h|3,h|4,h|5,h|6,h|7,h|8,h|9,h=>exact h
 |10,⟨y,h1,h2⟩=>exact⟨y,h1,h2.store hT _ _ _ _ _ _⟩
 |11,⟨y,h1,h2⟩=>exact⟨y,h1,h2.store hT _ _ _ _ _ _⟩
 |12,h=>exact h.store hT _ _ _ _ _ _
 |13,h=>exact h
 |14,⟨T',u1,u2,u3,u4,u5,u6,h1,h2,h3⟩=>
  by_cases e:T'=T
  ·subst e;exact⟨T',_,_,_,_,_,_,h1,h2,ziu hT _ _⟩
  ·exact⟨T',u1,u2,u3,u4,u5,u6,h1,h2,(Below.heap_setCell _ _ _ _ e).trans ((Below.heap_setCell _ _ _ _ e).trans h3)⟩
 |15,_=>exact absurd rfl hk
 |_+16,_=>exact trivial
def zlh (B:Nat)(j:Jn)(X:List Nat)(d2:Dk)(e1:Option Addr)(e2:Nat)(e3:Option Addr)(e4:Nat)(tb:Nat)(tq:Nat)(tc:Nat)(n:Nat)(r:List St):Nat→Value→World→Prop
 |0,v,_=>v=.pointer (some ⟨B,0,none⟩)
 |1,v,_=>v=.pointer (some ⟨B,0,none⟩)
 |2,v,_=>v=.agg #[.slice e1 d2.safe.length e2,.slice e3 d2.wr.length e4]
 |3,v,_=>v=.pointer (some ⟨B,0,none⟩)
 |4,v,_=>v=.pointer (some ⟨B,0,none⟩)
 |5,v,_=>v=.pointer (some ⟨B,56,none⟩)
 |6,v,_=>v=.slice (some ⟨tb,tq,none⟩) n tc
 |7,v,w=>∃c a2,v=.slice a2 r.length c∧r.length≤c∧SegSt (zao w X) a2 r
 |8,v,_=>v=.pointer (some ⟨B,0,none⟩)
 |9,v,_=>v=.pointer (some ⟨B,1,none⟩)
 |10,_,w=>JAt w B X {j with disk:=d2}
 |_,_,_=>True
theorem stp2Psi_any {B:Nat}{j:Jn}{X:List Nat}{d2:Dk}{e1:Option Addr}{e2:Nat}{e3:Option Addr}{e4:Nat}{tb:Nat}{tq:Nat}{tc:Nat}{n:Nat}{r:List St}{w w':World}(hs:∀a l,SegSt (zao w X) a l→SegSt (zao w' X) a l):∀kk x,kk≠10→zlh B j X d2 e1 e2 e3 e4 tb tq tc n r kk x w→zlh B j X d2 e1 e2 e3 e4 tb tq tc n r kk x w':=by
 intro kk x hk h
 match kk,h with
 |0,h|1,h|2,h|3,h|4,h|5,h|6,h=>exact h
 |7,⟨c,a2,h1,h2,h3⟩=>exact⟨c,a2,h1,h2,hs _ _ h3⟩
 |8,h|9,h=>exact h
 |10,_=>exact absurd rfl hk
 |_+11,_=>exact trivial
theorem zyt (B:Nat)(X:List Nat)(j:Jn)(w:World)(h:JAt w B X j)(hX:∀x∈X,x<w.heap.size)(hn:j.done.length≤900)(hf:j.fL.length≤maxLen)(hq:IntKind.i64.wrap (j.fN - 1)=j.fN - 1):
  Calls Tryz.prog 21 #[.pointer (some ⟨B,0,none⟩)] w (zc4 w B X (zih j)):=by
 have HJ:=zaa h
 have hlt:=h.lt
 have hBX:=h.1
 have HX:=zaa hX
 have HN:=zaa hn
 have HF:=zaa hf
 have HQ:=zaa hq
 clear h hX hn hf hq
 have hne:¬w.heap.size=B:=by omega
 go_enter Tryz.func21,Tryz.ntmps21
 go_wp2_with fail
 obtain⟨W1,hW1⟩:∃W1,W1=w.alloc (.cells #[.int .i64 0,.int .i64 0,.string ⟨#[]⟩] 31):=⟨_,rfl⟩
 have HJ1:Hid (JAt W1 B (w.heap.size::X) j):=by rw[hW1];exact HJ.o.more (below1 _ _) (Nat.le_refl _)
 have HB1:Hid (ButL [B] w.heap.size w W1):=by rw[hW1];exact ButL.of_below (below1 _ _)
 have KR:Hid (W1.heap[w.heap.size]?=some (.cells #[.int .i64 0,.int .i64 0,.string ⟨#[]⟩] 31 (0,0))):=by rw[hW1];exact heap_alloc_new _ _
 have hs1:W1.heap.size=w.heap.size+1:=by rw[hW1];simp
 have hrl:w.heap.size<W1.heap.size:=by omega
 have hrB:w.heap.size≠B:=by omega
 have HX2:Hid (∀x∈(w.heap.size::X),x<W1.heap.size):=fun x hx=>by
  rcases List.mem_cons.1 hx with rfl|hx
  ·exact hrl
  ·have:=HX.o x hx;omega
 rw[←hW1]
 clear hW1
 refine(zex B (w.heap.size::X) j W1 HJ1.o).mono ?_
 rintro e w' ⟨rfl,rfl⟩
 cases hst:j.steps with
 |nil=>
  have HE:Hid (zih j=(j,zan 4)):=by rw[Hid,zih,hst]
  have hs':decide (0<([]:List St).length)=false:=rfl
  rw[hs']
  clear hst hs'
  go_wp2_with fail
  refine(jcode_any 4 _).mono ?_
  rintro e w2 ⟨rfl,hb2⟩
  have KR2:=zaa (zac hb2 hrl KR.o)
  have HJ2:=zaa (HJ1.o.below hb2)
  have HB2:=zaa (HB1.o.trans (Y:=[]) (ButL.of_below hb2) HB1.o.size (by simp))
  clear hb2
  obtain⟨⟨y0,y1,y2⟩,yf⟩:=zbd KR2.o
  go_wp2
  exact za5 HE.o KR2.o HJ2.o HB2.o hrB hBX fun W u0 u1 u2=>by simp[results,Tryz.results21,go_sem,u0,u1,u2]
 |cons s r=>
  have hs':decide (0<(s::r).length)=true:=by simp
  rw[hs']
  clear hs'
  have HST:=zaa hst
  obtain⟨_,da,dc,db,dd,na,nc,nb,nd,ne,nf,sa,sc,sb,sd,se,sf,ca,cc,fa,fc,ta,tc,h1,hr⟩:=id HJ1.o
  have C1:Hid (w'.cell? ⟨B,1,none⟩=some (.slice da j.disk.safe.length dc)):=zag h1 1
  have C2:Hid (w'.cell? ⟨B,2,none⟩=some (.slice db j.disk.wr.length dd)):=zag h1 2
  obtain⟨n,hnd⟩:∃n,n=j.steps.length:=⟨_,rfl⟩
  have hsg:=hr.2.2.2.2.2.1
  have htc:=hr.2.2.2.2.2.2.2.1
  rw[hst] at hsg
  obtain⟨tb,tq,hta,htl,hcs⟩:=hsg.resolve_left (by simp)
  have C56:Hid (w'.cell? ⟨B,56,none⟩=some (.slice (some ⟨tb,tq,none⟩) n tc)):=by rw[Hid,hnd,←hta];exact zag h1 56
  have hc0:=hcs 0 (by simp)
  simp only[Nat.zero_mul,Nat.add_zero,List.getD_cons_zero] at hc0
  obtain⟨hnX,hc00⟩:=zbq hc0.1
  have S0:=zaa hc00
  have S1:=zaa (zbq hc0.2.1).2
  have S2:=zaa (zbq hc0.2.2).2
  have HSR:Hid (SegSt (zao w' (w.heap.size::X)) (some ⟨tb,tq+3,none⟩) r):=.inr ⟨tb,tq+3,rfl,htl,fun i hi=>by
   have:=hcs (i+1) (by simp;omega)
   rw[show tq+(i+1)*3=tq+3+i*3 by omega] at this
   simpa using this⟩
  have hSW:tb<w'.heap.size:=by rw[zbc] at htl;exact htl
  have HNR:Hid (n - 1=r.length):=by rw[Hid,hnd,hst];simp
  have HN1:Hid (1≤n):=by rw[Hid,hnd,hst];simp
  have HNC:Hid (n≤tc):=by rw[Hid,hnd];exact htc
  have HDK:=zaa (hr.1.ext (Ext.seenL w' _))
  have HDX:=zaa hr.1
  have hBW:B<w'.heap.size:=by omega
  clear h1 hr hsg htc hta htl hcs hc0 hc00 hnX hst hnd
  have hn1:(1:Int)≤(n:Int):=by have:=HN1.o;omega
  go_wp2
  rename_i KK hKK
  obtain⟨W1,hWW⟩:∃W1,W1=w':=⟨_,rfl⟩
  rw[←hWW]
  subst hWW
  have TAIL:∀(g:Nat→Value) (W3:World) (T:Nat) (e1:Option Addr) (e2:Nat) (e3:Option Addr) (e4:Nat),W1.heap.size≤T→W3.heap[T]?=some (.cells #[.slice e1 (za8 j.disk s).safe.length e2,.slice e3 (za8 j.disk s).wr.length e4] 45 (0,0))→okD W1.heap.size (.agg #[.slice da j.disk.safe.length dc,.slice db j.disk.wr.length dd]) (za8 j.disk s) (.agg #[.slice e1 (za8 j.disk s).safe.length e2,.slice e3 (za8 j.disk s).wr.length e4]) W3→Below W1.heap.size W1 W3→KK ⟨#[.pointer (some ⟨B,0,none⟩),g 1,.pointer (some ⟨w.heap.size,0,none⟩),.pointer (some ⟨T,0,none⟩),.int .i64 (doneE j.disk s),g 5,g 6,g 7,g 8,g 9,g 10,g 11,g 12,g 13,g 14,g 15,g 16,g 17,g 18,g 19,g 20,g 21,g 22,g 23,g 24,g 25,g 26,g 27,g 28,g 29,g 30,g 31,g 32,g 33,g 34,g 35,g 36,g 37,g 38,g 39,g 40,g 41,g 42,g 43],[]⟩ W3:=by
   intro g W3 T e1 e2 e3 e4 hT1 hTb ok hb3
   apply hKK
   clear hKK
   have HJ3:=zaa (HJ1.o.below hb3)
   have HB3:Hid (ButL [B] w.heap.size w W3):=HB1.o.trans (Y:=[]) (ButL.of_below hb3) HB1.o.size (by simp)
   have KR3:=zaa (zac hb3 hrl KR.o)
   have hs3:W1.heap.size≤W3.heap.size:=hb3.size
   have HDH:Hid (IsDk (zao W3 (w.heap.size::X)) (.agg #[.slice e1 (za8 j.disk s).safe.length e2,.slice e3 (za8 j.disk s).wr.length e4]) (za8 j.disk s)):=by
    rcases ok.2 with e|hF
    ·have hd:=HDX.o.ext (Ext.freshL hb3)
     have hD1:=ok.1
     rw[Hid,e]
     rw[e] at hD1
     exact hd.asDisk hD1
    ·exact ok.1.hideF hF HX2.o
   have C563:=zaa (zab hb3 hBW C56.o)
   have HSR3:=zaa (HSR.o.ext (Ext.freshL hb3))
   have KT3:=zaa hTb
   have hTW:T<W3.heap.size:=(Array.getElem?_eq_some_iff.1 hTb).1
   have hTB:¬T=B:=by omega
   have hrl3:w.heap.size<W3.heap.size:=by omega
   clear hb3 hTb ok C1 C2 C56 S0 S1 S2 HSR HDK HDX HJ1 HB1 KR
   obtain⟨d2,hd2⟩:∃d2,d2=(za8 j.disk s):=⟨_,rfl⟩
   rw[←hd2] at HDH KT3
   have HD2:=zaa hd2
   clear hd2
   by_cases he:doneE j.disk s=0
   ·have HE0:Hid (zih j=if r=[] then zbv ({j with disk:=d2,steps:=r}:Jn) else(({j with disk:=d2,steps:=r}:Jn),zan 0)):=by rw[Hid,zih,HST.o];simp only[he,if_true,HD2.o]
    rw[he]
    clear he HD2
    go_wp2
    rename_i KK2 hKK2
    have TAIL2:∀(g:Nat→Value) (W6:World),JAt W6 B (w.heap.size::X) ({j with disk:=d2,steps:=r}:Jn)→ButL [B] W3.heap.size W3 W6→KK2 ⟨#[.pointer (some ⟨B,0,none⟩),g 1,.pointer (some ⟨w.heap.size,0,none⟩),g 3,g 4,g 5,g 6,g 7,g 8,g 9,g 10,g 11,g 12,g 13,g 14,g 15,g 16,g 17,g 18,g 19,g 20,g 21,g 22,g 23,g 24,g 25,g 26,g 27,g 28,g 29,g 30,g 31,g 32,g 33,g 34,g 35,g 36,g 37,g 38,g 39,g 40,g 41,g 42,g 43],[]⟩ W6:=by
     intro g W6 hJ7 hB7
     apply hKK2
     clear hKK2
     have HJ1:=zaa hJ7
     have HB1:Hid (ButL [B] w.heap.size w W6):=HB3.o.trans hB7 HB3.o.size (by simp)
     have KR:Hid (W6.heap[w.heap.size]?=some (.cells #[.int .i64 0,.int .i64 0,.string ⟨#[]⟩] 31 (0,0))):=(hB7.block _ (by omega) (by simpa using hrB)).trans KR3.o
     have hs7:W3.heap.size≤W6.heap.size:=hB7.size
     have hrl:w.heap.size<W6.heap.size:=by omega
     clear hJ7 hB7
     go_wp2_with fail
     refine(zex B (w.heap.size::X) ({j with disk:=d2,steps:=r}:Jn) W6 HJ1.o).mono ?_
     rintro e w7 ⟨rfl,rfl⟩
     by_cases hre:r=[]
     ·have HE1:Hid (zih j=zbv ({j with disk:=d2,steps:=r}:Jn)):=by rw[Hid,HE0.o,if_pos hre]
      have hdc:decide (0<(({j with disk:=d2,steps:=r}:Jn)).steps.length)=false:=by show decide (0<r.length)=false;rw[hre];rfl
      rw[hdc]
      clear hdc HE0
      go_wp2_with fail
      refine(zse B (w.heap.size::X) ({j with disk:=d2,steps:=r}:Jn) w7 HJ1.o (fun x hx=>by have:=HX2.o x hx;omega) HN.o HF.o HQ.o).mono ?_
      rintro e w2 ⟨rfl,hJ2,hB2⟩
      have KR2:Hid (w2.heap[w.heap.size]?=some (.cells #[.int .i64 0,.int .i64 0,.string ⟨#[]⟩] 31 (0,0))):=(hB2.block _ (by omega) (by simpa using hrB)).trans KR.o
      have HJ2:=zaa hJ2
      have HB2:Hid (ButL [B] w.heap.size w w2):=HB1.o.trans hB2 HB1.o.size (by simp)
      have hs2:w7.heap.size≤w2.heap.size:=hB2.size
      clear hJ2 hB2
      obtain⟨P,hP⟩:∃P,P=zbv ({j with disk:=d2,steps:=r}:Jn):=⟨_,rfl⟩
      rw[←hP] at HE1 HJ2⊢
      have HE3:Hid (zih j=(P.1,⟨P.2.code,P.2.n,P.2.text⟩)):=HE1.o
      rw[show vRp P.2=.agg #[.int .i64 P.2.code,.int .i64 P.2.n,.string P.2.text] from rfl]
      clear hP HE1
      obtain⟨⟨y0,y1,y2⟩,yf⟩:=zbd KR2.o
      go_wp2
      exact za5 HE3.o KR2.o HJ2.o HB2.o hrB hBX fun W u0 u1 u2=>by simp[results,Tryz.results21,go_sem,u0,u1,u2]
     ·have HE:Hid (zih j=(({j with disk:=d2,steps:=r}:Jn),zan 0)):=by rw[Hid,HE0.o,if_neg hre]
      have hdc:decide (0<(({j with disk:=d2,steps:=r}:Jn)).steps.length)=true:=by show decide (0<r.length)=true;simpa[List.length_pos_iff] using hre
      rw[hdc]
      clear hdc HE0 hre
      go_wp2_with fail
      refine(jcode_any 0 _).mono ?_
      rintro e w2 ⟨rfl,hb2⟩
      have KR2:=zaa (zac hb2 hrl KR.o)
      have HJ2:=zaa (HJ1.o.below hb2)
      have HB2:=zaa (HB1.o.trans (Y:=[]) (ButL.of_below hb2) HB1.o.size (by simp))
      clear hb2
      obtain⟨⟨y0,y1,y2⟩,yf⟩:=zbd KR2.o
      go_wp2
      exact za5 HE.o KR2.o HJ2.o HB2.o hrB hBX fun W u0 u1 u2=>by simp[results,Tryz.results21,go_sem,u0,u1,u2]
    have HTAIL2:=zaa TAIL2
    clear TAIL2 hKK2
    have HSR:=HSR3
    refine(show∀A0:Act,A0=_→Code.wp Tryz.prog _ _ A0 _ from fun A0 hA0=>?_) _ rfl
    have hsz:A0.tmps.size=44:=by rw[hA0];rfl
    have hdf:A0.defers=[]:=by rw[hA0]
    have v0:A0.eval (.tmp 0)=.pointer (some ⟨B,0,none⟩):=by rw[hA0];rfl
    have v2:A0.eval (.tmp 2)=.pointer (some ⟨w.heap.size,0,none⟩):=by rw[hA0];rfl
    have v3:A0.eval (.tmp 3)=.pointer (some ⟨T,0,none⟩):=by rw[hA0];rfl
    clear hA0
    refine za7 11 (fun w'=>(∃d,JAt w' B (w.heap.size::X) {j with disk:=d})∧ButL [B] W3.heap.size W3 w'∧w'.cell? ⟨B,56,none⟩=some (.slice (some ⟨tb,tq,none⟩) n tc)) [27,28,29,30,31,32,33,34,35,36,36] (zlh B j (w.heap.size::X) d2 e1 e2 e3 e4 tb tq tc n r) (by kernel_rfl) (by kernel_rfl) (by kernel_rfl) (by kernel_rfl) (by decide) (⟨⟨_,HJ3.o.below (Below.refl _ _).drew⟩,ButL.of_below (Below.refl _ _).drew,C563.o⟩) ⟨?_,?_,?_,?_,?_,?_,?_,?_,?_,?_,?_,trivial⟩ ?_
    ·intro a w' hF hR hp
     have z0:=(hF.other 0 rfl).trans v0
     exact zah _ rfl rfl (by revert z0;generalize a.eval=ρ;intro z0;simp only[execOp];go_simp) hF hsz hR rfl
    ·intro a w' hF hR hp
     have z0:=(hF.other 0 rfl).trans v0
     exact zah _ rfl rfl (by revert z0;generalize a.eval=ρ;intro z0;simp only[execOp];go_simp) hF hsz hR rfl
    ·intro a w' hF hR hp
     have z3:=(hF.other 3 rfl).trans v3
     have c0:w'.cell? ⟨T,0,none⟩=some (.slice e1 d2.safe.length e2):=(zfo ((hR.2.1.block _ hTW (by simpa using hTB)).trans KT3.o)).1.1
     have c1:w'.cell? ⟨T,1,none⟩=some (.slice e3 d2.wr.length e4):=(zfo ((hR.2.1.block _ hTW (by simpa using hTB)).trans KT3.o)).1.2
     exact zah _ rfl rfl (by revert z3;generalize a.eval=ρ;intro z3;simp only[execOp];go_simp) hF hsz hR rfl
    ·intro a w' hF hR hp
     have z0:=(hF.other 0 rfl).trans v0
     exact zah _ rfl rfl (by revert z0;generalize a.eval=ρ;intro z0;simp only[execOp];go_simp) hF hsz hR rfl
    ·intro a w' hF hR hp
     have p30:a.eval (.tmp 30)=.pointer (some ⟨B,0,none⟩):=hp ⟨3,.data⟩ (by simp) rfl
     exact zah _ rfl rfl (by revert p30;generalize a.eval=ρ;intro p30;simp only[execOp];go_simp) hF hsz hR rfl
    ·intro a w' hF hR hp
     have p31:a.eval (.tmp 31)=.pointer (some ⟨B,0,none⟩):=hp ⟨4,.data⟩ (by simp) rfl
     exact zah _ rfl rfl (by revert p31;generalize a.eval=ρ;intro p31;simp only[execOp];go_simp) hF hsz hR rfl
    ·intro a w' hF hR hp
     have p32:a.eval (.tmp 32)=.pointer (some ⟨B,56,none⟩):=hp ⟨5,.data⟩ (by simp) rfl
     have c0:w'.cell? ⟨B,56,none⟩=some (.slice (some ⟨tb,tq,none⟩) n tc):=hR.2.2
     exact zah _ rfl rfl (by revert p32;generalize a.eval=ρ;intro p32;simp only[execOp];go_simp) hF hsz hR rfl
    ·intro a w' hF hR hp
     have p33:a.eval (.tmp 33)=.slice (some ⟨tb,tq,none⟩) n tc:=hp ⟨6,.data⟩ (by simp) rfl
     have hsg:=HSR.o.ext (Ext.butL (hR.2.1.wider (Y:=(w.heap.size::X)) (by simp[hBX])))
     have hn1:=HN1.o
     have hnc:=HNC.o
     by_cases htc:tc=1
     ·have hne1:n=1:=by omega
      refine za0 (.slice (some ⟨tb,tq,none⟩) 0 0) rfl rfl (by have pc0:=Act.eval_const a (.int .i64 1);revert p33 pc0;generalize a.eval=ρ;intro p33 pc0;simp only[execOp];go_simp) ⟨_,rfl,hR,?_,fun _ _ _ h=>h⟩
      show zlh _ _ _ _ _ _ _ _ _ _ _ _ _ _ ((a.put (some 34) _).eval (.tmp 34)) w'
      rw[zal hF hsz (by decide)]
      have hr0:r.length=0:=by have:=HNR.o;omega
      exact⟨0,_,by rw[hr0],by omega,.inl (List.eq_nil_of_length_eq_zero hr0)⟩
     ·refine za0 (.slice (some ⟨tb,tq+3,none⟩) (n - 1) (tc - 1)) rfl rfl (by have pc0:=Act.eval_const a (.int .i64 1);revert p33 pc0;generalize a.eval=ρ;intro p33 pc0;simp only[execOp];go_simp) ⟨_,rfl,hR,?_,fun _ _ _ h=>h⟩
      show zlh _ _ _ _ _ _ _ _ _ _ _ _ _ _ ((a.put (some 34) _).eval (.tmp 34)) w'
      rw[zal hF hsz (by decide)]
      exact⟨tc - 1,_,by rw[HNR.o],by have:=HNR.o;omega,hsg⟩
    ·intro a w' hF hR hp
     have p27:a.eval (.tmp 27)=.pointer (some ⟨B,0,none⟩):=hp ⟨0,.data⟩ (by simp) rfl
     exact zah _ rfl rfl (by revert p27;generalize a.eval=ρ;intro p27;simp only[execOp];go_simp) hF hsz hR rfl
    ·intro a w' hF hR hp
     have p35:a.eval (.tmp 35)=.pointer (some ⟨B,0,none⟩):=hp ⟨8,.data⟩ (by simp) rfl
     exact zah _ rfl rfl (by revert p35;generalize a.eval=ρ;intro p35;simp only[execOp];go_simp) hF hsz hR rfl
    ·intro a w' hF hR hp
     have p36:a.eval (.tmp 36)=.pointer (some ⟨B,1,none⟩):=hp ⟨9,.data⟩ (by simp) rfl
     have p29:a.eval (.tmp 29)=.agg #[.slice e1 d2.safe.length e2,.slice e3 d2.wr.length e4]:=hp ⟨2,.data⟩ (by simp) rfl
     obtain⟨⟨d,hJd⟩,hBd,hcd⟩:=hR
     obtain⟨_,kda,kdc,kdb,kdd,kna,knc,knb,knd,kne,knf,ksa,ksc,ksb,ksd,kse,ksf,kca,kcc,kfa,kfc,kta,ktc,k1,_⟩:=id hJd
     obtain⟨x1,c1⟩:∃v,w'.cell? ⟨B,1,none⟩=some v:=⟨_,(zag k1 1).trans rfl⟩
     obtain⟨x2,c2⟩:∃v,w'.cell? ⟨B,2,none⟩=some v:=⟨_,(zag k1 2).trans rfl⟩
     have fc1:w'.frozen? ⟨B,1,none⟩=false:=frozen_of_row w' _ _ _ _ k1
     have fc2:w'.frozen? ⟨B,2,none⟩=false:=frozen_of_row w' _ _ _ _ k1
     clear k1
     have hDs:=HDH.o.ext (Ext.butL (hBd.wider (Y:=(w.heap.size::X)) (by simp[hBX])))
     refine zcg rfl rfl (w':=((w'.setCell ⟨B,1,none⟩ (.slice e1 d2.safe.length e2)).setCell ⟨B,2,none⟩ (.slice e3 d2.wr.length e4))) (by revert p36 p29;generalize a.eval=ρ;intro p36 p29;simp only[execOp];go_simp) ⟨_,rfl,⟨⟨_,hJd.putDisk hDs⟩,?_,?_⟩,?_,stp2Psi_any (fun a l h=>(h.ext (Ext.setL (by simp[hBX]) 1 _)).ext (Ext.setL (by simp[hBX]) 2 _))⟩
     ·exact(hBd.set (.inl (by simp)) 1 _).set (.inl (by simp)) 2 _
     ·simp[go_sem,hcd]
     ·exact hJd.putDisk hDs
    ·intro a W hF hR hp
     have q28:a.eval (.tmp 28)=.pointer (some ⟨B,0,none⟩):=hp 1 (by decide)
     obtain⟨yc,ya,q34,hyc,hys⟩:∃c a2,a.eval (.tmp 34)=.slice a2 r.length c∧r.length≤c∧SegSt (zao W (w.heap.size::X)) a2 r:=hp 7 (by decide)
     have hJW:JAt W B (w.heap.size::X) {j with disk:=d2}:=hp 10 (by decide)
     obtain⟨_,kda,kdc,kdb,kdd,kna,knc,knb,knd,kne,knf,ksa,ksc,ksb,ksd,kse,ksf,kca,kcc,kfa,kfc,kta,ktc,k1,_⟩:=id hJW
     obtain⟨x56,c56⟩:∃v,W.cell? ⟨B,56,none⟩=some v:=⟨_,(zag k1 56).trans rfl⟩
     have fc56:W.frozen? ⟨B,56,none⟩=false:=frozen_of_row W _ _ _ _ k1
     clear k1
     have hsa:a.tmps.size=44:=hF.size.trans hsz
     show wpOps Tryz.prog _ _ [11,12,13] a W
     rw[wpOps_cons]
     refine za0 (.pointer (some ⟨B,0,none⟩)) rfl rfl (by revert q28;generalize a.eval=ρ;intro q28;simp only[execOp];go_simp) ?_
     obtain⟨b1,hb1⟩:∃b1,b1=a.put (some 37) (.pointer (some ⟨B,0,none⟩)):=⟨_,rfl⟩
     have r37:b1.eval (.tmp 37)=.pointer (some ⟨B,0,none⟩):=by rw[hb1];exact Act.eval_put_same _ _ _ (by rw[hsa];decide)
     have r34:b1.eval (.tmp 34)=.slice ya r.length yc:=by rw[hb1,Act.eval_put_ne _ _ _ _ (by decide)];exact q34
     show wpOps Tryz.prog _ _ [12,13] (a.put (some 37) (.pointer (some ⟨B,0,none⟩))) W
     rw[←hb1,wpOps_cons]
     refine za0 (.pointer (some ⟨B,56,none⟩)) rfl rfl (by revert r37;generalize b1.eval=ρ;intro r37;simp only[execOp];go_simp) ?_
     obtain⟨b2,hb2⟩:∃b2,b2=b1.put (some 38) (.pointer (some ⟨B,56,none⟩)):=⟨_,rfl⟩
     have hs1:b1.tmps.size=44:=by rw[hb1,Act.size_put];exact hsa
     have s38:b2.eval (.tmp 38)=.pointer (some ⟨B,56,none⟩):=by rw[hb2];exact Act.eval_put_same _ _ _ (by rw[hs1];decide)
     have s34:b2.eval (.tmp 34)=.slice ya r.length yc:=by rw[hb2,Act.eval_put_ne _ _ _ _ (by decide)];exact r34
     show wpOps Tryz.prog _ _ [13] (b1.put (some 38) (.pointer (some ⟨B,56,none⟩))) W
     rw[←hb2,wpOps_cons]
     refine zcg rfl rfl (w':=W.setCell ⟨B,56,none⟩ (.slice ya r.length yc)) (by revert s38 s34;generalize b2.eval=ρ;intro s38 s34;simp only[execOp];go_simp) ?_
     have f0:b2.eval (.tmp 0)=.pointer (some ⟨B,0,none⟩):=by rw[hb2,Act.eval_put_ne _ _ _ _ (by decide),hb1,Act.eval_put_ne _ _ _ _ (by decide)];exact(hF.other 0 rfl).trans v0
     have f2:b2.eval (.tmp 2)=.pointer (some ⟨w.heap.size,0,none⟩):=by rw[hb2,Act.eval_put_ne _ _ _ _ (by decide),hb1,Act.eval_put_ne _ _ _ _ (by decide)];exact(hF.other 2 rfl).trans v2
     have hlit:b2=⟨#[_,_,_,_,_,_,_,_,_,_,_,_,_,_,_,_,_,_,_,_,_,_,_,_,_,_,_,_,_,_,_,_,_,_,_,_,_,_,_,_,_,_,_,_],[]⟩:=zcd b2 44 (by rw[hb2,Act.size_put];exact hs1) (by rw[hb2,Act.defers_put',hb1,Act.defers_put'];exact hF.defers.trans hdf)
     dsimp only at hlit
     rw[f0,f2] at hlit
     show KK2 b2 _
     exact(congrArg (fun x=>KK2 x _) hlit).mpr (HTAIL2.o (fun k=>b2.eval (.tmp k)) _ (hJW.putSteps hys hyc) (hR.2.1.set (.inl (by simp)) 56 _))
   ·have HE:Hid (zih j=(j,zan (doneE j.disk s))):=by rw[Hid,zih,HST.o];simp only[he,if_false]
    have he':(doneE j.disk s !=0)=true:=by simpa using he
    clear he
    generalize doneE j.disk s=E at *
    have HJ1:=HJ3
    have HB1:=HB3
    have KR:=KR3
    have hrl:=hrl3
    go_wp2_with fail
    refine(jcode_any E _).mono ?_
    rintro e w2 ⟨rfl,hb2⟩
    have KR2:=zaa (zac hb2 hrl KR.o)
    have HJ2:=zaa (HJ1.o.below hb2)
    have HB2:=zaa (HB1.o.trans (Y:=[]) (ButL.of_below hb2) HB1.o.size (by simp))
    clear hb2
    obtain⟨⟨y0,y1,y2⟩,yf⟩:=zbd KR2.o
    go_wp2
    exact za5 HE.o KR2.o HJ2.o HB2.o hrB hBX fun W u0 u1 u2=>by simp[results,Tryz.results21,go_sem,u0,u1,u2]
  have HTAIL:=zaa TAIL
  clear TAIL hKK
  refine(show∀A0:Act,A0=_→Code.wp Tryz.prog _ _ A0 _ from fun A0 hA0=>?_) _ rfl
  have hsz:A0.tmps.size=44:=by rw[hA0];rfl
  have hdf:A0.defers=[]:=by rw[hA0]
  have v0:A0.eval (.tmp 0)=.pointer (some ⟨B,0,none⟩):=by rw[hA0];rfl
  have v2:A0.eval (.tmp 2)=.pointer (some ⟨w.heap.size,0,none⟩):=by rw[hA0];rfl
  clear hA0
  refine za7 16 (fun w'=>Below W1.heap.size W1 w') [10,11,12,13,14,15,16,17,18,19,20,9,21,22,3,3] (zhf B W1.heap.size j s da dc db dd tb tq tc n) (by kernel_rfl) (by kernel_rfl) (by kernel_rfl) (by kernel_rfl) (by decide) ((Below.refl _ _).drew) ⟨?_,?_,?_,?_,?_,?_,?_,?_,?_,?_,?_,?_,?_,?_,?_,?_,trivial⟩ ?_
  ·intro a w' hF hR hp
   have z0:=(hF.other 0 rfl).trans v0
   exact zah _ rfl rfl (by revert z0;generalize a.eval=ρ;intro z0;simp only[execOp];go_simp) hF hsz hR rfl
  ·intro a w' hF hR hp
   have p10:a.eval (.tmp 10)=.pointer (some ⟨B,0,none⟩):=hp ⟨0,.data⟩ (by simp) rfl
   exact zah _ rfl rfl (by revert p10;generalize a.eval=ρ;intro p10;simp only[execOp];go_simp) hF hsz hR rfl
  ·intro a w' hF hR hp
   have p11:a.eval (.tmp 11)=.pointer (some ⟨B,0,none⟩):=hp ⟨1,.data⟩ (by simp) rfl
   exact zah _ rfl rfl (by revert p11;generalize a.eval=ρ;intro p11;simp only[execOp];go_simp) hF hsz hR rfl
  ·intro a w' hF hR hp
   have p12:a.eval (.tmp 12)=.pointer (some ⟨B,1,none⟩):=hp ⟨2,.data⟩ (by simp) rfl
   have c0:w'.cell? ⟨B,1,none⟩=some (.slice da j.disk.safe.length dc):=zab hR hBW C1.o
   have c1:w'.cell? ⟨B,2,none⟩=some (.slice db j.disk.wr.length dd):=zab hR hBW C2.o
   exact zah _ rfl rfl (by revert p12;generalize a.eval=ρ;intro p12;simp only[execOp];go_simp) hF hsz hR rfl
  ·intro a w' hF hR hp
   have z0:=(hF.other 0 rfl).trans v0
   exact zah _ rfl rfl (by revert z0;generalize a.eval=ρ;intro z0;simp only[execOp];go_simp) hF hsz hR rfl
  ·intro a w' hF hR hp
   have p14:a.eval (.tmp 14)=.pointer (some ⟨B,0,none⟩):=hp ⟨4,.data⟩ (by simp) rfl
   exact zah _ rfl rfl (by revert p14;generalize a.eval=ρ;intro p14;simp only[execOp];go_simp) hF hsz hR rfl
  ·intro a w' hF hR hp
   have p15:a.eval (.tmp 15)=.pointer (some ⟨B,0,none⟩):=hp ⟨5,.data⟩ (by simp) rfl
   exact zah _ rfl rfl (by revert p15;generalize a.eval=ρ;intro p15;simp only[execOp];go_simp) hF hsz hR rfl
  ·intro a w' hF hR hp
   have p16:a.eval (.tmp 16)=.pointer (some ⟨B,56,none⟩):=hp ⟨6,.data⟩ (by simp) rfl
   have c0:w'.cell? ⟨B,56,none⟩=some (.slice (some ⟨tb,tq,none⟩) n tc):=zab hR hBW C56.o
   exact zah _ rfl rfl (by revert p16;generalize a.eval=ρ;intro p16;simp only[execOp];go_simp) hF hsz hR rfl
  ·intro a w' hF hR hp
   have p17:a.eval (.tmp 17)=.slice (some ⟨tb,tq,none⟩) n tc:=hp ⟨7,.data⟩ (by simp) rfl
   have hn0:¬n=0:=by have:=HN1.o;omega
   exact zah _ rfl rfl (by have pc0:=Act.eval_const a (.int .i64 0);revert p17 pc0;generalize a.eval=ρ;intro p17 pc0;simp only[execOp];go_simp) hF hsz hR rfl
  ·intro a w' hF hR hp
   have p18:a.eval (.tmp 18)=.pointer (some ⟨tb,tq,none⟩):=hp ⟨8,.data⟩ (by simp) rfl
   have c0:w'.cell? ⟨tb,tq,none⟩=some (.int .i64 s.1):=zab hR hSW S0.o
   have c1:w'.cell? ⟨tb,tq+1,none⟩=some (.int .i64 s.2.1):=zab hR hSW S1.o
   have c2:w'.cell? ⟨tb,tq+2,none⟩=some (.string s.2.2):=zab hR hSW S2.o
   exact zah _ rfl rfl (by revert p18;generalize a.eval=ρ;intro p18;simp only[execOp];go_simp) hF hsz hR rfl
  ·intro a w' hF hR hp
   have p13:a.eval (.tmp 13)=.agg #[.slice da j.disk.safe.length dc,.slice db j.disk.wr.length dd]:=hp ⟨3,.data⟩ (by simp) rfl
   have p19:a.eval (.tmp 19)=.agg #[.int .i64 s.1,.int .i64 s.2.1,.string s.2.2]:=hp ⟨9,.data⟩ (by simp) rfl
   refine zbn 50 #[.agg #[.slice da j.disk.safe.length dc,.slice db j.disk.wr.length dd],.agg #[.int .i64 s.1,.int .i64 s.2.1,.string s.2.2]] rfl rfl (by have pf:=Act.eval_func a 50;revert p13 p19 pf;generalize a.eval=ρ;intro p13 p19 pf;simp only[execOp];go_simp) _ (done_any (.agg #[.slice da j.disk.safe.length dc,.slice db j.disk.wr.length dd]) j.disk s _ (HDK.o.below hR)) ?_
   rintro e w2 ⟨v2,rfl,hD2,hb2,hv2⟩
   refine⟨_,rfl,_,rfl,zad hR hb2,?_,zjq hb2⟩
   show zhf _ _ _ _ _ _ _ _ _ _ _ _ _ ((a.put (some 20) _).eval (.tmp 20)) w2
   rw[zal hF hsz (by decide)]
   exact⟨v2,rfl,hD2,hv2.imp id (fun h=>h.lower hR.size)⟩
  ·intro a w' hF hR hp
   obtain⟨v2,pc,ok⟩:∃v2,a.eval (.tmp 20)=.tuple #[v2,.int .i64 (doneE j.disk s)]∧okD W1.heap.size (.agg #[.slice da j.disk.safe.length dc,.slice db j.disk.wr.length dd]) (za8 j.disk s) v2 w':=hp ⟨10,.data⟩ (by simp) rfl
   refine za0 (.tuple #[v2,.int .i64 (doneE j.disk s)]) rfl rfl (by revert pc;generalize a.eval=ρ;intro pc;simp only[execOp];go_simp) ⟨_,rfl,hR,?_,fun _ _ _ h=>h⟩
   show zhf _ _ _ _ _ _ _ _ _ _ _ _ _ ((a.put (some 9) _).eval (.tmp 9)) w'
   rw[zal hF hsz (by decide)]
   exact⟨v2,rfl,ok⟩
  ·intro a w' hF hR hp
   obtain⟨v2,pm,ok⟩:∃v2,a.eval (.tmp 9)=.tuple #[v2,.int .i64 (doneE j.disk s)]∧okD W1.heap.size (.agg #[.slice da j.disk.safe.length dc,.slice db j.disk.wr.length dd]) (za8 j.disk s) v2 w':=hp ⟨11,.data⟩ (by simp) rfl
   refine za0 (v2) rfl rfl (by revert pm;generalize a.eval=ρ;intro pm;simp only[execOp];go_simp) ⟨_,rfl,hR,?_,fun _ _ _ h=>h⟩
   show zhf _ _ _ _ _ _ _ _ _ _ _ _ _ ((a.put (some 21) _).eval (.tmp 21)) w'
   rw[zal hF hsz (by decide)]
   exact ok
  ·intro a w' hF hR hp
   obtain⟨v2,pm,ok⟩:∃v2,a.eval (.tmp 9)=.tuple #[v2,.int .i64 (doneE j.disk s)]∧okD W1.heap.size (.agg #[.slice da j.disk.safe.length dc,.slice db j.disk.wr.length dd]) (za8 j.disk s) v2 w':=hp ⟨11,.data⟩ (by simp) rfl
   exact zah _ rfl rfl (by revert pm;generalize a.eval=ρ;intro pm;simp only[execOp];go_simp) hF hsz hR rfl
  ·intro a w' hF hR hp
   refine zfj (.pointer (some ⟨w'.heap.size,0,none⟩)) rfl rfl (w':=w'.alloc (.cells #[.slice none 0 0,.slice none 0 0] 45)) (by simp only[execOp];go_simp) ⟨_,rfl,hR.alloc hR.size _,?_,zjq (below1 _ _)⟩
   show zhf _ _ _ _ _ _ _ _ _ _ _ _ _ ((a.put (some 3) _).eval (.tmp 3)) _
   rw[zal hF hsz (by decide)]
   exact⟨_,_,_,_,_,_,_,rfl,hR.size,heap_alloc_new _ _⟩
  ·intro a w' hF hR hp
   obtain⟨T,a1,n1,c1,a2,n2,c2,pT,hT1,hTb⟩:∃(T:Nat) (a1:Option Addr) (n1 c1:Nat) (a2:Option Addr) (n2 c2:Nat),a.eval (.tmp 3)=.pointer (some ⟨T,0,none⟩)∧W1.heap.size≤T∧w'.heap[T]?=some (.cells #[.slice a1 n1 c1,.slice a2 n2 c2] 45 (0,0)):=hp ⟨14,.data⟩ (by simp) rfl
   have ok:okD W1.heap.size (.agg #[.slice da j.disk.safe.length dc,.slice db j.disk.wr.length dd]) (za8 j.disk s) (a.eval (.tmp 21)) w':=hp ⟨12,.data⟩ (by simp) rfl
   obtain⟨e1,e2,e3,e4,hv,_⟩:=id ok.1
   rw[hv] at ok
   obtain⟨⟨t0,t1⟩,tf⟩:=zfo hTb
   refine zcg rfl rfl (w':=((w'.setCell ⟨T,0,none⟩ (.slice e1 (za8 j.disk s).safe.length e2)).setCell ⟨T,1,none⟩ (.slice e3 (za8 j.disk s).wr.length e4))) (by revert pT hv;generalize a.eval=ρ;intro pT hv;simp only[execOp];go_simp) ⟨_,rfl,?_,?_,stpPsi_store hTb _ _ _ _ _ _⟩
   ·exact(hR.setCell (p:=⟨T,0,none⟩) hT1 _).setCell (p:=⟨T,1,none⟩) hT1 _
   ·show zhf _ _ _ _ _ _ _ _ _ _ _ _ _ (a.eval (.tmp 3)) _
    exact⟨T,e1,e2,e3,e4,pT,hT1,ziu hTb _ _,ok.store hTb _ _ _ _ _ _⟩
  ·intro a W hF hR hp
   obtain⟨T,e1,e2,e3,e4,pT,hT1,hTb,ok⟩:∃(T:Nat) (e1:Option Addr) (e2:Nat) (e3:Option Addr) (e4:Nat),a.eval (.tmp 3)=.pointer (some ⟨T,0,none⟩)∧W1.heap.size≤T∧W.heap[T]?=some (.cells #[.slice e1 (za8 j.disk s).safe.length e2,.slice e3 (za8 j.disk s).wr.length e4] 45 (0,0))∧okD W1.heap.size (.agg #[.slice da j.disk.safe.length dc,.slice db j.disk.wr.length dd]) (za8 j.disk s) (.agg #[.slice e1 (za8 j.disk s).safe.length e2,.slice e3 (za8 j.disk s).wr.length e4]) W:=hp 15 (by decide)
   have pE:a.eval (.tmp 22)=.int .i64 (doneE j.disk s):=hp 13 (by decide)
   show wpOps Tryz.prog _ _ [16] a W
   rw[wpOps_cons]
   refine za0 (.int .i64 (doneE j.disk s)) rfl rfl (by revert pE;generalize a.eval=ρ;intro pE;simp only[execOp];go_simp) ?_
   have hsa:a.tmps.size=44:=hF.size.trans hsz
   obtain⟨a2,ha2⟩:∃a2,a2=a.put (some 4) (.int .i64 (doneE j.disk s)):=⟨_,rfl⟩
   have f4:a2.eval (.tmp 4)=.int .i64 (doneE j.disk s):=by rw[ha2];exact Act.eval_put_same _ _ _ (by rw[hsa];decide)
   have f0:a2.eval (.tmp 0)=.pointer (some ⟨B,0,none⟩):=by rw[ha2,Act.eval_put_ne _ _ _ _ (by decide)];exact(hF.other 0 rfl).trans v0
   have f2:a2.eval (.tmp 2)=.pointer (some ⟨w.heap.size,0,none⟩):=by rw[ha2,Act.eval_put_ne _ _ _ _ (by decide)];exact(hF.other 2 rfl).trans v2
   have f3:a2.eval (.tmp 3)=.pointer (some ⟨T,0,none⟩):=by rw[ha2,Act.eval_put_ne _ _ _ _ (by decide)];exact pT
   have hlit:a2=⟨#[_,_,_,_,_,_,_,_,_,_,_,_,_,_,_,_,_,_,_,_,_,_,_,_,_,_,_,_,_,_,_,_,_,_,_,_,_,_,_,_,_,_,_,_],[]⟩:=zcd a2 44 (by rw[ha2,Act.size_put];exact hsa) (by rw[ha2,Act.defers_put'];exact hF.defers.trans hdf)
   dsimp only at hlit
   rw[f0,f2,f3,f4] at hlit
   show KK (a.put (some 4) (.int .i64 (doneE j.disk s))) _
   rw[←ha2]
   exact(congrArg (fun x=>KK x _) hlit).mpr (HTAIL.o (fun k=>a2.eval (.tmp k)) _ T e1 e2 e3 e4 hT1 hTb ok hR)
structure Ready (j:Jn):Prop where
 done:j.done.length≤900
 found:j.fL.length≤maxLen
 next:IntKind.i64.wrap (j.fN - 1)=j.fN - 1
 seq:IntKind.i64.wrap (j.now.seq+1)=j.now.seq+1
 last:IntKind.i64.wrap (j.last+1)=j.last+1
 info:j.now.info.length*24≤140737488355328
 data:j.now.data.length*24≤140737488355328
 few:j.down=true→j.steps=[]→∀t∈fndL j.disk,Few t
 used0:0≤j.ru
 used1:j.ru≤24
 acts0:0≤j.acts
 acts1:j.acts≤400
def zm1 (B:Nat)(D:Nat)(j:Jn)(X:List Nat)(na:Option Addr)(nc:Nat)(nb:Option Addr)(nd:Nat)(ne:Option Addr)(nf:Nat)(ah:Int)(an:Int):Nat→Value→World→Prop
 |0,v,_=>v=.pointer (some ⟨B,0,none⟩)
 |1,v,_=>v=.pointer (some ⟨B,0,none⟩)
 |2,v,_=>v=.pointer (some ⟨B,0,none⟩)
 |3,v,_=>v=.pointer (some ⟨B,31,none⟩)
 |4,v,_=>v=.agg #[.int .i64 j.now.seq,.slice na j.now.info.length nc,.slice nb j.now.data.length nd,.slice ne j.now.rev.length nf,.bool j.now.h0.on,.int .i64 j.now.h0.left,.bool j.now.h1.on,.int .i64 j.now.h1.left,.bool j.now.h2.on,.int .i64 j.now.h2.left]
 |5,v,_=>v=.pointer (some ⟨D,1,none⟩)
 |6,v,_=>v=.int .i64 ah
 |7,v,_=>v=.pointer (some ⟨D,3,none⟩)
 |8,v,_=>v=.int .i64 an
 |9,v,_=>v=.pointer (some ⟨B,0,none⟩)
 |10,v,_=>v=.pointer (some ⟨B,0,none⟩)
 |11,v,_=>v=.pointer (some ⟨B,3,none⟩)
 |12,v,_=>v=.agg #[.int .i64 j.rh,.int .i64 j.ru]
 |13,v,_=>v=.int .i64 (24 - j.ru)
 |14,v,w=>∃v2,v=.tuple #[v2,.int .i64 (za4 j.now ah an (24 - j.ru))]∧okTx X (beginT j.now ah an (24 - j.ru)) v2 undef w
 |15,v,w=>okTx X (beginT j.now ah an (24 - j.ru)) v undef w
 |16,v,_=>v=.int .i64 (za4 j.now ah an (24 - j.ru))
 |_,_,_=>True
theorem zjr {B:Nat}{D:Nat}{j:Jn}{X:List Nat}{na:Option Addr}{nc:Nat}{nb:Option Addr}{nd:Nat}{ne:Option Addr}{nf:Nat}{ah:Int}{an:Int}{w w':World}(hb:Below w.heap.size w w'){i:Nat}:∀kk uu,kk≠i→zm1 B D j X na nc nb nd ne nf ah an kk uu w→zm1 B D j X na nc nb nd ne nf ah an kk uu w':=by
 intro kk uu _ h
 match kk,h with
 |0,h|1,h|2,h|3,h|4,h|5,h|6,h|7,h|8,h|9,h|10,h|11,h|12,h|13,h=>exact h
 |14,⟨v2,h1,h2⟩=>exact⟨v2,h1,h2.below hb⟩
 |15,h=>exact h.below hb
 |16,h=>exact h
 |_+17,_=>exact trivial
def zlk (B:Nat)(D:Nat)(j:Jn)(X:List Nat)(na:Option Addr)(nc:Nat)(nb:Option Addr)(nd:Nat)(ne:Option Addr)(nf:Nat)(ah:Int):Nat→Value→World→Prop
 |0,v,_=>v=.pointer (some ⟨B,0,none⟩)
 |1,v,_=>v=.pointer (some ⟨B,0,none⟩)
 |2,v,_=>v=.pointer (some ⟨B,0,none⟩)
 |3,v,_=>v=.pointer (some ⟨B,31,none⟩)
 |4,v,_=>v=.agg #[.int .i64 j.now.seq,.slice na j.now.info.length nc,.slice nb j.now.data.length nd,.slice ne j.now.rev.length nf,.bool j.now.h0.on,.int .i64 j.now.h0.left,.bool j.now.h1.on,.int .i64 j.now.h1.left,.bool j.now.h2.on,.int .i64 j.now.h2.left]
 |5,v,_=>v=.pointer (some ⟨D,1,none⟩)
 |6,v,_=>v=.int .i64 ah
 |7,v,w=>∃v2,v=.tuple #[v2,.int .i64 (zcw j.now ah)]∧okTx X (stopT j.now ah) v2 undef w
 |8,v,w=>okTx X (stopT j.now ah) v undef w
 |9,v,_=>v=.int .i64 (zcw j.now ah)
 |_,_,_=>True
theorem zog {B:Nat}{D:Nat}{j:Jn}{X:List Nat}{na:Option Addr}{nc:Nat}{nb:Option Addr}{nd:Nat}{ne:Option Addr}{nf:Nat}{ah:Int}{w w':World}(hb:Below w.heap.size w w'){i:Nat}:∀kk uu,kk≠i→zlk B D j X na nc nb nd ne nf ah kk uu w→zlk B D j X na nc nb nd ne nf ah kk uu w':=by
 intro kk uu _ h
 match kk,h with
 |0,h|1,h|2,h|3,h|4,h|5,h|6,h=>exact h
 |7,⟨v2,h1,h2⟩=>exact⟨v2,h1,h2.below hb⟩
 |8,h=>exact h.below hb
 |9,h=>exact h
 |_+10,_=>exact trivial
theorem zyz (B:Nat)(X:List Nat)(j:Jn)(w:World)(h:JAt w B X j)(hX:∀x∈X,x<w.heap.size)(hK:Ready j)(ah ab an:Int)(at0:ByteArray)(ht:at0.size≤maxLen):
  Calls Tryz.prog 24 #[.pointer (some ⟨B,0,none⟩),.agg #[.int .i64 1,.int .i64 ah,.int .i64 ab,.int .i64 an,.string at0]] w (zc4 w B X (zav j ⟨1,ah,ab,an,at0⟩)):=by
 have HJ:=zaa h
 have hlt:=h.lt
 have hBX:=h.1
 have HX:=zaa hX
 have HU0:=zaa hK.used0
 have HU1:=zaa hK.used1
 have HR1:=zaa hK.info
 have HR2:=zaa hK.data
 have HSQ:=zaa hK.seq
 have HLQ:=zaa hK.last
 have HTX:=zaa ht
 have HDN:Hid (j.done.length≤maxLen):=Nat.le_trans hK.done (by unfold maxLen;omega)
 clear h hX hK ht
 have hne:¬w.heap.size=B:=by omega
 have hne1:¬w.heap.size+1=B:=by omega
 have HE0:Hid (zav j ⟨1,ah,ab,an,at0⟩=zlt j (beginT j.now ah an (24 - j.ru)) (za4 j.now ah an (24 - j.ru))):=by rw[Hid,zav];simp[]
 obtain⟨P,hPP⟩:∃P,P=zlt j (beginT j.now ah an (24 - j.ru)) (za4 j.now ah an (24 - j.ru)):=⟨_,rfl⟩
 have HE:Hid (zav j ⟨1,ah,ab,an,at0⟩=(P.1,P.2)):=by rw[Hid,HE0.o,←hPP]
 have HPP:=zaa hPP
 clear hPP
 go_enter Tryz.func24,Tryz.ntmps24
 go_wp2
 obtain⟨W1,hW1⟩:∃W1,W1=(w.alloc (.cells #[.int .i64 1,.int .i64 ah,.int .i64 ab,.int .i64 an,.string at0] 24)).alloc (.cells #[.int .i64 0,.int .i64 0,.string ⟨#[]⟩] 31):=⟨_,rfl⟩
 have hz1:(w.alloc (.cells #[.int .i64 1,.int .i64 ah,.int .i64 ab,.int .i64 an,.string at0] 24)).heap.size=w.heap.size+1:=by simp
 have hbW:Below w.heap.size w W1:=by rw[hW1];exact zad (below1 _ _) (below1 _ _)
 have HJ1:Hid (JAt W1 B ((w.heap.size+1)::X) j):=HJ.o.more hbW (by omega)
 have HB1:Hid (ButL [B] w.heap.size w W1):=ButL.of_below hbW
 have KR:Hid (W1.heap[w.heap.size+1]?=some (.cells #[.int .i64 0,.int .i64 0,.string ⟨#[]⟩] 31 (0,0))):=by rw[hW1,←hz1];exact heap_alloc_new _ _
 have KA:Hid (W1.heap[w.heap.size]?=some (.cells #[.int .i64 1,.int .i64 ah,.int .i64 ab,.int .i64 an,.string at0] 24 (0,0))):=by rw[hW1];exact zac (below1 _ _) (by omega) (heap_alloc_new _ _)
 have hs1:W1.heap.size=w.heap.size+2:=by rw[hW1];simp
 have hrl:w.heap.size+1<W1.heap.size:=by omega
 have hrB:w.heap.size+1≠B:=by omega
 have HX2:Hid (∀x∈((w.heap.size+1)::X),x<W1.heap.size):=fun x hx=>by
  rcases List.mem_cons.1 hx with rfl|hx
  ·exact hrl
  ·have:=HX.o x hx;omega
 rw[←hW1]
 clear hW1 hz1
 rename_i KK hKK
 obtain⟨_,da,dc,db,dd,na,nc,nb,nd,ne,nf,sa,sc,sb,sd,se,sf,ca,cc,fa,fc,ta,tc,h1,hr⟩:=id HJ1.o
 have C3:Hid (W1.cell? ⟨B,3,none⟩=some (.int .i64 j.rh)):=zag h1 3
 have C4:Hid (W1.cell? ⟨B,4,none⟩=some (.int .i64 j.ru)):=zag h1 4
 have C31:Hid (W1.cell? ⟨B,31,none⟩=some (.int .i64 j.now.seq)):=zag h1 31
 have C32:Hid (W1.cell? ⟨B,32,none⟩=some (.slice na j.now.info.length nc)):=zag h1 32
 have C33:Hid (W1.cell? ⟨B,33,none⟩=some (.slice nb j.now.data.length nd)):=zag h1 33
 have C34:Hid (W1.cell? ⟨B,34,none⟩=some (.slice ne j.now.rev.length nf)):=zag h1 34
 have C35:Hid (W1.cell? ⟨B,35,none⟩=some (.bool j.now.h0.on)):=zag h1 35
 have C36:Hid (W1.cell? ⟨B,36,none⟩=some (.int .i64 j.now.h0.left)):=zag h1 36
 have C37:Hid (W1.cell? ⟨B,37,none⟩=some (.bool j.now.h1.on)):=zag h1 37
 have C38:Hid (W1.cell? ⟨B,38,none⟩=some (.int .i64 j.now.h1.left)):=zag h1 38
 have C39:Hid (W1.cell? ⟨B,39,none⟩=some (.bool j.now.h2.on)):=zag h1 39
 have C40:Hid (W1.cell? ⟨B,40,none⟩=some (.int .i64 j.now.h2.left)):=zag h1 40
 have HTN:Hid (IsTx (zao W1 ((w.heap.size+1)::X)) (.agg #[.int .i64 j.now.seq,.slice na j.now.info.length nc,.slice nb j.now.data.length nd,.slice ne j.now.rev.length nf,.bool j.now.h0.on,.int .i64 j.now.h0.left,.bool j.now.h1.on,.int .i64 j.now.h1.left,.bool j.now.h2.on,.int .i64 j.now.h2.left]) j.now):=hr.2.1
 have HRN:=zaa hr.2.2.2.2.2.2.1
 clear h1 hr
 obtain⟨⟨z0,z1,z2,z3,z4⟩,_⟩:=zhx KA.o
 have A1:=zaa z1
 have A3:=zaa z3
 clear z0 z1 z2 z3 z4
 have hBW:B<W1.heap.size:=by omega
 have hAW:w.heap.size<W1.heap.size:=by omega
 have TAIL:∀(g:Nat→Value) (W3 w5:World),zlt j (beginT j.now ah an (24 - j.ru)) (za4 j.now ah an (24 - j.ru))=P→W3=(((w5.setCell ⟨(w.heap.size+1),0,none⟩ (.int .i64 P.2.code)).setCell ⟨(w.heap.size+1),1,none⟩ (.int .i64 P.2.n)).setCell ⟨(w.heap.size+1),2,none⟩ (.string P.2.text))→w5.heap[w.heap.size+1]?=some (.cells #[.int .i64 0,.int .i64 0,.string ⟨#[]⟩] 31 (0,0))→JAt w5 B ((w.heap.size+1)::X) P.1→ButL [B] w.heap.size w w5→KK ⟨#[.pointer (some ⟨B,0,none⟩),g 1,g 2,.pointer (some ⟨w.heap.size,0,none⟩),.pointer (some ⟨w.heap.size+1,0,none⟩),g 5,g 6,g 7,g 8,g 9,g 10,g 11,g 12,g 13,g 14,g 15,g 16,g 17,g 18,g 19,g 20,g 21,g 22,g 23,g 24,g 25,g 26,g 27,g 28,g 29,g 30,g 31,g 32,g 33,g 34,g 35,g 36,g 37,g 38,g 39,g 40,g 41,g 42,g 43,g 44,g 45,g 46,g 47,g 48,g 49,g 50,g 51,g 52,g 53,g 54,g 55,g 56,g 57,g 58,g 59,g 60,g 61,g 62,g 63,g 64,g 65,g 66],[]⟩ W3:=by
  intro g W3 w5 _ hW KR5 hJ5 hB5
  apply hKK
  clear hKK
  have hX:=zff KR5 (.int .i64 P.2.code) (.int .i64 P.2.n) (.string P.2.text)
  rw[←hW] at hX
  obtain⟨⟨u0,u1,u2⟩,_⟩:=zbd hX
  have HW:=zaa hW
  clear hW hX
  go_wp2
  refine bodyPost_ret (v:=.agg #[.int .i64 P.2.code,.int .i64 P.2.n,.string P.2.text]) (by simp[results,Tryz.results24,go_sem,u0,u1,u2]) rfl ⟨by rw[HE.o];rfl,?_,?_⟩
  ·rw[HE.o,HW.o]
   exact zu6 hJ5 hrB hBX _ _ _
  ·rw[HW.o]
   exact((hB5.set (.inr (by omega)) 0 _).set (.inr (by omega)) 1 _).set (.inr (by omega)) 2 _
 have HTAIL:=zaa TAIL
 clear TAIL hKK
 refine(show∀A0:Act,A0=_→Code.wp Tryz.prog _ _ A0 _ from fun A0 hA0=>?_) _ rfl
 have hsz:A0.tmps.size=67:=by rw[hA0];rfl
 have hdf:A0.defers=[]:=by rw[hA0]
 have v0:A0.eval (.tmp 0)=.pointer (some ⟨B,0,none⟩):=by rw[hA0];rfl
 have v3:A0.eval (.tmp 3)=.pointer (some ⟨w.heap.size,0,none⟩):=by rw[hA0];rfl
 have v4:A0.eval (.tmp 4)=.pointer (some ⟨w.heap.size+1,0,none⟩):=by rw[hA0];rfl
 clear hA0
 refine za7 17 (fun w'=>Below W1.heap.size W1 w') [13,14,15,16,17,18,19,20,21,22,23,24,25,26,27,28,29] (zm1 B w.heap.size j ((w.heap.size+1)::X) na nc nb nd ne nf ah an) (by kernel_rfl) (by kernel_rfl) (by kernel_rfl) (by kernel_rfl) (by decide) ((Below.refl _ _).drew) ⟨?_,?_,?_,?_,?_,?_,?_,?_,?_,?_,?_,?_,?_,?_,?_,?_,?_,trivial⟩ ?_
 ·intro a w' hF hR hp
  have z0:=(hF.other 0 rfl).trans v0
  exact zah _ rfl rfl (by revert z0;generalize a.eval=ρ;intro z0;simp only[execOp];go_simp) hF hsz hR rfl
 ·intro a w' hF hR hp
  have z0:=(hF.other 0 rfl).trans v0
  exact zah _ rfl rfl (by revert z0;generalize a.eval=ρ;intro z0;simp only[execOp];go_simp) hF hsz hR rfl
 ·intro a w' hF hR hp
  have p14:a.eval (.tmp 14)=.pointer (some ⟨B,0,none⟩):=hp ⟨1,.data⟩ (by simp) rfl
  exact zah _ rfl rfl (by revert p14;generalize a.eval=ρ;intro p14;simp only[execOp];go_simp) hF hsz hR rfl
 ·intro a w' hF hR hp
  have p15:a.eval (.tmp 15)=.pointer (some ⟨B,0,none⟩):=hp ⟨2,.data⟩ (by simp) rfl
  exact zah _ rfl rfl (by revert p15;generalize a.eval=ρ;intro p15;simp only[execOp];go_simp) hF hsz hR rfl
 ·intro a w' hF hR hp
  have p16:a.eval (.tmp 16)=.pointer (some ⟨B,31,none⟩):=hp ⟨3,.data⟩ (by simp) rfl
  have c0:w'.cell? ⟨B,31,none⟩=some (.int .i64 j.now.seq):=zab hR hBW C31.o
  have c1:w'.cell? ⟨B,32,none⟩=some (.slice na j.now.info.length nc):=zab hR hBW C32.o
  have c2:w'.cell? ⟨B,33,none⟩=some (.slice nb j.now.data.length nd):=zab hR hBW C33.o
  have c3:w'.cell? ⟨B,34,none⟩=some (.slice ne j.now.rev.length nf):=zab hR hBW C34.o
  have c4:w'.cell? ⟨B,35,none⟩=some (.bool j.now.h0.on):=zab hR hBW C35.o
  have c5:w'.cell? ⟨B,36,none⟩=some (.int .i64 j.now.h0.left):=zab hR hBW C36.o
  have c6:w'.cell? ⟨B,37,none⟩=some (.bool j.now.h1.on):=zab hR hBW C37.o
  have c7:w'.cell? ⟨B,38,none⟩=some (.int .i64 j.now.h1.left):=zab hR hBW C38.o
  have c8:w'.cell? ⟨B,39,none⟩=some (.bool j.now.h2.on):=zab hR hBW C39.o
  have c9:w'.cell? ⟨B,40,none⟩=some (.int .i64 j.now.h2.left):=zab hR hBW C40.o
  exact zah _ rfl rfl (by revert p16;generalize a.eval=ρ;intro p16;simp only[execOp];go_simp) hF hsz hR rfl
 ·intro a w' hF hR hp
  have z3:=(hF.other 3 rfl).trans v3
  exact zah _ rfl rfl (by revert z3;generalize a.eval=ρ;intro z3;simp only[execOp];go_simp) hF hsz hR rfl
 ·intro a w' hF hR hp
  have p18:a.eval (.tmp 18)=.pointer (some ⟨w.heap.size,1,none⟩):=hp ⟨5,.data⟩ (by simp) rfl
  have c0:w'.cell? ⟨w.heap.size,1,none⟩=some (.int .i64 ah):=zab hR hAW A1.o
  exact zah _ rfl rfl (by revert p18;generalize a.eval=ρ;intro p18;simp only[execOp];go_simp) hF hsz hR rfl
 ·intro a w' hF hR hp
  have z3:=(hF.other 3 rfl).trans v3
  exact zah _ rfl rfl (by revert z3;generalize a.eval=ρ;intro z3;simp only[execOp];go_simp) hF hsz hR rfl
 ·intro a w' hF hR hp
  have p20:a.eval (.tmp 20)=.pointer (some ⟨w.heap.size,3,none⟩):=hp ⟨7,.data⟩ (by simp) rfl
  have c0:w'.cell? ⟨w.heap.size,3,none⟩=some (.int .i64 an):=zab hR hAW A3.o
  exact zah _ rfl rfl (by revert p20;generalize a.eval=ρ;intro p20;simp only[execOp];go_simp) hF hsz hR rfl
 ·intro a w' hF hR hp
  have z0:=(hF.other 0 rfl).trans v0
  exact zah _ rfl rfl (by revert z0;generalize a.eval=ρ;intro z0;simp only[execOp];go_simp) hF hsz hR rfl
 ·intro a w' hF hR hp
  have p22:a.eval (.tmp 22)=.pointer (some ⟨B,0,none⟩):=hp ⟨9,.data⟩ (by simp) rfl
  exact zah _ rfl rfl (by revert p22;generalize a.eval=ρ;intro p22;simp only[execOp];go_simp) hF hsz hR rfl
 ·intro a w' hF hR hp
  have p23:a.eval (.tmp 23)=.pointer (some ⟨B,0,none⟩):=hp ⟨10,.data⟩ (by simp) rfl
  exact zah _ rfl rfl (by revert p23;generalize a.eval=ρ;intro p23;simp only[execOp];go_simp) hF hsz hR rfl
 ·intro a w' hF hR hp
  have p24:a.eval (.tmp 24)=.pointer (some ⟨B,3,none⟩):=hp ⟨11,.data⟩ (by simp) rfl
  have c0:w'.cell? ⟨B,3,none⟩=some (.int .i64 j.rh):=zab hR hBW C3.o
  have c1:w'.cell? ⟨B,4,none⟩=some (.int .i64 j.ru):=zab hR hBW C4.o
  exact zah _ rfl rfl (by revert p24;generalize a.eval=ρ;intro p24;simp only[execOp];go_simp) hF hsz hR rfl
 ·intro a w' hF hR hp
  have p25:a.eval (.tmp 25)=.agg #[.int .i64 j.rh,.int .i64 j.ru]:=hp ⟨12,.data⟩ (by simp) rfl
  refine zbn 58 #[.agg #[.int .i64 j.rh,.int .i64 j.ru]] rfl rfl (by have pf:=Act.eval_func a 58;revert p25 pf;generalize a.eval=ρ;intro p25 pf;simp only[execOp];go_simp) _ (ringFree_any j.rh j.ru _ HU0.o HU1.o) ?_
  rintro e w2 ⟨rfl,hb2⟩
  refine⟨_,rfl,_,rfl,zad hR hb2,?_,zjr hb2⟩
  show zm1 _ _ _ _ _ _ _ _ _ _ _ _ _ ((a.put (some 26) _).eval (.tmp 26)) w2
  rw[zal hF hsz (by decide)]
  exact rfl
 ·intro a w' hF hR hp
  have p17:a.eval (.tmp 17)=.agg #[.int .i64 j.now.seq,.slice na j.now.info.length nc,.slice nb j.now.data.length nd,.slice ne j.now.rev.length nf,.bool j.now.h0.on,.int .i64 j.now.h0.left,.bool j.now.h1.on,.int .i64 j.now.h1.left,.bool j.now.h2.on,.int .i64 j.now.h2.left]:=hp ⟨4,.data⟩ (by simp) rfl
  have p19:a.eval (.tmp 19)=.int .i64 ah:=hp ⟨6,.data⟩ (by simp) rfl
  have p21:a.eval (.tmp 21)=.int .i64 an:=hp ⟨8,.data⟩ (by simp) rfl
  have p26:a.eval (.tmp 26)=.int .i64 (24 - j.ru):=hp ⟨13,.data⟩ (by simp) rfl
  refine zbn 57 #[.agg #[.int .i64 j.now.seq,.slice na j.now.info.length nc,.slice nb j.now.data.length nd,.slice ne j.now.rev.length nf,.bool j.now.h0.on,.int .i64 j.now.h0.left,.bool j.now.h1.on,.int .i64 j.now.h1.left,.bool j.now.h2.on,.int .i64 j.now.h2.left],.int .i64 ah,.int .i64 an,.int .i64 (24 - j.ru)] rfl rfl (by have pf:=Act.eval_func a 57;revert p17 p19 p21 p26 pf;generalize a.eval=ρ;intro p17 p19 p21 p26 pf;simp only[execOp];go_simp) _ (tBegin_room _ j.now ah an (24 - j.ru) _ ((HTN.o.ext (Ext.seenL W1 _)).below hR) HR1.o HR2.o) ?_
  rintro e w2 ⟨v2,rfl,hT2,hb2,hv2⟩
  refine⟨_,rfl,_,rfl,zad hR hb2,?_,zjr hb2⟩
  show zm1 _ _ _ _ _ _ _ _ _ _ _ _ _ ((a.put (some 27) _).eval (.tmp 27)) w2
  rw[zal hF hsz (by decide)]
  exact⟨v2,rfl,okTx.made HX2.o HTN.o HRN.o ⟨hR,.inl rfl⟩ hT2 hb2 hv2⟩
 ·intro a w' hF hR hp
  obtain⟨v2,pm,ok⟩:∃v2,a.eval (.tmp 27)=.tuple #[v2,.int .i64 (za4 j.now ah an (24 - j.ru))]∧okTx ((w.heap.size+1)::X) (beginT j.now ah an (24 - j.ru)) v2 undef w':=hp ⟨14,.data⟩ (by simp) rfl
  refine za0 (v2) rfl rfl (by revert pm;generalize a.eval=ρ;intro pm;simp only[execOp];go_simp) ⟨_,rfl,hR,?_,fun _ _ _ h=>h⟩
  show zm1 _ _ _ _ _ _ _ _ _ _ _ _ _ ((a.put (some 28) _).eval (.tmp 28)) w'
  rw[zal hF hsz (by decide)]
  exact ok
 ·intro a w' hF hR hp
  obtain⟨v2,pm,ok⟩:∃v2,a.eval (.tmp 27)=.tuple #[v2,.int .i64 (za4 j.now ah an (24 - j.ru))]∧okTx ((w.heap.size+1)::X) (beginT j.now ah an (24 - j.ru)) v2 undef w':=hp ⟨14,.data⟩ (by simp) rfl
  exact zah _ rfl rfl (by revert pm;generalize a.eval=ρ;intro pm;simp only[execOp];go_simp) hF hsz hR rfl
 ·intro a W hF hR hp
  have ok:okTx ((w.heap.size+1)::X) (beginT j.now ah an (24 - j.ru)) (a.eval (.tmp 28)) undef W:=hp 15 (by decide)
  have pE:a.eval (.tmp 29)=.int .i64 (za4 j.now ah an (24 - j.ru)):=hp 16 (by decide)
  have pB:a.eval (.tmp 13)=.pointer (some ⟨B,0,none⟩):=hp 0 (by decide)
  have hsa:a.tmps.size=67:=hF.size.trans hsz
  have hJW:=HJ1.o.below hR
  obtain⟨hIT,hRT,_⟩:=ok
  obtain⟨ua,uc,ub,ud,ue,uf,hv,_⟩:=id hIT
  rw[hv] at hIT hRT
  show wpOps Tryz.prog _ _ [17,18] a W
  rw[wpOps_cons]
  refine zbn 56 #[.pointer (some ⟨B,0,none⟩),.agg #[.int .i64 (beginT j.now ah an (24 - j.ru)).seq,.slice ua (beginT j.now ah an (24 - j.ru)).info.length uc,.slice ub (beginT j.now ah an (24 - j.ru)).data.length ud,.slice ue (beginT j.now ah an (24 - j.ru)).rev.length uf,.bool (beginT j.now ah an (24 - j.ru)).h0.on,.int .i64 (beginT j.now ah an (24 - j.ru)).h0.left,.bool (beginT j.now ah an (24 - j.ru)).h1.on,.int .i64 (beginT j.now ah an (24 - j.ru)).h1.left,.bool (beginT j.now ah an (24 - j.ru)).h2.on,.int .i64 (beginT j.now ah an (24 - j.ru)).h2.left],.int .i64 (za4 j.now ah an (24 - j.ru))] rfl rfl (by have pf:=Act.eval_func a 56;revert hv pE pB pf;generalize a.eval=ρ;intro hv pE pB pf;simp only[execOp];go_simp) _ (jrun_any B ((w.heap.size+1)::X) j W hJW (beginT j.now ah an (24 - j.ru)) ua uc ub ud ue uf hIT hRT (za4 j.now ah an (24 - j.ru))) ?_
  rintro e w5 ⟨rfl,hJ5,hB5⟩
  refine⟨_,rfl,?_⟩
  obtain⟨P0,hP⟩:∃P0,P0=zlt j (beginT j.now ah an (24 - j.ru)) (za4 j.now ah an (24 - j.ru)):=⟨_,rfl⟩
  rw[←hP] at hJ5⊢;have hPe:P=P0:=HPP.o.trans hP.symm;subst hPe
  obtain⟨b1,hb1⟩:∃b1,b1=a.put (some 30) (vRp P.2):=⟨_,rfl⟩
  have rr:b1.eval (.tmp 30)=.agg #[.int .i64 P.2.code,.int .i64 P.2.n,.string P.2.text]:=by rw[hb1];exact Act.eval_put_same _ _ _ (by rw[hsa];decide)
  have r4:b1.eval (.tmp 4)=.pointer (some ⟨w.heap.size+1,0,none⟩):=by rw[hb1,Act.eval_put_ne _ _ _ _ (by decide)];exact(hF.other 4 rfl).trans v4
  have r0:b1.eval (.tmp 0)=.pointer (some ⟨B,0,none⟩):=by rw[hb1,Act.eval_put_ne _ _ _ _ (by decide)];exact(hF.other 0 rfl).trans v0
  have r3:b1.eval (.tmp 3)=.pointer (some ⟨w.heap.size,0,none⟩):=by rw[hb1,Act.eval_put_ne _ _ _ _ (by decide)];exact(hF.other 3 rfl).trans v3
  have KR5:w5.heap[w.heap.size+1]?=some (.cells #[.int .i64 0,.int .i64 0,.string ⟨#[]⟩] 31 (0,0)):=(hB5.block _ (by have:=hR.size;omega) (by simpa using hrB)).trans (zac hR hrl KR.o)
  obtain⟨⟨y0,y1,y2⟩,yf⟩:=zbd KR5
  show wpOps Tryz.prog _ _ [18] (a.put (some 30) (vRp P.2)) w5
  rw[←hb1,wpOps_cons]
  refine zcg rfl rfl (w':=(((w5.setCell ⟨(w.heap.size+1),0,none⟩ (.int .i64 P.2.code)).setCell ⟨(w.heap.size+1),1,none⟩ (.int .i64 P.2.n)).setCell ⟨(w.heap.size+1),2,none⟩ (.string P.2.text))) (by revert rr r4;generalize b1.eval=ρ;intro rr r4;simp only[execOp];go_simp) ?_
  have hlit:b1=⟨#[_,_,_,_,_,_,_,_,_,_,_,_,_,_,_,_,_,_,_,_,_,_,_,_,_,_,_,_,_,_,_,_,_,_,_,_,_,_,_,_,_,_,_,_,_,_,_,_,_,_,_,_,_,_,_,_,_,_,_,_,_,_,_,_,_,_,_],[]⟩:=zcd b1 67 (by rw[hb1,Act.size_put];exact hsa) (by rw[hb1,Act.defers_put'];exact hF.defers.trans hdf)
  dsimp only at hlit
  rw[r0,r3,r4] at hlit
  show KK b1 _
  exact(congrArg (fun x=>KK x _) hlit).mpr (HTAIL.o (fun k=>b1.eval (.tmp k)) _ w5 hP.symm rfl KR5 hJ5 (HB1.o.trans (Y:=[B]) ((ButL.of_below hR).trans hB5 hR.size (by simp)) HB1.o.size (by simp)))
theorem zy0 (B:Nat)(X:List Nat)(j:Jn)(w:World)(h:JAt w B X j)(hX:∀x∈X,x<w.heap.size)(hK:Ready j)(ah ab an:Int)(at0:ByteArray)(ht:at0.size≤maxLen):
  Calls Tryz.prog 24 #[.pointer (some ⟨B,0,none⟩),.agg #[.int .i64 5,.int .i64 ah,.int .i64 ab,.int .i64 an,.string at0]] w (zc4 w B X (zav j ⟨5,ah,ab,an,at0⟩)):=by
 have HJ:=zaa h
 have hlt:=h.lt
 have hBX:=h.1
 have HX:=zaa hX
 have HU0:=zaa hK.used0
 have HU1:=zaa hK.used1
 have HR1:=zaa hK.info
 have HR2:=zaa hK.data
 have HSQ:=zaa hK.seq
 have HLQ:=zaa hK.last
 have HTX:=zaa ht
 have HDN:Hid (j.done.length≤maxLen):=Nat.le_trans hK.done (by unfold maxLen;omega)
 clear h hX hK ht
 have hne:¬w.heap.size=B:=by omega
 have hne1:¬w.heap.size+1=B:=by omega
 have HE0:Hid (zav j ⟨5,ah,ab,an,at0⟩=zlt j (stopT j.now ah) (zcw j.now ah)):=by rw[Hid,zav];simp[]
 obtain⟨P,hPP⟩:∃P,P=zlt j (stopT j.now ah) (zcw j.now ah):=⟨_,rfl⟩
 have HE:Hid (zav j ⟨5,ah,ab,an,at0⟩=(P.1,P.2)):=by rw[Hid,HE0.o,←hPP]
 have HPP:=zaa hPP
 clear hPP
 go_enter Tryz.func24,Tryz.ntmps24
 go_wp2
 obtain⟨W1,hW1⟩:∃W1,W1=(w.alloc (.cells #[.int .i64 5,.int .i64 ah,.int .i64 ab,.int .i64 an,.string at0] 24)).alloc (.cells #[.int .i64 0,.int .i64 0,.string ⟨#[]⟩] 31):=⟨_,rfl⟩
 have hz1:(w.alloc (.cells #[.int .i64 5,.int .i64 ah,.int .i64 ab,.int .i64 an,.string at0] 24)).heap.size=w.heap.size+1:=by simp
 have hbW:Below w.heap.size w W1:=by rw[hW1];exact zad (below1 _ _) (below1 _ _)
 have HJ1:Hid (JAt W1 B ((w.heap.size+1)::X) j):=HJ.o.more hbW (by omega)
 have HB1:Hid (ButL [B] w.heap.size w W1):=ButL.of_below hbW
 have KR:Hid (W1.heap[w.heap.size+1]?=some (.cells #[.int .i64 0,.int .i64 0,.string ⟨#[]⟩] 31 (0,0))):=by rw[hW1,←hz1];exact heap_alloc_new _ _
 have KA:Hid (W1.heap[w.heap.size]?=some (.cells #[.int .i64 5,.int .i64 ah,.int .i64 ab,.int .i64 an,.string at0] 24 (0,0))):=by rw[hW1];exact zac (below1 _ _) (by omega) (heap_alloc_new _ _)
 have hs1:W1.heap.size=w.heap.size+2:=by rw[hW1];simp
 have hrl:w.heap.size+1<W1.heap.size:=by omega
 have hrB:w.heap.size+1≠B:=by omega
 have HX2:Hid (∀x∈((w.heap.size+1)::X),x<W1.heap.size):=fun x hx=>by
  rcases List.mem_cons.1 hx with rfl|hx
  ·exact hrl
  ·have:=HX.o x hx;omega
 rw[←hW1]
 clear hW1 hz1
 rename_i KK hKK
 obtain⟨_,da,dc,db,dd,na,nc,nb,nd,ne,nf,sa,sc,sb,sd,se,sf,ca,cc,fa,fc,ta,tc,h1,hr⟩:=id HJ1.o
 have C31:Hid (W1.cell? ⟨B,31,none⟩=some (.int .i64 j.now.seq)):=zag h1 31
 have C32:Hid (W1.cell? ⟨B,32,none⟩=some (.slice na j.now.info.length nc)):=zag h1 32
 have C33:Hid (W1.cell? ⟨B,33,none⟩=some (.slice nb j.now.data.length nd)):=zag h1 33
 have C34:Hid (W1.cell? ⟨B,34,none⟩=some (.slice ne j.now.rev.length nf)):=zag h1 34
 have C35:Hid (W1.cell? ⟨B,35,none⟩=some (.bool j.now.h0.on)):=zag h1 35
 have C36:Hid (W1.cell? ⟨B,36,none⟩=some (.int .i64 j.now.h0.left)):=zag h1 36
 have C37:Hid (W1.cell? ⟨B,37,none⟩=some (.bool j.now.h1.on)):=zag h1 37
 have C38:Hid (W1.cell? ⟨B,38,none⟩=some (.int .i64 j.now.h1.left)):=zag h1 38
 have C39:Hid (W1.cell? ⟨B,39,none⟩=some (.bool j.now.h2.on)):=zag h1 39
 have C40:Hid (W1.cell? ⟨B,40,none⟩=some (.int .i64 j.now.h2.left)):=zag h1 40
 have HTN:Hid (IsTx (zao W1 ((w.heap.size+1)::X)) (.agg #[.int .i64 j.now.seq,.slice na j.now.info.length nc,.slice nb j.now.data.length nd,.slice ne j.now.rev.length nf,.bool j.now.h0.on,.int .i64 j.now.h0.left,.bool j.now.h1.on,.int .i64 j.now.h1.left,.bool j.now.h2.on,.int .i64 j.now.h2.left]) j.now):=hr.2.1
 have HRN:=zaa hr.2.2.2.2.2.2.1
 clear h1 hr
 obtain⟨⟨z0,z1,z2,z3,z4⟩,_⟩:=zhx KA.o
 have A1:=zaa z1
 clear z0 z1 z2 z3 z4
 have hBW:B<W1.heap.size:=by omega
 have hAW:w.heap.size<W1.heap.size:=by omega
 have TAIL:∀(g:Nat→Value) (W3 w5:World),zlt j (stopT j.now ah) (zcw j.now ah)=P→W3=(((w5.setCell ⟨(w.heap.size+1),0,none⟩ (.int .i64 P.2.code)).setCell ⟨(w.heap.size+1),1,none⟩ (.int .i64 P.2.n)).setCell ⟨(w.heap.size+1),2,none⟩ (.string P.2.text))→w5.heap[w.heap.size+1]?=some (.cells #[.int .i64 0,.int .i64 0,.string ⟨#[]⟩] 31 (0,0))→JAt w5 B ((w.heap.size+1)::X) P.1→ButL [B] w.heap.size w w5→KK ⟨#[.pointer (some ⟨B,0,none⟩),g 1,g 2,.pointer (some ⟨w.heap.size,0,none⟩),.pointer (some ⟨w.heap.size+1,0,none⟩),g 5,g 6,g 7,g 8,g 9,g 10,g 11,g 12,g 13,g 14,g 15,g 16,g 17,g 18,g 19,g 20,g 21,g 22,g 23,g 24,g 25,g 26,g 27,g 28,g 29,g 30,g 31,g 32,g 33,g 34,g 35,g 36,g 37,g 38,g 39,g 40,g 41,g 42,g 43,g 44,g 45,g 46,g 47,g 48,g 49,g 50,g 51,g 52,g 53,g 54,g 55,g 56,g 57,g 58,g 59,g 60,g 61,g 62,g 63,g 64,g 65,g 66],[]⟩ W3:=by
  intro g W3 w5 _ hW KR5 hJ5 hB5
  apply hKK
  clear hKK
  have hX:=zff KR5 (.int .i64 P.2.code) (.int .i64 P.2.n) (.string P.2.text)
  rw[←hW] at hX
  obtain⟨⟨u0,u1,u2⟩,_⟩:=zbd hX
  have HW:=zaa hW
  clear hW hX
  go_wp2
  refine bodyPost_ret (v:=.agg #[.int .i64 P.2.code,.int .i64 P.2.n,.string P.2.text]) (by simp[results,Tryz.results24,go_sem,u0,u1,u2]) rfl ⟨by rw[HE.o];rfl,?_,?_⟩
  ·rw[HE.o,HW.o]
   exact zu6 hJ5 hrB hBX _ _ _
  ·rw[HW.o]
   exact((hB5.set (.inr (by omega)) 0 _).set (.inr (by omega)) 1 _).set (.inr (by omega)) 2 _
 have HTAIL:=zaa TAIL
 clear TAIL hKK
 refine(show∀A0:Act,A0=_→Code.wp Tryz.prog _ _ A0 _ from fun A0 hA0=>?_) _ rfl
 have hsz:A0.tmps.size=67:=by rw[hA0];rfl
 have hdf:A0.defers=[]:=by rw[hA0]
 have v0:A0.eval (.tmp 0)=.pointer (some ⟨B,0,none⟩):=by rw[hA0];rfl
 have v3:A0.eval (.tmp 3)=.pointer (some ⟨w.heap.size,0,none⟩):=by rw[hA0];rfl
 have v4:A0.eval (.tmp 4)=.pointer (some ⟨w.heap.size+1,0,none⟩):=by rw[hA0];rfl
 clear hA0
 refine za7 10 (fun w'=>Below W1.heap.size W1 w') [33,34,35,36,37,38,39,40,41,42] (zlk B w.heap.size j ((w.heap.size+1)::X) na nc nb nd ne nf ah) (by kernel_rfl) (by kernel_rfl) (by kernel_rfl) (by kernel_rfl) (by decide) ((Below.refl _ _).drew) ⟨?_,?_,?_,?_,?_,?_,?_,?_,?_,?_,trivial⟩ ?_
 ·intro a w' hF hR hp
  have z0:=(hF.other 0 rfl).trans v0
  exact zah _ rfl rfl (by revert z0;generalize a.eval=ρ;intro z0;simp only[execOp];go_simp) hF hsz hR rfl
 ·intro a w' hF hR hp
  have z0:=(hF.other 0 rfl).trans v0
  exact zah _ rfl rfl (by revert z0;generalize a.eval=ρ;intro z0;simp only[execOp];go_simp) hF hsz hR rfl
 ·intro a w' hF hR hp
  have p34:a.eval (.tmp 34)=.pointer (some ⟨B,0,none⟩):=hp ⟨1,.data⟩ (by simp) rfl
  exact zah _ rfl rfl (by revert p34;generalize a.eval=ρ;intro p34;simp only[execOp];go_simp) hF hsz hR rfl
 ·intro a w' hF hR hp
  have p35:a.eval (.tmp 35)=.pointer (some ⟨B,0,none⟩):=hp ⟨2,.data⟩ (by simp) rfl
  exact zah _ rfl rfl (by revert p35;generalize a.eval=ρ;intro p35;simp only[execOp];go_simp) hF hsz hR rfl
 ·intro a w' hF hR hp
  have p36:a.eval (.tmp 36)=.pointer (some ⟨B,31,none⟩):=hp ⟨3,.data⟩ (by simp) rfl
  have c0:w'.cell? ⟨B,31,none⟩=some (.int .i64 j.now.seq):=zab hR hBW C31.o
  have c1:w'.cell? ⟨B,32,none⟩=some (.slice na j.now.info.length nc):=zab hR hBW C32.o
  have c2:w'.cell? ⟨B,33,none⟩=some (.slice nb j.now.data.length nd):=zab hR hBW C33.o
  have c3:w'.cell? ⟨B,34,none⟩=some (.slice ne j.now.rev.length nf):=zab hR hBW C34.o
  have c4:w'.cell? ⟨B,35,none⟩=some (.bool j.now.h0.on):=zab hR hBW C35.o
  have c5:w'.cell? ⟨B,36,none⟩=some (.int .i64 j.now.h0.left):=zab hR hBW C36.o
  have c6:w'.cell? ⟨B,37,none⟩=some (.bool j.now.h1.on):=zab hR hBW C37.o
  have c7:w'.cell? ⟨B,38,none⟩=some (.int .i64 j.now.h1.left):=zab hR hBW C38.o
  have c8:w'.cell? ⟨B,39,none⟩=some (.bool j.now.h2.on):=zab hR hBW C39.o
  have c9:w'.cell? ⟨B,40,none⟩=some (.int .i64 j.now.h2.left):=zab hR hBW C40.o
  exact zah _ rfl rfl (by revert p36;generalize a.eval=ρ;intro p36;simp only[execOp];go_simp) hF hsz hR rfl
 ·intro a w' hF hR hp
  have z3:=(hF.other 3 rfl).trans v3
  exact zah _ rfl rfl (by revert z3;generalize a.eval=ρ;intro z3;simp only[execOp];go_simp) hF hsz hR rfl
 ·intro a w' hF hR hp
  have p38:a.eval (.tmp 38)=.pointer (some ⟨w.heap.size,1,none⟩):=hp ⟨5,.data⟩ (by simp) rfl
  have c0:w'.cell? ⟨w.heap.size,1,none⟩=some (.int .i64 ah):=zab hR hAW A1.o
  exact zah _ rfl rfl (by revert p38;generalize a.eval=ρ;intro p38;simp only[execOp];go_simp) hF hsz hR rfl
 ·intro a w' hF hR hp
  have p37:a.eval (.tmp 37)=.agg #[.int .i64 j.now.seq,.slice na j.now.info.length nc,.slice nb j.now.data.length nd,.slice ne j.now.rev.length nf,.bool j.now.h0.on,.int .i64 j.now.h0.left,.bool j.now.h1.on,.int .i64 j.now.h1.left,.bool j.now.h2.on,.int .i64 j.now.h2.left]:=hp ⟨4,.data⟩ (by simp) rfl
  have p39:a.eval (.tmp 39)=.int .i64 ah:=hp ⟨6,.data⟩ (by simp) rfl
  refine zbn 59 #[.agg #[.int .i64 j.now.seq,.slice na j.now.info.length nc,.slice nb j.now.data.length nd,.slice ne j.now.rev.length nf,.bool j.now.h0.on,.int .i64 j.now.h0.left,.bool j.now.h1.on,.int .i64 j.now.h1.left,.bool j.now.h2.on,.int .i64 j.now.h2.left],.int .i64 ah] rfl rfl (by have pf:=Act.eval_func a 59;revert p37 p39 pf;generalize a.eval=ρ;intro p37 p39 pf;simp only[execOp];go_simp) _ (tStop_room _ j.now ah _ ((HTN.o.ext (Ext.seenL W1 _)).below hR) HR1.o HR2.o) ?_
  rintro e w2 ⟨v2,rfl,hT2,hb2,hv2⟩
  refine⟨_,rfl,_,rfl,zad hR hb2,?_,zog hb2⟩
  show zlk _ _ _ _ _ _ _ _ _ _ _ _ ((a.put (some 40) _).eval (.tmp 40)) w2
  rw[zal hF hsz (by decide)]
  exact⟨v2,rfl,okTx.made HX2.o HTN.o HRN.o ⟨hR,.inl rfl⟩ hT2 hb2 hv2⟩
 ·intro a w' hF hR hp
  obtain⟨v2,pm,ok⟩:∃v2,a.eval (.tmp 40)=.tuple #[v2,.int .i64 (zcw j.now ah)]∧okTx ((w.heap.size+1)::X) (stopT j.now ah) v2 undef w':=hp ⟨7,.data⟩ (by simp) rfl
  refine za0 (v2) rfl rfl (by revert pm;generalize a.eval=ρ;intro pm;simp only[execOp];go_simp) ⟨_,rfl,hR,?_,fun _ _ _ h=>h⟩
  show zlk _ _ _ _ _ _ _ _ _ _ _ _ ((a.put (some 41) _).eval (.tmp 41)) w'
  rw[zal hF hsz (by decide)]
  exact ok
 ·intro a w' hF hR hp
  obtain⟨v2,pm,ok⟩:∃v2,a.eval (.tmp 40)=.tuple #[v2,.int .i64 (zcw j.now ah)]∧okTx ((w.heap.size+1)::X) (stopT j.now ah) v2 undef w':=hp ⟨7,.data⟩ (by simp) rfl
  exact zah _ rfl rfl (by revert pm;generalize a.eval=ρ;intro pm;simp only[execOp];go_simp) hF hsz hR rfl
 ·intro a W hF hR hp
  have ok:okTx ((w.heap.size+1)::X) (stopT j.now ah) (a.eval (.tmp 41)) undef W:=hp 8 (by decide)
  have pE:a.eval (.tmp 42)=.int .i64 (zcw j.now ah):=hp 9 (by decide)
  have pB:a.eval (.tmp 33)=.pointer (some ⟨B,0,none⟩):=hp 0 (by decide)
  have hsa:a.tmps.size=67:=hF.size.trans hsz
  have hJW:=HJ1.o.below hR
  obtain⟨hIT,hRT,_⟩:=ok
  obtain⟨ua,uc,ub,ud,ue,uf,hv,_⟩:=id hIT
  rw[hv] at hIT hRT
  show wpOps Tryz.prog _ _ [10,11] a W
  rw[wpOps_cons]
  refine zbn 56 #[.pointer (some ⟨B,0,none⟩),.agg #[.int .i64 (stopT j.now ah).seq,.slice ua (stopT j.now ah).info.length uc,.slice ub (stopT j.now ah).data.length ud,.slice ue (stopT j.now ah).rev.length uf,.bool (stopT j.now ah).h0.on,.int .i64 (stopT j.now ah).h0.left,.bool (stopT j.now ah).h1.on,.int .i64 (stopT j.now ah).h1.left,.bool (stopT j.now ah).h2.on,.int .i64 (stopT j.now ah).h2.left],.int .i64 (zcw j.now ah)] rfl rfl (by have pf:=Act.eval_func a 56;revert hv pE pB pf;generalize a.eval=ρ;intro hv pE pB pf;simp only[execOp];go_simp) _ (jrun_any B ((w.heap.size+1)::X) j W hJW (stopT j.now ah) ua uc ub ud ue uf hIT hRT (zcw j.now ah)) ?_
  rintro e w5 ⟨rfl,hJ5,hB5⟩
  refine⟨_,rfl,?_⟩
  obtain⟨P0,hP⟩:∃P0,P0=zlt j (stopT j.now ah) (zcw j.now ah):=⟨_,rfl⟩
  rw[←hP] at hJ5⊢;have hPe:P=P0:=HPP.o.trans hP.symm;subst hPe
  obtain⟨b1,hb1⟩:∃b1,b1=a.put (some 43) (vRp P.2):=⟨_,rfl⟩
  have rr:b1.eval (.tmp 43)=.agg #[.int .i64 P.2.code,.int .i64 P.2.n,.string P.2.text]:=by rw[hb1];exact Act.eval_put_same _ _ _ (by rw[hsa];decide)
  have r4:b1.eval (.tmp 4)=.pointer (some ⟨w.heap.size+1,0,none⟩):=by rw[hb1,Act.eval_put_ne _ _ _ _ (by decide)];exact(hF.other 4 rfl).trans v4
  have r0:b1.eval (.tmp 0)=.pointer (some ⟨B,0,none⟩):=by rw[hb1,Act.eval_put_ne _ _ _ _ (by decide)];exact(hF.other 0 rfl).trans v0
  have r3:b1.eval (.tmp 3)=.pointer (some ⟨w.heap.size,0,none⟩):=by rw[hb1,Act.eval_put_ne _ _ _ _ (by decide)];exact(hF.other 3 rfl).trans v3
  have KR5:w5.heap[w.heap.size+1]?=some (.cells #[.int .i64 0,.int .i64 0,.string ⟨#[]⟩] 31 (0,0)):=(hB5.block _ (by have:=hR.size;omega) (by simpa using hrB)).trans (zac hR hrl KR.o)
  obtain⟨⟨y0,y1,y2⟩,yf⟩:=zbd KR5
  show wpOps Tryz.prog _ _ [11] (a.put (some 43) (vRp P.2)) w5
  rw[←hb1,wpOps_cons]
  refine zcg rfl rfl (w':=(((w5.setCell ⟨(w.heap.size+1),0,none⟩ (.int .i64 P.2.code)).setCell ⟨(w.heap.size+1),1,none⟩ (.int .i64 P.2.n)).setCell ⟨(w.heap.size+1),2,none⟩ (.string P.2.text))) (by revert rr r4;generalize b1.eval=ρ;intro rr r4;simp only[execOp];go_simp) ?_
  have hlit:b1=⟨#[_,_,_,_,_,_,_,_,_,_,_,_,_,_,_,_,_,_,_,_,_,_,_,_,_,_,_,_,_,_,_,_,_,_,_,_,_,_,_,_,_,_,_,_,_,_,_,_,_,_,_,_,_,_,_,_,_,_,_,_,_,_,_,_,_,_,_],[]⟩:=zcd b1 67 (by rw[hb1,Act.size_put];exact hsa) (by rw[hb1,Act.defers_put'];exact hF.defers.trans hdf)
  dsimp only at hlit
  rw[r0,r3,r4] at hlit
  show KK b1 _
  exact(congrArg (fun x=>KK x _) hlit).mpr (HTAIL.o (fun k=>b1.eval (.tmp k)) _ w5 hP.symm rfl KR5 hJ5 (HB1.o.trans (Y:=[B]) ((ButL.of_below hR).trans hB5 hR.size (by simp)) HB1.o.size (by simp)))
theorem zy1 (B:Nat)(X:List Nat)(j:Jn)(w:World)(h:JAt w B X j)(hX:∀x∈X,x<w.heap.size)(hK:Ready j)(ah ab an:Int)(at0:ByteArray)(ht:at0.size≤maxLen):
  Calls Tryz.prog 24 #[.pointer (some ⟨B,0,none⟩),.agg #[.int .i64 2,.int .i64 ah,.int .i64 ab,.int .i64 an,.string at0]] w (zc4 w B X (zav j ⟨2,ah,ab,an,at0⟩)):=by
 have HJ:=zaa h
 have hlt:=h.lt
 have hBX:=h.1
 have HX:=zaa hX
 have HU0:=zaa hK.used0
 have HU1:=zaa hK.used1
 have HR1:=zaa hK.info
 have HR2:=zaa hK.data
 have HSQ:=zaa hK.seq
 have HLQ:=zaa hK.last
 have HTX:=zaa ht
 have HDN:Hid (j.done.length≤maxLen):=Nat.le_trans hK.done (by unfold maxLen;omega)
 clear h hX hK ht
 have hne:¬w.heap.size=B:=by omega
 have hne1:¬w.heap.size+1=B:=by omega
 have HE:Hid (zav j ⟨2,ah,ab,an,at0⟩=zgd j ⟨2,ah,ab,an,at0⟩):=by rw[Hid,zav];simp[]
 go_enter Tryz.func24,Tryz.ntmps24
 go_wp2_with fail
 obtain⟨W1,hW1⟩:∃W1,W1=(w.alloc (.cells #[.int .i64 2,.int .i64 ah,.int .i64 ab,.int .i64 an,.string at0] 24)).alloc (.cells #[.int .i64 0,.int .i64 0,.string ⟨#[]⟩] 31):=⟨_,rfl⟩
 have hz1:(w.alloc (.cells #[.int .i64 2,.int .i64 ah,.int .i64 ab,.int .i64 an,.string at0] 24)).heap.size=w.heap.size+1:=by simp
 have hbW:Below w.heap.size w W1:=by rw[hW1];exact zad (below1 _ _) (below1 _ _)
 have HJ1:Hid (JAt W1 B ((w.heap.size+1)::X) j):=HJ.o.more hbW (by omega)
 have HB1:Hid (ButL [B] w.heap.size w W1):=ButL.of_below hbW
 have KR:Hid (W1.heap[w.heap.size+1]?=some (.cells #[.int .i64 0,.int .i64 0,.string ⟨#[]⟩] 31 (0,0))):=by rw[hW1,←hz1];exact heap_alloc_new _ _
 have KA:Hid (W1.heap[w.heap.size]?=some (.cells #[.int .i64 2,.int .i64 ah,.int .i64 ab,.int .i64 an,.string at0] 24 (0,0))):=by rw[hW1];exact zac (below1 _ _) (by omega) (heap_alloc_new _ _)
 have hs1:W1.heap.size=w.heap.size+2:=by rw[hW1];simp
 have hrl:w.heap.size+1<W1.heap.size:=by omega
 have hrB:w.heap.size+1≠B:=by omega
 have HX2:Hid (∀x∈((w.heap.size+1)::X),x<W1.heap.size):=fun x hx=>by
  rcases List.mem_cons.1 hx with rfl|hx
  ·exact hrl
  ·have:=HX.o x hx;omega
 rw[←hW1]
 clear hW1 hz1
 refine(zv0 B ((w.heap.size+1)::X) j W1 HJ1.o HX2.o ⟨2,ah,ab,an,at0⟩ HTX.o HR1.o HR2.o).mono ?_
 rintro e w2 ⟨rfl,hJ2,hB2⟩
 have KR2:Hid (w2.heap[w.heap.size+1]?=some (.cells #[.int .i64 0,.int .i64 0,.string ⟨#[]⟩] 31 (0,0))):=(hB2.block _ (by omega) (by simpa using hrB)).trans KR.o
 have HJ2:=zaa hJ2
 have HB2:Hid (ButL [B] w.heap.size w w2):=HB1.o.trans hB2 HB1.o.size (by simp)
 have hs2:W1.heap.size≤w2.heap.size:=hB2.size
 clear hJ2 hB2
 obtain⟨P,hP⟩:∃P,P=zgd j ⟨2,ah,ab,an,at0⟩:=⟨_,rfl⟩
 rw[←hP] at HE HJ2⊢
 have HE3:Hid (zav j ⟨2,ah,ab,an,at0⟩=(P.1,⟨P.2.code,P.2.n,P.2.text⟩)):=HE.o
 rw[show vRp P.2=.agg #[.int .i64 P.2.code,.int .i64 P.2.n,.string P.2.text] from rfl]
 clear hP HE
 obtain⟨⟨y0,y1,y2⟩,yf⟩:=zbd KR2.o
 go_wp2
 exact za5 HE3.o KR2.o HJ2.o HB2.o hrB hBX fun W u0 u1 u2=>by simp[results,Tryz.results24,go_sem,u0,u1,u2]
theorem zy2 (B:Nat)(X:List Nat)(j:Jn)(w:World)(h:JAt w B X j)(hX:∀x∈X,x<w.heap.size)(hK:Ready j)(ah ab an:Int)(at0:ByteArray)(ht:at0.size≤maxLen):
  Calls Tryz.prog 24 #[.pointer (some ⟨B,0,none⟩),.agg #[.int .i64 3,.int .i64 ah,.int .i64 ab,.int .i64 an,.string at0]] w (zc4 w B X (zav j ⟨3,ah,ab,an,at0⟩)):=by
 have HJ:=zaa h
 have hlt:=h.lt
 have hBX:=h.1
 have HX:=zaa hX
 have HU0:=zaa hK.used0
 have HU1:=zaa hK.used1
 have HR1:=zaa hK.info
 have HR2:=zaa hK.data
 have HSQ:=zaa hK.seq
 have HLQ:=zaa hK.last
 have HTX:=zaa ht
 have HDN:Hid (j.done.length≤maxLen):=Nat.le_trans hK.done (by unfold maxLen;omega)
 clear h hX hK ht
 have hne:¬w.heap.size=B:=by omega
 have hne1:¬w.heap.size+1=B:=by omega
 have HE:Hid (zav j ⟨3,ah,ab,an,at0⟩=zi1 j ⟨3,ah,ab,an,at0⟩):=by rw[Hid,zav];simp[]
 go_enter Tryz.func24,Tryz.ntmps24
 go_wp2_with fail
 obtain⟨W1,hW1⟩:∃W1,W1=(w.alloc (.cells #[.int .i64 3,.int .i64 ah,.int .i64 ab,.int .i64 an,.string at0] 24)).alloc (.cells #[.int .i64 0,.int .i64 0,.string ⟨#[]⟩] 31):=⟨_,rfl⟩
 have hz1:(w.alloc (.cells #[.int .i64 3,.int .i64 ah,.int .i64 ab,.int .i64 an,.string at0] 24)).heap.size=w.heap.size+1:=by simp
 have hbW:Below w.heap.size w W1:=by rw[hW1];exact zad (below1 _ _) (below1 _ _)
 have HJ1:Hid (JAt W1 B ((w.heap.size+1)::X) j):=HJ.o.more hbW (by omega)
 have HB1:Hid (ButL [B] w.heap.size w W1):=ButL.of_below hbW
 have KR:Hid (W1.heap[w.heap.size+1]?=some (.cells #[.int .i64 0,.int .i64 0,.string ⟨#[]⟩] 31 (0,0))):=by rw[hW1,←hz1];exact heap_alloc_new _ _
 have KA:Hid (W1.heap[w.heap.size]?=some (.cells #[.int .i64 3,.int .i64 ah,.int .i64 ab,.int .i64 an,.string at0] 24 (0,0))):=by rw[hW1];exact zac (below1 _ _) (by omega) (heap_alloc_new _ _)
 have hs1:W1.heap.size=w.heap.size+2:=by rw[hW1];simp
 have hrl:w.heap.size+1<W1.heap.size:=by omega
 have hrB:w.heap.size+1≠B:=by omega
 have HX2:Hid (∀x∈((w.heap.size+1)::X),x<W1.heap.size):=fun x hx=>by
  rcases List.mem_cons.1 hx with rfl|hx
  ·exact hrl
  ·have:=HX.o x hx;omega
 rw[←hW1]
 clear hW1 hz1
 refine(zyu B ((w.heap.size+1)::X) j W1 HJ1.o HX2.o ⟨3,ah,ab,an,at0⟩ HTX.o HR1.o HR2.o).mono ?_
 rintro e w2 ⟨rfl,hJ2,hB2⟩
 have KR2:Hid (w2.heap[w.heap.size+1]?=some (.cells #[.int .i64 0,.int .i64 0,.string ⟨#[]⟩] 31 (0,0))):=(hB2.block _ (by omega) (by simpa using hrB)).trans KR.o
 have HJ2:=zaa hJ2
 have HB2:Hid (ButL [B] w.heap.size w w2):=HB1.o.trans hB2 HB1.o.size (by simp)
 have hs2:W1.heap.size≤w2.heap.size:=hB2.size
 clear hJ2 hB2
 obtain⟨P,hP⟩:∃P,P=zi1 j ⟨3,ah,ab,an,at0⟩:=⟨_,rfl⟩
 rw[←hP] at HE HJ2⊢
 have HE3:Hid (zav j ⟨3,ah,ab,an,at0⟩=(P.1,⟨P.2.code,P.2.n,P.2.text⟩)):=HE.o
 rw[show vRp P.2=.agg #[.int .i64 P.2.code,.int .i64 P.2.n,.string P.2.text] from rfl]
 clear hP HE
 obtain⟨⟨y0,y1,y2⟩,yf⟩:=zbd KR2.o
 go_wp2
 exact za5 HE3.o KR2.o HJ2.o HB2.o hrB hBX fun W u0 u1 u2=>by simp[results,Tryz.results24,go_sem,u0,u1,u2]
theorem zy3 (B:Nat)(X:List Nat)(j:Jn)(w:World)(h:JAt w B X j)(hX:∀x∈X,x<w.heap.size)(hK:Ready j)(ah ab an:Int)(at0:ByteArray)(ht:at0.size≤maxLen):
  Calls Tryz.prog 24 #[.pointer (some ⟨B,0,none⟩),.agg #[.int .i64 4,.int .i64 ah,.int .i64 ab,.int .i64 an,.string at0]] w (zc4 w B X (zav j ⟨4,ah,ab,an,at0⟩)):=by
 have HJ:=zaa h
 have hlt:=h.lt
 have hBX:=h.1
 have HX:=zaa hX
 have HU0:=zaa hK.used0
 have HU1:=zaa hK.used1
 have HR1:=zaa hK.info
 have HR2:=zaa hK.data
 have HSQ:=zaa hK.seq
 have HLQ:=zaa hK.last
 have HTX:=zaa ht
 have HDN:Hid (j.done.length≤maxLen):=Nat.le_trans hK.done (by unfold maxLen;omega)
 clear h hX hK ht
 have hne:¬w.heap.size=B:=by omega
 have hne1:¬w.heap.size+1=B:=by omega
 have HE:Hid (zav j ⟨4,ah,ab,an,at0⟩=zec j ⟨4,ah,ab,an,at0⟩):=by rw[Hid,zav];simp[]
 go_enter Tryz.func24,Tryz.ntmps24
 go_wp2_with fail
 obtain⟨W1,hW1⟩:∃W1,W1=(w.alloc (.cells #[.int .i64 4,.int .i64 ah,.int .i64 ab,.int .i64 an,.string at0] 24)).alloc (.cells #[.int .i64 0,.int .i64 0,.string ⟨#[]⟩] 31):=⟨_,rfl⟩
 have hz1:(w.alloc (.cells #[.int .i64 4,.int .i64 ah,.int .i64 ab,.int .i64 an,.string at0] 24)).heap.size=w.heap.size+1:=by simp
 have hbW:Below w.heap.size w W1:=by rw[hW1];exact zad (below1 _ _) (below1 _ _)
 have HJ1:Hid (JAt W1 B ((w.heap.size+1)::X) j):=HJ.o.more hbW (by omega)
 have HB1:Hid (ButL [B] w.heap.size w W1):=ButL.of_below hbW
 have KR:Hid (W1.heap[w.heap.size+1]?=some (.cells #[.int .i64 0,.int .i64 0,.string ⟨#[]⟩] 31 (0,0))):=by rw[hW1,←hz1];exact heap_alloc_new _ _
 have KA:Hid (W1.heap[w.heap.size]?=some (.cells #[.int .i64 4,.int .i64 ah,.int .i64 ab,.int .i64 an,.string at0] 24 (0,0))):=by rw[hW1];exact zac (below1 _ _) (by omega) (heap_alloc_new _ _)
 have hs1:W1.heap.size=w.heap.size+2:=by rw[hW1];simp
 have hrl:w.heap.size+1<W1.heap.size:=by omega
 have hrB:w.heap.size+1≠B:=by omega
 have HX2:Hid (∀x∈((w.heap.size+1)::X),x<W1.heap.size):=fun x hx=>by
  rcases List.mem_cons.1 hx with rfl|hx
  ·exact hrl
  ·have:=HX.o x hx;omega
 rw[←hW1]
 clear hW1 hz1
 refine(zst B ((w.heap.size+1)::X) j W1 HJ1.o HX2.o ⟨4,ah,ab,an,at0⟩ HR1.o HR2.o).mono ?_
 rintro e w2 ⟨rfl,hJ2,hB2⟩
 have KR2:Hid (w2.heap[w.heap.size+1]?=some (.cells #[.int .i64 0,.int .i64 0,.string ⟨#[]⟩] 31 (0,0))):=(hB2.block _ (by omega) (by simpa using hrB)).trans KR.o
 have HJ2:=zaa hJ2
 have HB2:Hid (ButL [B] w.heap.size w w2):=HB1.o.trans hB2 HB1.o.size (by simp)
 have hs2:W1.heap.size≤w2.heap.size:=hB2.size
 clear hJ2 hB2
 obtain⟨P,hP⟩:∃P,P=zec j ⟨4,ah,ab,an,at0⟩:=⟨_,rfl⟩
 rw[←hP] at HE HJ2⊢
 have HE3:Hid (zav j ⟨4,ah,ab,an,at0⟩=(P.1,⟨P.2.code,P.2.n,P.2.text⟩)):=HE.o
 rw[show vRp P.2=.agg #[.int .i64 P.2.code,.int .i64 P.2.n,.string P.2.text] from rfl]
 clear hP HE
 obtain⟨⟨y0,y1,y2⟩,yf⟩:=zbd KR2.o
 go_wp2
 exact za5 HE3.o KR2.o HJ2.o HB2.o hrB hBX fun W u0 u1 u2=>by simp[results,Tryz.results24,go_sem,u0,u1,u2]
theorem zy4 (B:Nat)(X:List Nat)(j:Jn)(w:World)(h:JAt w B X j)(hX:∀x∈X,x<w.heap.size)(hK:Ready j)(ah ab an:Int)(at0:ByteArray)(ht:at0.size≤maxLen):
  Calls Tryz.prog 24 #[.pointer (some ⟨B,0,none⟩),.agg #[.int .i64 6,.int .i64 ah,.int .i64 ab,.int .i64 an,.string at0]] w (zc4 w B X (zav j ⟨6,ah,ab,an,at0⟩)):=by
 have HJ:=zaa h
 have hlt:=h.lt
 have hBX:=h.1
 have HX:=zaa hX
 have HU0:=zaa hK.used0
 have HU1:=zaa hK.used1
 have HR1:=zaa hK.info
 have HR2:=zaa hK.data
 have HSQ:=zaa hK.seq
 have HLQ:=zaa hK.last
 have HTX:=zaa ht
 have HDN:Hid (j.done.length≤maxLen):=Nat.le_trans hK.done (by unfold maxLen;omega)
 clear h hX hK ht
 have hne:¬w.heap.size=B:=by omega
 have hne1:¬w.heap.size+1=B:=by omega
 have HE:Hid (zav j ⟨6,ah,ab,an,at0⟩=zcj j):=by rw[Hid,zav];simp[]
 go_enter Tryz.func24,Tryz.ntmps24
 go_wp2_with fail
 obtain⟨W1,hW1⟩:∃W1,W1=(w.alloc (.cells #[.int .i64 6,.int .i64 ah,.int .i64 ab,.int .i64 an,.string at0] 24)).alloc (.cells #[.int .i64 0,.int .i64 0,.string ⟨#[]⟩] 31):=⟨_,rfl⟩
 have hz1:(w.alloc (.cells #[.int .i64 6,.int .i64 ah,.int .i64 ab,.int .i64 an,.string at0] 24)).heap.size=w.heap.size+1:=by simp
 have hbW:Below w.heap.size w W1:=by rw[hW1];exact zad (below1 _ _) (below1 _ _)
 have HJ1:Hid (JAt W1 B ((w.heap.size+1)::X) j):=HJ.o.more hbW (by omega)
 have HB1:Hid (ButL [B] w.heap.size w W1):=ButL.of_below hbW
 have KR:Hid (W1.heap[w.heap.size+1]?=some (.cells #[.int .i64 0,.int .i64 0,.string ⟨#[]⟩] 31 (0,0))):=by rw[hW1,←hz1];exact heap_alloc_new _ _
 have KA:Hid (W1.heap[w.heap.size]?=some (.cells #[.int .i64 6,.int .i64 ah,.int .i64 ab,.int .i64 an,.string at0] 24 (0,0))):=by rw[hW1];exact zac (below1 _ _) (by omega) (heap_alloc_new _ _)
 have hs1:W1.heap.size=w.heap.size+2:=by rw[hW1];simp
 have hrl:w.heap.size+1<W1.heap.size:=by omega
 have hrB:w.heap.size+1≠B:=by omega
 have HX2:Hid (∀x∈((w.heap.size+1)::X),x<W1.heap.size):=fun x hx=>by
  rcases List.mem_cons.1 hx with rfl|hx
  ·exact hrl
  ·have:=HX.o x hx;omega
 rw[←hW1]
 clear hW1 hz1
 refine(zsl B ((w.heap.size+1)::X) j W1 HJ1.o HX2.o HR1.o HR2.o HSQ.o).mono ?_
 rintro e w2 ⟨rfl,hJ2,hB2⟩
 have KR2:Hid (w2.heap[w.heap.size+1]?=some (.cells #[.int .i64 0,.int .i64 0,.string ⟨#[]⟩] 31 (0,0))):=(hB2.block _ (by omega) (by simpa using hrB)).trans KR.o
 have HJ2:=zaa hJ2
 have HB2:Hid (ButL [B] w.heap.size w w2):=HB1.o.trans hB2 HB1.o.size (by simp)
 have hs2:W1.heap.size≤w2.heap.size:=hB2.size
 clear hJ2 hB2
 obtain⟨P,hP⟩:∃P,P=zcj j:=⟨_,rfl⟩
 rw[←hP] at HE HJ2⊢
 have HE3:Hid (zav j ⟨6,ah,ab,an,at0⟩=(P.1,⟨P.2.code,P.2.n,P.2.text⟩)):=HE.o
 rw[show vRp P.2=.agg #[.int .i64 P.2.code,.int .i64 P.2.n,.string P.2.text] from rfl]
 clear hP HE
 obtain⟨⟨y0,y1,y2⟩,yf⟩:=zbd KR2.o
 go_wp2
 exact za5 HE3.o KR2.o HJ2.o HB2.o hrB hBX fun W u0 u1 u2=>by simp[results,Tryz.results24,go_sem,u0,u1,u2]
theorem zy5 (B:Nat)(X:List Nat)(j:Jn)(w:World)(h:JAt w B X j)(hX:∀x∈X,x<w.heap.size)(hK:Ready j)(ah ab an:Int)(at0:ByteArray)(ht:at0.size≤maxLen):
  Calls Tryz.prog 24 #[.pointer (some ⟨B,0,none⟩),.agg #[.int .i64 7,.int .i64 ah,.int .i64 ab,.int .i64 an,.string at0]] w (zc4 w B X (zav j ⟨7,ah,ab,an,at0⟩)):=by
 have HJ:=zaa h
 have hlt:=h.lt
 have hBX:=h.1
 have HX:=zaa hX
 have HU0:=zaa hK.used0
 have HU1:=zaa hK.used1
 have HR1:=zaa hK.info
 have HR2:=zaa hK.data
 have HSQ:=zaa hK.seq
 have HLQ:=zaa hK.last
 have HTX:=zaa ht
 have HDN:Hid (j.done.length≤maxLen):=Nat.le_trans hK.done (by unfold maxLen;omega)
 clear h hX hK ht
 have hne:¬w.heap.size=B:=by omega
 have hne1:¬w.heap.size+1=B:=by omega
 have HE:Hid (zav j ⟨7,ah,ab,an,at0⟩=zge j):=by rw[Hid,zav];simp[]
 go_enter Tryz.func24,Tryz.ntmps24
 go_wp2_with fail
 obtain⟨W1,hW1⟩:∃W1,W1=(w.alloc (.cells #[.int .i64 7,.int .i64 ah,.int .i64 ab,.int .i64 an,.string at0] 24)).alloc (.cells #[.int .i64 0,.int .i64 0,.string ⟨#[]⟩] 31):=⟨_,rfl⟩
 have hz1:(w.alloc (.cells #[.int .i64 7,.int .i64 ah,.int .i64 ab,.int .i64 an,.string at0] 24)).heap.size=w.heap.size+1:=by simp
 have hbW:Below w.heap.size w W1:=by rw[hW1];exact zad (below1 _ _) (below1 _ _)
 have HJ1:Hid (JAt W1 B ((w.heap.size+1)::X) j):=HJ.o.more hbW (by omega)
 have HB1:Hid (ButL [B] w.heap.size w W1):=ButL.of_below hbW
 have KR:Hid (W1.heap[w.heap.size+1]?=some (.cells #[.int .i64 0,.int .i64 0,.string ⟨#[]⟩] 31 (0,0))):=by rw[hW1,←hz1];exact heap_alloc_new _ _
 have KA:Hid (W1.heap[w.heap.size]?=some (.cells #[.int .i64 7,.int .i64 ah,.int .i64 ab,.int .i64 an,.string at0] 24 (0,0))):=by rw[hW1];exact zac (below1 _ _) (by omega) (heap_alloc_new _ _)
 have hs1:W1.heap.size=w.heap.size+2:=by rw[hW1];simp
 have hrl:w.heap.size+1<W1.heap.size:=by omega
 have hrB:w.heap.size+1≠B:=by omega
 have HX2:Hid (∀x∈((w.heap.size+1)::X),x<W1.heap.size):=fun x hx=>by
  rcases List.mem_cons.1 hx with rfl|hx
  ·exact hrl
  ·have:=HX.o x hx;omega
 rw[←hW1]
 clear hW1 hz1
 refine(zvz B ((w.heap.size+1)::X) j W1 HJ1.o HX2.o HDN.o HLQ.o).mono ?_
 rintro e w2 ⟨rfl,hJ2,hB2⟩
 have KR2:Hid (w2.heap[w.heap.size+1]?=some (.cells #[.int .i64 0,.int .i64 0,.string ⟨#[]⟩] 31 (0,0))):=(hB2.block _ (by omega) (by simpa using hrB)).trans KR.o
 have HJ2:=zaa hJ2
 have HB2:Hid (ButL [B] w.heap.size w w2):=HB1.o.trans hB2 HB1.o.size (by simp)
 have hs2:W1.heap.size≤w2.heap.size:=hB2.size
 clear hJ2 hB2
 obtain⟨P,hP⟩:∃P,P=zge j:=⟨_,rfl⟩
 rw[←hP] at HE HJ2⊢
 have HE3:Hid (zav j ⟨7,ah,ab,an,at0⟩=(P.1,⟨P.2.code,P.2.n,P.2.text⟩)):=HE.o
 rw[show vRp P.2=.agg #[.int .i64 P.2.code,.int .i64 P.2.n,.string P.2.text] from rfl]
 clear hP HE
 obtain⟨⟨y0,y1,y2⟩,yf⟩:=zbd KR2.o
 go_wp2
 exact za5 HE3.o KR2.o HJ2.o HB2.o hrB hBX fun W u0 u1 u2=>by simp[results,Tryz.results24,go_sem,u0,u1,u2]
theorem zy6 (B:Nat)(X:List Nat)(j:Jn)(w:World)(h:JAt w B X j)(hX:∀x∈X,x<w.heap.size)(hK:Ready j)(ak ah ab an:Int)(at0:ByteArray)(ht:at0.size≤maxLen)(k1:¬ak=1)(k5:¬ak=5)(k2:¬ak=2)(k3:¬ak=3)(k4:¬ak=4)(k6:¬ak=6)(k7:¬ak=7):
  Calls Tryz.prog 24 #[.pointer (some ⟨B,0,none⟩),.agg #[.int .i64 ak,.int .i64 ah,.int .i64 ab,.int .i64 an,.string at0]] w (zc4 w B X (zav j ⟨ak,ah,ab,an,at0⟩)):=by
 have HJ:=zaa h
 have hlt:=h.lt
 have hBX:=h.1
 have HX:=zaa hX
 have HU0:=zaa hK.used0
 have HU1:=zaa hK.used1
 have HR1:=zaa hK.info
 have HR2:=zaa hK.data
 have HSQ:=zaa hK.seq
 have HLQ:=zaa hK.last
 have HTX:=zaa ht
 have HDN:Hid (j.done.length≤maxLen):=Nat.le_trans hK.done (by unfold maxLen;omega)
 clear h hX hK ht
 have hne:¬w.heap.size=B:=by omega
 have hne1:¬w.heap.size+1=B:=by omega
 have b1:(ak==1)=false:=by simpa using k1
 have b5:(ak==5)=false:=by simpa using k5
 have b2:(ak==2)=false:=by simpa using k2
 have b3:(ak==3)=false:=by simpa using k3
 have b4:(ak==4)=false:=by simpa using k4
 have b6:(ak==6)=false:=by simpa using k6
 have b7:(ak==7)=false:=by simpa using k7
 have HE:Hid (zav j ⟨ak,ah,ab,an,at0⟩=(j,zi2 j ab)):=by rw[Hid,zav];simp[k1,k5,k2,k3,k4,k6,k7]
 clear k1 k5 k2 k3 k4 k6 k7
 go_enter Tryz.func24,Tryz.ntmps24
 go_wp2_with fail
 obtain⟨W1,hW1⟩:∃W1,W1=(w.alloc (.cells #[.int .i64 ak,.int .i64 ah,.int .i64 ab,.int .i64 an,.string at0] 24)).alloc (.cells #[.int .i64 0,.int .i64 0,.string ⟨#[]⟩] 31):=⟨_,rfl⟩
 have hz1:(w.alloc (.cells #[.int .i64 ak,.int .i64 ah,.int .i64 ab,.int .i64 an,.string at0] 24)).heap.size=w.heap.size+1:=by simp
 have hbW:Below w.heap.size w W1:=by rw[hW1];exact zad (below1 _ _) (below1 _ _)
 have HJ1:Hid (JAt W1 B ((w.heap.size+1)::X) j):=HJ.o.more hbW (by omega)
 have HB1:Hid (ButL [B] w.heap.size w W1):=ButL.of_below hbW
 have KR:Hid (W1.heap[w.heap.size+1]?=some (.cells #[.int .i64 0,.int .i64 0,.string ⟨#[]⟩] 31 (0,0))):=by rw[hW1,←hz1];exact heap_alloc_new _ _
 have KA:Hid (W1.heap[w.heap.size]?=some (.cells #[.int .i64 ak,.int .i64 ah,.int .i64 ab,.int .i64 an,.string at0] 24 (0,0))):=by rw[hW1];exact zac (below1 _ _) (by omega) (heap_alloc_new _ _)
 have hs1:W1.heap.size=w.heap.size+2:=by rw[hW1];simp
 have hrl:w.heap.size+1<W1.heap.size:=by omega
 have hrB:w.heap.size+1≠B:=by omega
 have HX2:Hid (∀x∈((w.heap.size+1)::X),x<W1.heap.size):=fun x hx=>by
  rcases List.mem_cons.1 hx with rfl|hx
  ·exact hrl
  ·have:=HX.o x hx;omega
 rw[←hW1]
 clear hW1 hz1
 refine(zyh B ((w.heap.size+1)::X) j W1 ab HJ1.o HDN.o).mono ?_
 rintro e w2 ⟨rfl,hJ2,hB2⟩
 have KR2:Hid (w2.heap[w.heap.size+1]?=some (.cells #[.int .i64 0,.int .i64 0,.string ⟨#[]⟩] 31 (0,0))):=(hB2.block _ (by omega) (by simpa using hrB)).trans KR.o
 have HJ2:=zaa hJ2
 have HB2:Hid (ButL [B] w.heap.size w w2):=HB1.o.trans hB2 HB1.o.size (by simp)
 have hs2:W1.heap.size≤w2.heap.size:=hB2.size
 clear hJ2 hB2
 obtain⟨P,hP⟩:∃P,P=(j,zi2 j ab):=⟨_,rfl⟩
 rw[←hP] at HE HJ2⊢
 have HE3:Hid (zav j ⟨ak,ah,ab,an,at0⟩=(P.1,⟨P.2.code,P.2.n,P.2.text⟩)):=HE.o
 rw[show vRp P.2=.agg #[.int .i64 P.2.code,.int .i64 P.2.n,.string P.2.text] from rfl]
 clear hP HE
 obtain⟨⟨y0,y1,y2⟩,yf⟩:=zbd KR2.o
 go_wp2
 exact za5 HE3.o KR2.o HJ2.o HB2.o hrB hBX fun W u0 u1 u2=>by simp[results,Tryz.results24,go_sem,u0,u1,u2]
theorem zqo (B:Nat)(X:List Nat)(j:Jn)(w:World)(h:JAt w B X j)(hX:∀x∈X,x<w.heap.size)(hK:Ready j)(ac:Ac)(ht:ac.text.size≤maxLen):
  Calls Tryz.prog 24 #[.pointer (some ⟨B,0,none⟩),.agg #[.int .i64 ac.kind,.int .i64 ac.h,.int .i64 ac.b,.int .i64 ac.n,.string ac.text]] w (zc4 w B X (zav j ac)):=by
 obtain⟨ak,ah,ab,an,at0⟩:=ac
 by_cases k1:ak=1
 ·subst k1;exact zyz B X j w h hX hK ah ab an at0 ht
 by_cases k5:ak=5
 ·subst k5;exact zy0 B X j w h hX hK ah ab an at0 ht
 by_cases k2:ak=2
 ·subst k2;exact zy1 B X j w h hX hK ah ab an at0 ht
 by_cases k3:ak=3
 ·subst k3;exact zy2 B X j w h hX hK ah ab an at0 ht
 by_cases k4:ak=4
 ·subst k4;exact zy3 B X j w h hX hK ah ab an at0 ht
 by_cases k6:ak=6
 ·subst k6;exact zy4 B X j w h hX hK ah ab an at0 ht
 by_cases k7:ak=7
 ·subst k7;exact zy5 B X j w h hX hK ah ab an at0 ht
 exact zy6 B X j w h hX hK ak ah ab an at0 ht k1 k5 k2 k3 k4 k6 k7
theorem Ready.bump {j:Jn}(h:Ready j)(x:Int)(h0:0≤x)(h1:x≤400):Ready {j with acts:=x}:=⟨h.done,h.found,h.next,h.seq,h.last,h.info,h.data,h.few,h.used0,h.used1,h0,h1⟩
theorem zsu (B:Nat)(X:List Nat)(j:Jn)(w:World)(h:JAt w B X j)(hX:∀x∈X,x<w.heap.size)(hK:Ready j)(ak ah ab an:Int)(at0:ByteArray)(hn:an≤9223372036854775807)(ht:at0.size≤maxLen)(hf:400≤j.acts):
  Calls Tryz.prog 8 #[.pointer (some ⟨B,0,none⟩),.agg #[.int .i64 ak,.int .i64 ah,.int .i64 ab,.int .i64 an,.string at0]] w (zc4 w B X (doJ j ⟨ak,ah,ab,an,at0⟩)):=by
 have HJ:=zaa h
 have hlt:=h.lt
 have hBX:=h.1
 have HX:=zaa hX
 have HK:=zaa hK
 have HTX:=zaa ht
 have HAN:=zaa hn
 have ha0:=hK.acts0
 have ha1:=hK.acts1
 have hwa:IntKind.i64.wrap (j.acts+1)=j.acts+1:=by rw[IntKind.wrap_i64];omega
 obtain⟨_,da,dc,db,dd,na,nc,nb,nd,ne,nf,sa,sc,sb,sd,se,sf,ca,cc,fa,fc,ta,tc,h1,_⟩:=id h
 have c0:w.cell? ⟨B,0,none⟩=some (.int .i64 j.acts):=zag h1 0
 have fc0:w.frozen? ⟨B,0,none⟩=false:=frozen_of_row w _ _ _ _ h1
 have c6:w.cell? ⟨B,6,none⟩=some (.bool j.down):=zag h1 6
 have fc6:w.frozen? ⟨B,6,none⟩=false:=frozen_of_row w _ _ _ _ h1
 clear h hX hK hn ht h1
 have hne:¬w.heap.size=B:=by omega
 have hne1:¬w.heap.size+1=B:=by omega
 have HE:Hid (doJ j ⟨ak,ah,ab,an,at0⟩=(j,zan 11)):=by rw[Hid,doJ,if_pos hf]
 have hf2:(400:Int)≤j.acts:=hf
 go_enter Tryz.func8,Tryz.ntmps8
 go_wp2_with fail
 have hs0:w.heap.size=w.heap.size:=rfl
 have HJ0:=HJ
 have HB0:Hid (ButL [B] w.heap.size w w):=ButL.refl _ _ _
 obtain⟨W1,hW1⟩:∃W1,W1=(w.alloc (.cells #[.int .i64 ak,.int .i64 ah,.int .i64 ab,.int .i64 an,.string at0] 24)).alloc (.cells #[.int .i64 0,.int .i64 0,.string ⟨#[]⟩] 31):=⟨_,rfl⟩
 have hz1:(w.alloc (.cells #[.int .i64 ak,.int .i64 ah,.int .i64 ab,.int .i64 an,.string at0] 24)).heap.size=w.heap.size+1:=by simp
 have hbW:Below w.heap.size w W1:=by rw[hW1];exact zad (below1 _ _) (below1 _ _)
 have HJ1:Hid (JAt W1 B ((w.heap.size+1)::X) j):=HJ0.o.more hbW (by omega)
 have HB1:Hid (ButL [B] w.heap.size w W1):=HB0.o.trans (Y:=[]) (ButL.of_below hbW) (by omega) (by simp)
 have KR:Hid (W1.heap[w.heap.size+1]?=some (.cells #[.int .i64 0,.int .i64 0,.string ⟨#[]⟩] 31 (0,0))):=by rw[hW1,←hz1];exact heap_alloc_new _ _
 have hs1:W1.heap.size=w.heap.size+2:=by rw[hW1];simp
 have hrl:w.heap.size+1<W1.heap.size:=by omega
 have hrB:w.heap.size+1≠B:=by omega
 have HX2:Hid (∀x∈((w.heap.size+1)::X),x<W1.heap.size):=fun x hx=>by
  rcases List.mem_cons.1 hx with rfl|hx
  ·exact hrl
  ·have:=HX.o x hx;omega
 rw[←hW1]
 clear hW1 hz1
 clear hf hf2
 refine(jcode_any 11 _).mono ?_
 rintro e w2 ⟨rfl,hb2⟩
 have KR2:=zaa (zac hb2 hrl KR.o)
 have HJ2:=zaa (HJ1.o.below hb2)
 have HB2:=zaa (HB1.o.trans (Y:=[]) (ButL.of_below hb2) HB1.o.size (by simp))
 clear hb2
 obtain⟨⟨y0,y1,y2⟩,yf⟩:=zbd KR2.o
 go_wp2
 exact za5 HE.o KR2.o HJ2.o HB2.o hrB hBX fun W u0 u1 u2=>by simp[results,Tryz.results8,go_sem,u0,u1,u2]
theorem zv3 (B:Nat)(X:List Nat)(j:Jn)(w:World)(h:JAt w B X j)(hX:∀x∈X,x<w.heap.size)(hK:Ready j)(ak ah ab an:Int)(at0:ByteArray)(hn:an≤9223372036854775807)(ht:at0.size≤maxLen)(hf:¬400≤j.acts)(hk:ak<1):
  Calls Tryz.prog 8 #[.pointer (some ⟨B,0,none⟩),.agg #[.int .i64 ak,.int .i64 ah,.int .i64 ab,.int .i64 an,.string at0]] w (zc4 w B X (doJ j ⟨ak,ah,ab,an,at0⟩)):=by
 have HJ:=zaa h
 have hlt:=h.lt
 have hBX:=h.1
 have HX:=zaa hX
 have HK:=zaa hK
 have HTX:=zaa ht
 have HAN:=zaa hn
 have ha0:=hK.acts0
 have ha1:=hK.acts1
 have hwa:IntKind.i64.wrap (j.acts+1)=j.acts+1:=by rw[IntKind.wrap_i64];omega
 obtain⟨_,da,dc,db,dd,na,nc,nb,nd,ne,nf,sa,sc,sb,sd,se,sf,ca,cc,fa,fc,ta,tc,h1,_⟩:=id h
 have c0:w.cell? ⟨B,0,none⟩=some (.int .i64 j.acts):=zag h1 0
 have fc0:w.frozen? ⟨B,0,none⟩=false:=frozen_of_row w _ _ _ _ h1
 have c6:w.cell? ⟨B,6,none⟩=some (.bool j.down):=zag h1 6
 have fc6:w.frozen? ⟨B,6,none⟩=false:=frozen_of_row w _ _ _ _ h1
 clear h hX hK hn ht h1
 have hne:¬w.heap.size=B:=by omega
 have hne1:¬w.heap.size+1=B:=by omega
 have HE:Hid (doJ j ⟨ak,ah,ab,an,at0⟩=(({j with acts:=j.acts+1}:Jn),zan 3)):=by rw[Hid,doJ,if_neg hf,doneJ,if_pos (.inl hk)]
 have hf2:¬(j.acts≥400):=hf
 go_enter Tryz.func8,Tryz.ntmps8
 go_wp2_with fail
 obtain⟨W0,hW0⟩:∃W0,W0=w.setCell ⟨B,0,none⟩ (.int .i64 (j.acts+1)):=⟨_,rfl⟩
 rw[←hW0]
 have hs0:W0.heap.size=w.heap.size:=by rw[hW0];simp[World.setCell]
 have HJ0:Hid (JAt W0 B X ({j with acts:=j.acts+1}:Jn)):=by rw[hW0];exact HJ.o.putActs _
 have HB0:Hid (ButL [B] w.heap.size w W0):=by rw[hW0];exact(ButL.refl _ _ _).set (.inl (by simp)) 0 _
 clear hW0
 obtain⟨W1,hW1⟩:∃W1,W1=(W0.alloc (.cells #[.int .i64 ak,.int .i64 ah,.int .i64 ab,.int .i64 an,.string at0] 24)).alloc (.cells #[.int .i64 0,.int .i64 0,.string ⟨#[]⟩] 31):=⟨_,rfl⟩
 have hz1:(W0.alloc (.cells #[.int .i64 ak,.int .i64 ah,.int .i64 ab,.int .i64 an,.string at0] 24)).heap.size=w.heap.size+1:=by simp[hs0]
 have hbW:Below W0.heap.size W0 W1:=by rw[hW1];exact zad (below1 _ _) (below1 _ _)
 have HJ1:Hid (JAt W1 B ((w.heap.size+1)::X) ({j with acts:=j.acts+1}:Jn)):=HJ0.o.more hbW (by omega)
 have HB1:Hid (ButL [B] w.heap.size w W1):=HB0.o.trans (Y:=[]) (ButL.of_below hbW) (by omega) (by simp)
 have KR:Hid (W1.heap[w.heap.size+1]?=some (.cells #[.int .i64 0,.int .i64 0,.string ⟨#[]⟩] 31 (0,0))):=by rw[hW1,←hz1];exact heap_alloc_new _ _
 have hs1:W1.heap.size=w.heap.size+2:=by rw[hW1];simp[hs0]
 have hrl:w.heap.size+1<W1.heap.size:=by omega
 have hrB:w.heap.size+1≠B:=by omega
 have HX2:Hid (∀x∈((w.heap.size+1)::X),x<W1.heap.size):=fun x hx=>by
  rcases List.mem_cons.1 hx with rfl|hx
  ·exact hrl
  ·have:=HX.o x hx;omega
 rw[←hW1]
 clear hW1 hz1
 clear hf hf2 hk
 refine(jcode_any 3 _).mono ?_
 rintro e w2 ⟨rfl,hb2⟩
 have KR2:=zaa (zac hb2 hrl KR.o)
 have HJ2:=zaa (HJ1.o.below hb2)
 have HB2:=zaa (HB1.o.trans (Y:=[]) (ButL.of_below hb2) HB1.o.size (by simp))
 clear hb2
 obtain⟨⟨y0,y1,y2⟩,yf⟩:=zbd KR2.o
 go_wp2
 exact za5 HE.o KR2.o HJ2.o HB2.o hrB hBX fun W u0 u1 u2=>by simp[results,Tryz.results8,go_sem,u0,u1,u2]
theorem zsv (B:Nat)(X:List Nat)(j:Jn)(w:World)(h:JAt w B X j)(hX:∀x∈X,x<w.heap.size)(hK:Ready j)(ak ah ab an:Int)(at0:ByteArray)(hn:an≤9223372036854775807)(ht:at0.size≤maxLen)(hf:¬400≤j.acts)(hk:11<ak):
  Calls Tryz.prog 8 #[.pointer (some ⟨B,0,none⟩),.agg #[.int .i64 ak,.int .i64 ah,.int .i64 ab,.int .i64 an,.string at0]] w (zc4 w B X (doJ j ⟨ak,ah,ab,an,at0⟩)):=by
 have HJ:=zaa h
 have hlt:=h.lt
 have hBX:=h.1
 have HX:=zaa hX
 have HK:=zaa hK
 have HTX:=zaa ht
 have HAN:=zaa hn
 have ha0:=hK.acts0
 have ha1:=hK.acts1
 have hwa:IntKind.i64.wrap (j.acts+1)=j.acts+1:=by rw[IntKind.wrap_i64];omega
 obtain⟨_,da,dc,db,dd,na,nc,nb,nd,ne,nf,sa,sc,sb,sd,se,sf,ca,cc,fa,fc,ta,tc,h1,_⟩:=id h
 have c0:w.cell? ⟨B,0,none⟩=some (.int .i64 j.acts):=zag h1 0
 have fc0:w.frozen? ⟨B,0,none⟩=false:=frozen_of_row w _ _ _ _ h1
 have c6:w.cell? ⟨B,6,none⟩=some (.bool j.down):=zag h1 6
 have fc6:w.frozen? ⟨B,6,none⟩=false:=frozen_of_row w _ _ _ _ h1
 clear h hX hK hn ht h1
 have hne:¬w.heap.size=B:=by omega
 have hne1:¬w.heap.size+1=B:=by omega
 have HE:Hid (doJ j ⟨ak,ah,ab,an,at0⟩=(({j with acts:=j.acts+1}:Jn),zan 3)):=by rw[Hid,doJ,if_neg hf,doneJ,if_pos (.inr hk)]
 have hf2:¬(j.acts≥400):=hf
 have hk2:¬ak<1:=by omega
 go_enter Tryz.func8,Tryz.ntmps8
 go_wp2_with fail
 obtain⟨W0,hW0⟩:∃W0,W0=w.setCell ⟨B,0,none⟩ (.int .i64 (j.acts+1)):=⟨_,rfl⟩
 rw[←hW0]
 have hs0:W0.heap.size=w.heap.size:=by rw[hW0];simp[World.setCell]
 have HJ0:Hid (JAt W0 B X ({j with acts:=j.acts+1}:Jn)):=by rw[hW0];exact HJ.o.putActs _
 have HB0:Hid (ButL [B] w.heap.size w W0):=by rw[hW0];exact(ButL.refl _ _ _).set (.inl (by simp)) 0 _
 clear hW0
 obtain⟨W1,hW1⟩:∃W1,W1=(W0.alloc (.cells #[.int .i64 ak,.int .i64 ah,.int .i64 ab,.int .i64 an,.string at0] 24)).alloc (.cells #[.int .i64 0,.int .i64 0,.string ⟨#[]⟩] 31):=⟨_,rfl⟩
 have hz1:(W0.alloc (.cells #[.int .i64 ak,.int .i64 ah,.int .i64 ab,.int .i64 an,.string at0] 24)).heap.size=w.heap.size+1:=by simp[hs0]
 have hbW:Below W0.heap.size W0 W1:=by rw[hW1];exact zad (below1 _ _) (below1 _ _)
 have HJ1:Hid (JAt W1 B ((w.heap.size+1)::X) ({j with acts:=j.acts+1}:Jn)):=HJ0.o.more hbW (by omega)
 have HB1:Hid (ButL [B] w.heap.size w W1):=HB0.o.trans (Y:=[]) (ButL.of_below hbW) (by omega) (by simp)
 have KR:Hid (W1.heap[w.heap.size+1]?=some (.cells #[.int .i64 0,.int .i64 0,.string ⟨#[]⟩] 31 (0,0))):=by rw[hW1,←hz1];exact heap_alloc_new _ _
 have hs1:W1.heap.size=w.heap.size+2:=by rw[hW1];simp[hs0]
 have hrl:w.heap.size+1<W1.heap.size:=by omega
 have hrB:w.heap.size+1≠B:=by omega
 have HX2:Hid (∀x∈((w.heap.size+1)::X),x<W1.heap.size):=fun x hx=>by
  rcases List.mem_cons.1 hx with rfl|hx
  ·exact hrl
  ·have:=HX.o x hx;omega
 rw[←hW1]
 clear hW1 hz1
 clear hf hf2 hk hk2
 refine(jcode_any 3 _).mono ?_
 rintro e w2 ⟨rfl,hb2⟩
 have KR2:=zaa (zac hb2 hrl KR.o)
 have HJ2:=zaa (HJ1.o.below hb2)
 have HB2:=zaa (HB1.o.trans (Y:=[]) (ButL.of_below hb2) HB1.o.size (by simp))
 clear hb2
 obtain⟨⟨y0,y1,y2⟩,yf⟩:=zbd KR2.o
 go_wp2
 exact za5 HE.o KR2.o HJ2.o HB2.o hrB hBX fun W u0 u1 u2=>by simp[results,Tryz.results8,go_sem,u0,u1,u2]
theorem z1b (B:Nat)(X:List Nat)(j:Jn)(w:World)(h:JAt w B X j)(hX:∀x∈X,x<w.heap.size)(hK:Ready j)(ah ab an:Int)(at0:ByteArray)(hn:an≤9223372036854775807)(ht:at0.size≤maxLen)(hf:¬400≤j.acts):
  Calls Tryz.prog 8 #[.pointer (some ⟨B,0,none⟩),.agg #[.int .i64 8,.int .i64 ah,.int .i64 ab,.int .i64 an,.string at0]] w (zc4 w B X (doJ j ⟨8,ah,ab,an,at0⟩)):=by
 have HJ:=zaa h
 have hlt:=h.lt
 have hBX:=h.1
 have HX:=zaa hX
 have HK:=zaa hK
 have HTX:=zaa ht
 have HAN:=zaa hn
 have ha0:=hK.acts0
 have ha1:=hK.acts1
 have hwa:IntKind.i64.wrap (j.acts+1)=j.acts+1:=by rw[IntKind.wrap_i64];omega
 obtain⟨_,da,dc,db,dd,na,nc,nb,nd,ne,nf,sa,sc,sb,sd,se,sf,ca,cc,fa,fc,ta,tc,h1,_⟩:=id h
 have c0:w.cell? ⟨B,0,none⟩=some (.int .i64 j.acts):=zag h1 0
 have fc0:w.frozen? ⟨B,0,none⟩=false:=frozen_of_row w _ _ _ _ h1
 have c6:w.cell? ⟨B,6,none⟩=some (.bool j.down):=zag h1 6
 have fc6:w.frozen? ⟨B,6,none⟩=false:=frozen_of_row w _ _ _ _ h1
 clear h hX hK hn ht h1
 have hne:¬w.heap.size=B:=by omega
 have hne1:¬w.heap.size+1=B:=by omega
 have HE:Hid (doJ j ⟨8,ah,ab,an,at0⟩=zih ({j with acts:=j.acts+1}:Jn)):=by rw[Hid,doJ,if_neg hf,doneJ];simp
 have hf2:¬(j.acts≥400):=hf
 go_enter Tryz.func8,Tryz.ntmps8
 go_wp2_with fail
 obtain⟨W0,hW0⟩:∃W0,W0=w.setCell ⟨B,0,none⟩ (.int .i64 (j.acts+1)):=⟨_,rfl⟩
 rw[←hW0]
 have hs0:W0.heap.size=w.heap.size:=by rw[hW0];simp[World.setCell]
 have HJ0:Hid (JAt W0 B X ({j with acts:=j.acts+1}:Jn)):=by rw[hW0];exact HJ.o.putActs _
 have HB0:Hid (ButL [B] w.heap.size w W0):=by rw[hW0];exact(ButL.refl _ _ _).set (.inl (by simp)) 0 _
 clear hW0
 obtain⟨W1,hW1⟩:∃W1,W1=(W0.alloc (.cells #[.int .i64 8,.int .i64 ah,.int .i64 ab,.int .i64 an,.string at0] 24)).alloc (.cells #[.int .i64 0,.int .i64 0,.string ⟨#[]⟩] 31):=⟨_,rfl⟩
 have hz1:(W0.alloc (.cells #[.int .i64 8,.int .i64 ah,.int .i64 ab,.int .i64 an,.string at0] 24)).heap.size=w.heap.size+1:=by simp[hs0]
 have hbW:Below W0.heap.size W0 W1:=by rw[hW1];exact zad (below1 _ _) (below1 _ _)
 have HJ1:Hid (JAt W1 B ((w.heap.size+1)::X) ({j with acts:=j.acts+1}:Jn)):=HJ0.o.more hbW (by omega)
 have HB1:Hid (ButL [B] w.heap.size w W1):=HB0.o.trans (Y:=[]) (ButL.of_below hbW) (by omega) (by simp)
 have KR:Hid (W1.heap[w.heap.size+1]?=some (.cells #[.int .i64 0,.int .i64 0,.string ⟨#[]⟩] 31 (0,0))):=by rw[hW1,←hz1];exact heap_alloc_new _ _
 have hs1:W1.heap.size=w.heap.size+2:=by rw[hW1];simp[hs0]
 have hrl:w.heap.size+1<W1.heap.size:=by omega
 have hrB:w.heap.size+1≠B:=by omega
 have HX2:Hid (∀x∈((w.heap.size+1)::X),x<W1.heap.size):=fun x hx=>by
  rcases List.mem_cons.1 hx with rfl|hx
  ·exact hrl
  ·have:=HX.o x hx;omega
 rw[←hW1]
 clear hW1 hz1
 clear hf hf2
 refine(zyt B ((w.heap.size+1)::X) ({j with acts:=j.acts+1}:Jn) W1 HJ1.o HX2.o HK.o.done HK.o.found HK.o.next).mono ?_
 rintro e w2 ⟨rfl,hJ2,hB2⟩
 have KR2:Hid (w2.heap[w.heap.size+1]?=some (.cells #[.int .i64 0,.int .i64 0,.string ⟨#[]⟩] 31 (0,0))):=(hB2.block _ (by omega) (by simpa using hrB)).trans KR.o
 have HJ2:=zaa hJ2
 have HB2:Hid (ButL [B] w.heap.size w w2):=HB1.o.trans hB2 HB1.o.size (by simp)
 have hs2:W1.heap.size≤w2.heap.size:=hB2.size
 clear hJ2 hB2
 obtain⟨P,hP⟩:∃P,P=zih ({j with acts:=j.acts+1}:Jn):=⟨_,rfl⟩
 rw[←hP] at HE HJ2⊢
 have HE3:Hid (doJ j ⟨8,ah,ab,an,at0⟩=(P.1,⟨P.2.code,P.2.n,P.2.text⟩)):=HE.o
 rw[show vRp P.2=.agg #[.int .i64 P.2.code,.int .i64 P.2.n,.string P.2.text] from rfl]
 clear hP HE
 obtain⟨⟨y0,y1,y2⟩,yf⟩:=zbd KR2.o
 go_wp2
 exact za5 HE3.o KR2.o HJ2.o HB2.o hrB hBX fun W u0 u1 u2=>by simp[results,Tryz.results8,go_sem,u0,u1,u2]
theorem zy7 (B:Nat)(X:List Nat)(j:Jn)(w:World)(h:JAt w B X j)(hX:∀x∈X,x<w.heap.size)(hK:Ready j)(ah ab an:Int)(at0:ByteArray)(hn:an≤9223372036854775807)(ht:at0.size≤maxLen)(hf:¬400≤j.acts):
  Calls Tryz.prog 8 #[.pointer (some ⟨B,0,none⟩),.agg #[.int .i64 10,.int .i64 ah,.int .i64 ab,.int .i64 an,.string at0]] w (zc4 w B X (doJ j ⟨10,ah,ab,an,at0⟩)):=by
 have HJ:=zaa h
 have hlt:=h.lt
 have hBX:=h.1
 have HX:=zaa hX
 have HK:=zaa hK
 have HTX:=zaa ht
 have HAN:=zaa hn
 have ha0:=hK.acts0
 have ha1:=hK.acts1
 have hwa:IntKind.i64.wrap (j.acts+1)=j.acts+1:=by rw[IntKind.wrap_i64];omega
 obtain⟨_,da,dc,db,dd,na,nc,nb,nd,ne,nf,sa,sc,sb,sd,se,sf,ca,cc,fa,fc,ta,tc,h1,_⟩:=id h
 have c0:w.cell? ⟨B,0,none⟩=some (.int .i64 j.acts):=zag h1 0
 have fc0:w.frozen? ⟨B,0,none⟩=false:=frozen_of_row w _ _ _ _ h1
 have c6:w.cell? ⟨B,6,none⟩=some (.bool j.down):=zag h1 6
 have fc6:w.frozen? ⟨B,6,none⟩=false:=frozen_of_row w _ _ _ _ h1
 clear h hX hK hn ht h1
 have hne:¬w.heap.size=B:=by omega
 have hne1:¬w.heap.size+1=B:=by omega
 have HE:Hid (doJ j ⟨10,ah,ab,an,at0⟩=zii ({j with acts:=j.acts+1}:Jn) an):=by rw[Hid,doJ,if_neg hf,doneJ];simp
 have hf2:¬(j.acts≥400):=hf
 go_enter Tryz.func8,Tryz.ntmps8
 go_wp2_with fail
 obtain⟨W0,hW0⟩:∃W0,W0=w.setCell ⟨B,0,none⟩ (.int .i64 (j.acts+1)):=⟨_,rfl⟩
 rw[←hW0]
 have hs0:W0.heap.size=w.heap.size:=by rw[hW0];simp[World.setCell]
 have HJ0:Hid (JAt W0 B X ({j with acts:=j.acts+1}:Jn)):=by rw[hW0];exact HJ.o.putActs _
 have HB0:Hid (ButL [B] w.heap.size w W0):=by rw[hW0];exact(ButL.refl _ _ _).set (.inl (by simp)) 0 _
 clear hW0
 obtain⟨W1,hW1⟩:∃W1,W1=(W0.alloc (.cells #[.int .i64 10,.int .i64 ah,.int .i64 ab,.int .i64 an,.string at0] 24)).alloc (.cells #[.int .i64 0,.int .i64 0,.string ⟨#[]⟩] 31):=⟨_,rfl⟩
 have hz1:(W0.alloc (.cells #[.int .i64 10,.int .i64 ah,.int .i64 ab,.int .i64 an,.string at0] 24)).heap.size=w.heap.size+1:=by simp[hs0]
 have hbW:Below W0.heap.size W0 W1:=by rw[hW1];exact zad (below1 _ _) (below1 _ _)
 have HJ1:Hid (JAt W1 B ((w.heap.size+1)::X) ({j with acts:=j.acts+1}:Jn)):=HJ0.o.more hbW (by omega)
 have HB1:Hid (ButL [B] w.heap.size w W1):=HB0.o.trans (Y:=[]) (ButL.of_below hbW) (by omega) (by simp)
 have KR:Hid (W1.heap[w.heap.size+1]?=some (.cells #[.int .i64 0,.int .i64 0,.string ⟨#[]⟩] 31 (0,0))):=by rw[hW1,←hz1];exact heap_alloc_new _ _
 have hs1:W1.heap.size=w.heap.size+2:=by rw[hW1];simp[hs0]
 have hrl:w.heap.size+1<W1.heap.size:=by omega
 have hrB:w.heap.size+1≠B:=by omega
 have HX2:Hid (∀x∈((w.heap.size+1)::X),x<W1.heap.size):=fun x hx=>by
  rcases List.mem_cons.1 hx with rfl|hx
  ·exact hrl
  ·have:=HX.o x hx;omega
 rw[←hW1]
 clear hW1 hz1
 clear hf hf2
 refine(zv2 B ((w.heap.size+1)::X) ({j with acts:=j.acts+1}:Jn) W1 HJ1.o HX2.o an HAN.o).mono ?_
 rintro e w2 ⟨rfl,hJ2,hB2⟩
 have KR2:Hid (w2.heap[w.heap.size+1]?=some (.cells #[.int .i64 0,.int .i64 0,.string ⟨#[]⟩] 31 (0,0))):=(hB2.block _ (by omega) (by simpa using hrB)).trans KR.o
 have HJ2:=zaa hJ2
 have HB2:Hid (ButL [B] w.heap.size w w2):=HB1.o.trans hB2 HB1.o.size (by simp)
 have hs2:W1.heap.size≤w2.heap.size:=hB2.size
 clear hJ2 hB2
 obtain⟨P,hP⟩:∃P,P=zii ({j with acts:=j.acts+1}:Jn) an:=⟨_,rfl⟩
 rw[←hP] at HE HJ2⊢
 have HE3:Hid (doJ j ⟨10,ah,ab,an,at0⟩=(P.1,⟨P.2.code,P.2.n,P.2.text⟩)):=HE.o
 rw[show vRp P.2=.agg #[.int .i64 P.2.code,.int .i64 P.2.n,.string P.2.text] from rfl]
 clear hP HE
 obtain⟨⟨y0,y1,y2⟩,yf⟩:=zbd KR2.o
 go_wp2
 exact za5 HE3.o KR2.o HJ2.o HB2.o hrB hBX fun W u0 u1 u2=>by simp[results,Tryz.results8,go_sem,u0,u1,u2]
theorem zy8 (B:Nat)(X:List Nat)(j:Jn)(w:World)(h:JAt w B X j)(hX:∀x∈X,x<w.heap.size)(hK:Ready j)(ah ab an:Int)(at0:ByteArray)(hn:an≤9223372036854775807)(ht:at0.size≤maxLen)(hf:¬400≤j.acts):
  Calls Tryz.prog 8 #[.pointer (some ⟨B,0,none⟩),.agg #[.int .i64 11,.int .i64 ah,.int .i64 ab,.int .i64 an,.string at0]] w (zc4 w B X (doJ j ⟨11,ah,ab,an,at0⟩)):=by
 have HJ:=zaa h
 have hlt:=h.lt
 have hBX:=h.1
 have HX:=zaa hX
 have HK:=zaa hK
 have HTX:=zaa ht
 have HAN:=zaa hn
 have ha0:=hK.acts0
 have ha1:=hK.acts1
 have hwa:IntKind.i64.wrap (j.acts+1)=j.acts+1:=by rw[IntKind.wrap_i64];omega
 obtain⟨_,da,dc,db,dd,na,nc,nb,nd,ne,nf,sa,sc,sb,sd,se,sf,ca,cc,fa,fc,ta,tc,h1,_⟩:=id h
 have c0:w.cell? ⟨B,0,none⟩=some (.int .i64 j.acts):=zag h1 0
 have fc0:w.frozen? ⟨B,0,none⟩=false:=frozen_of_row w _ _ _ _ h1
 have c6:w.cell? ⟨B,6,none⟩=some (.bool j.down):=zag h1 6
 have fc6:w.frozen? ⟨B,6,none⟩=false:=frozen_of_row w _ _ _ _ h1
 clear h hX hK hn ht h1
 have hne:¬w.heap.size=B:=by omega
 have hne1:¬w.heap.size+1=B:=by omega
 have HE:Hid (doJ j ⟨11,ah,ab,an,at0⟩=zbz ({j with acts:=j.acts+1}:Jn)):=by rw[Hid,doJ,if_neg hf,doneJ];simp
 have hf2:¬(j.acts≥400):=hf
 go_enter Tryz.func8,Tryz.ntmps8
 go_wp2_with fail
 obtain⟨W0,hW0⟩:∃W0,W0=w.setCell ⟨B,0,none⟩ (.int .i64 (j.acts+1)):=⟨_,rfl⟩
 rw[←hW0]
 have hs0:W0.heap.size=w.heap.size:=by rw[hW0];simp[World.setCell]
 have HJ0:Hid (JAt W0 B X ({j with acts:=j.acts+1}:Jn)):=by rw[hW0];exact HJ.o.putActs _
 have HB0:Hid (ButL [B] w.heap.size w W0):=by rw[hW0];exact(ButL.refl _ _ _).set (.inl (by simp)) 0 _
 clear hW0
 obtain⟨W1,hW1⟩:∃W1,W1=(W0.alloc (.cells #[.int .i64 11,.int .i64 ah,.int .i64 ab,.int .i64 an,.string at0] 24)).alloc (.cells #[.int .i64 0,.int .i64 0,.string ⟨#[]⟩] 31):=⟨_,rfl⟩
 have hz1:(W0.alloc (.cells #[.int .i64 11,.int .i64 ah,.int .i64 ab,.int .i64 an,.string at0] 24)).heap.size=w.heap.size+1:=by simp[hs0]
 have hbW:Below W0.heap.size W0 W1:=by rw[hW1];exact zad (below1 _ _) (below1 _ _)
 have HJ1:Hid (JAt W1 B ((w.heap.size+1)::X) ({j with acts:=j.acts+1}:Jn)):=HJ0.o.more hbW (by omega)
 have HB1:Hid (ButL [B] w.heap.size w W1):=HB0.o.trans (Y:=[]) (ButL.of_below hbW) (by omega) (by simp)
 have KR:Hid (W1.heap[w.heap.size+1]?=some (.cells #[.int .i64 0,.int .i64 0,.string ⟨#[]⟩] 31 (0,0))):=by rw[hW1,←hz1];exact heap_alloc_new _ _
 have hs1:W1.heap.size=w.heap.size+2:=by rw[hW1];simp[hs0]
 have hrl:w.heap.size+1<W1.heap.size:=by omega
 have hrB:w.heap.size+1≠B:=by omega
 have HX2:Hid (∀x∈((w.heap.size+1)::X),x<W1.heap.size):=fun x hx=>by
  rcases List.mem_cons.1 hx with rfl|hx
  ·exact hrl
  ·have:=HX.o x hx;omega
 rw[←hW1]
 clear hW1 hz1
 clear hf hf2
 refine(zyk B ((w.heap.size+1)::X) ({j with acts:=j.acts+1}:Jn) W1 HJ1.o HX2.o HK.o.few).mono ?_
 rintro e w2 ⟨rfl,hJ2,hB2⟩
 have KR2:Hid (w2.heap[w.heap.size+1]?=some (.cells #[.int .i64 0,.int .i64 0,.string ⟨#[]⟩] 31 (0,0))):=(hB2.block _ (by omega) (by simpa using hrB)).trans KR.o
 have HJ2:=zaa hJ2
 have HB2:Hid (ButL [B] w.heap.size w w2):=HB1.o.trans hB2 HB1.o.size (by simp)
 have hs2:W1.heap.size≤w2.heap.size:=hB2.size
 clear hJ2 hB2
 obtain⟨P,hP⟩:∃P,P=zbz ({j with acts:=j.acts+1}:Jn):=⟨_,rfl⟩
 rw[←hP] at HE HJ2⊢
 have HE3:Hid (doJ j ⟨11,ah,ab,an,at0⟩=(P.1,⟨P.2.code,P.2.n,P.2.text⟩)):=HE.o
 rw[show vRp P.2=.agg #[.int .i64 P.2.code,.int .i64 P.2.n,.string P.2.text] from rfl]
 clear hP HE
 obtain⟨⟨y0,y1,y2⟩,yf⟩:=zbd KR2.o
 go_wp2
 exact za5 HE3.o KR2.o HJ2.o HB2.o hrB hBX fun W u0 u1 u2=>by simp[results,Tryz.results8,go_sem,u0,u1,u2]
theorem zsw (B:Nat)(X:List Nat)(j:Jn)(w:World)(h:JAt w B X j)(hX:∀x∈X,x<w.heap.size)(hK:Ready j)(ak ah ab an:Int)(at0:ByteArray)(hn:an≤9223372036854775807)(ht:at0.size≤maxLen)(hf:¬400≤j.acts)(h0:1≤ak)(h11:ak≤11)(k8:¬ak=8)(k10:¬ak=10)(k11:¬ak=11)(hd:j.down=true):
  Calls Tryz.prog 8 #[.pointer (some ⟨B,0,none⟩),.agg #[.int .i64 ak,.int .i64 ah,.int .i64 ab,.int .i64 an,.string at0]] w (zc4 w B X (doJ j ⟨ak,ah,ab,an,at0⟩)):=by
 have HJ:=zaa h
 have hlt:=h.lt
 have hBX:=h.1
 have HX:=zaa hX
 have HK:=zaa hK
 have HTX:=zaa ht
 have HAN:=zaa hn
 have ha0:=hK.acts0
 have ha1:=hK.acts1
 have hwa:IntKind.i64.wrap (j.acts+1)=j.acts+1:=by rw[IntKind.wrap_i64];omega
 obtain⟨_,da,dc,db,dd,na,nc,nb,nd,ne,nf,sa,sc,sb,sd,se,sf,ca,cc,fa,fc,ta,tc,h1,_⟩:=id h
 have c0:w.cell? ⟨B,0,none⟩=some (.int .i64 j.acts):=zag h1 0
 have fc0:w.frozen? ⟨B,0,none⟩=false:=frozen_of_row w _ _ _ _ h1
 have c6:w.cell? ⟨B,6,none⟩=some (.bool j.down):=zag h1 6
 have fc6:w.frozen? ⟨B,6,none⟩=false:=frozen_of_row w _ _ _ _ h1
 clear h hX hK hn ht h1
 have hne:¬w.heap.size=B:=by omega
 have hne1:¬w.heap.size+1=B:=by omega
 have HE:Hid (doJ j ⟨ak,ah,ab,an,at0⟩=(({j with acts:=j.acts+1}:Jn),zan 10)):=by rw[Hid,doJ,if_neg hf,doneJ,if_neg (by simp only;omega),if_neg k8,if_neg k10,if_neg k11,if_pos hd]
 have hf2:¬(j.acts≥400):=hf
 have b8:(ak==8)=false:=by simpa using k8
 have b10:(ak==10)=false:=by simpa using k10
 have b11:(ak==11)=false:=by simpa using k11
 have r1:¬ak<1:=by omega
 have r2:¬ak>11:=by omega
 rw[hd] at c6
 go_enter Tryz.func8,Tryz.ntmps8
 go_wp2_with fail
 obtain⟨W0,hW0⟩:∃W0,W0=w.setCell ⟨B,0,none⟩ (.int .i64 (j.acts+1)):=⟨_,rfl⟩
 rw[←hW0]
 have hs0:W0.heap.size=w.heap.size:=by rw[hW0];simp[World.setCell]
 have HJ0:Hid (JAt W0 B X ({j with acts:=j.acts+1}:Jn)):=by rw[hW0];exact HJ.o.putActs _
 have HB0:Hid (ButL [B] w.heap.size w W0):=by rw[hW0];exact(ButL.refl _ _ _).set (.inl (by simp)) 0 _
 clear hW0
 obtain⟨W1,hW1⟩:∃W1,W1=(W0.alloc (.cells #[.int .i64 ak,.int .i64 ah,.int .i64 ab,.int .i64 an,.string at0] 24)).alloc (.cells #[.int .i64 0,.int .i64 0,.string ⟨#[]⟩] 31):=⟨_,rfl⟩
 have hz1:(W0.alloc (.cells #[.int .i64 ak,.int .i64 ah,.int .i64 ab,.int .i64 an,.string at0] 24)).heap.size=w.heap.size+1:=by simp[hs0]
 have hbW:Below W0.heap.size W0 W1:=by rw[hW1];exact zad (below1 _ _) (below1 _ _)
 have HJ1:Hid (JAt W1 B ((w.heap.size+1)::X) ({j with acts:=j.acts+1}:Jn)):=HJ0.o.more hbW (by omega)
 have HB1:Hid (ButL [B] w.heap.size w W1):=HB0.o.trans (Y:=[]) (ButL.of_below hbW) (by omega) (by simp)
 have KR:Hid (W1.heap[w.heap.size+1]?=some (.cells #[.int .i64 0,.int .i64 0,.string ⟨#[]⟩] 31 (0,0))):=by rw[hW1,←hz1];exact heap_alloc_new _ _
 have hs1:W1.heap.size=w.heap.size+2:=by rw[hW1];simp[hs0]
 have hrl:w.heap.size+1<W1.heap.size:=by omega
 have hrB:w.heap.size+1≠B:=by omega
 have HX2:Hid (∀x∈((w.heap.size+1)::X),x<W1.heap.size):=fun x hx=>by
  rcases List.mem_cons.1 hx with rfl|hx
  ·exact hrl
  ·have:=HX.o x hx;omega
 rw[←hW1]
 clear hW1 hz1
 clear hf hf2 k8 b8 k10 b10 k11 b11 r1 r2 h0 h11
 refine(jcode_any 10 _).mono ?_
 rintro e w2 ⟨rfl,hb2⟩
 have KR2:=zaa (zac hb2 hrl KR.o)
 have HJ2:=zaa (HJ1.o.below hb2)
 have HB2:=zaa (HB1.o.trans (Y:=[]) (ButL.of_below hb2) HB1.o.size (by simp))
 clear hb2
 obtain⟨⟨y0,y1,y2⟩,yf⟩:=zbd KR2.o
 go_wp2
 exact za5 HE.o KR2.o HJ2.o HB2.o hrB hBX fun W u0 u1 u2=>by simp[results,Tryz.results8,go_sem,u0,u1,u2]
theorem zy9 (B:Nat)(X:List Nat)(j:Jn)(w:World)(h:JAt w B X j)(hX:∀x∈X,x<w.heap.size)(hK:Ready j)(ak ah ab an:Int)(at0:ByteArray)(hn:an≤9223372036854775807)(ht:at0.size≤maxLen)(hf:¬400≤j.acts)(h0:1≤ak)(h11:ak≤11)(k8:¬ak=8)(k10:¬ak=10)(k11:¬ak=11)(hd:j.down=false):
  Calls Tryz.prog 8 #[.pointer (some ⟨B,0,none⟩),.agg #[.int .i64 ak,.int .i64 ah,.int .i64 ab,.int .i64 an,.string at0]] w (zc4 w B X (doJ j ⟨ak,ah,ab,an,at0⟩)):=by
 have HJ:=zaa h
 have hlt:=h.lt
 have hBX:=h.1
 have HX:=zaa hX
 have HK:=zaa hK
 have HTX:=zaa ht
 have HAN:=zaa hn
 have ha0:=hK.acts0
 have ha1:=hK.acts1
 have hwa:IntKind.i64.wrap (j.acts+1)=j.acts+1:=by rw[IntKind.wrap_i64];omega
 obtain⟨_,da,dc,db,dd,na,nc,nb,nd,ne,nf,sa,sc,sb,sd,se,sf,ca,cc,fa,fc,ta,tc,h1,_⟩:=id h
 have c0:w.cell? ⟨B,0,none⟩=some (.int .i64 j.acts):=zag h1 0
 have fc0:w.frozen? ⟨B,0,none⟩=false:=frozen_of_row w _ _ _ _ h1
 have c6:w.cell? ⟨B,6,none⟩=some (.bool j.down):=zag h1 6
 have fc6:w.frozen? ⟨B,6,none⟩=false:=frozen_of_row w _ _ _ _ h1
 clear h hX hK hn ht h1
 have hne:¬w.heap.size=B:=by omega
 have hne1:¬w.heap.size+1=B:=by omega
 have HE:Hid (doJ j ⟨ak,ah,ab,an,at0⟩=zav ({j with acts:=j.acts+1}:Jn) ⟨ak,ah,ab,an,at0⟩):=by rw[Hid,doJ,if_neg hf,doneJ,if_neg (by simp only;omega),if_neg k8,if_neg k10,if_neg k11,if_neg (by simp[hd])]
 have HKB:Hid (Ready ({j with acts:=j.acts+1}:Jn)):=HK.o.bump _ (by omega) (by omega)
 have hf2:¬(j.acts≥400):=hf
 have b8:(ak==8)=false:=by simpa using k8
 have b10:(ak==10)=false:=by simpa using k10
 have b11:(ak==11)=false:=by simpa using k11
 have r1:¬ak<1:=by omega
 have r2:¬ak>11:=by omega
 rw[hd] at c6
 go_enter Tryz.func8,Tryz.ntmps8
 go_wp2_with fail
 obtain⟨W0,hW0⟩:∃W0,W0=w.setCell ⟨B,0,none⟩ (.int .i64 (j.acts+1)):=⟨_,rfl⟩
 rw[←hW0]
 have hs0:W0.heap.size=w.heap.size:=by rw[hW0];simp[World.setCell]
 have HJ0:Hid (JAt W0 B X ({j with acts:=j.acts+1}:Jn)):=by rw[hW0];exact HJ.o.putActs _
 have HB0:Hid (ButL [B] w.heap.size w W0):=by rw[hW0];exact(ButL.refl _ _ _).set (.inl (by simp)) 0 _
 clear hW0
 obtain⟨W1,hW1⟩:∃W1,W1=(W0.alloc (.cells #[.int .i64 ak,.int .i64 ah,.int .i64 ab,.int .i64 an,.string at0] 24)).alloc (.cells #[.int .i64 0,.int .i64 0,.string ⟨#[]⟩] 31):=⟨_,rfl⟩
 have hz1:(W0.alloc (.cells #[.int .i64 ak,.int .i64 ah,.int .i64 ab,.int .i64 an,.string at0] 24)).heap.size=w.heap.size+1:=by simp[hs0]
 have hbW:Below W0.heap.size W0 W1:=by rw[hW1];exact zad (below1 _ _) (below1 _ _)
 have HJ1:Hid (JAt W1 B ((w.heap.size+1)::X) ({j with acts:=j.acts+1}:Jn)):=HJ0.o.more hbW (by omega)
 have HB1:Hid (ButL [B] w.heap.size w W1):=HB0.o.trans (Y:=[]) (ButL.of_below hbW) (by omega) (by simp)
 have KR:Hid (W1.heap[w.heap.size+1]?=some (.cells #[.int .i64 0,.int .i64 0,.string ⟨#[]⟩] 31 (0,0))):=by rw[hW1,←hz1];exact heap_alloc_new _ _
 have hs1:W1.heap.size=w.heap.size+2:=by rw[hW1];simp[hs0]
 have hrl:w.heap.size+1<W1.heap.size:=by omega
 have hrB:w.heap.size+1≠B:=by omega
 have HX2:Hid (∀x∈((w.heap.size+1)::X),x<W1.heap.size):=fun x hx=>by
  rcases List.mem_cons.1 hx with rfl|hx
  ·exact hrl
  ·have:=HX.o x hx;omega
 rw[←hW1]
 clear hW1 hz1
 clear hf hf2 k8 b8 k10 b10 k11 b11 r1 r2 h0 h11
 refine(zqo B ((w.heap.size+1)::X) ({j with acts:=j.acts+1}:Jn) W1 HJ1.o HX2.o HKB.o ⟨ak,ah,ab,an,at0⟩ HTX.o).mono ?_
 rintro e w2 ⟨rfl,hJ2,hB2⟩
 have KR2:Hid (w2.heap[w.heap.size+1]?=some (.cells #[.int .i64 0,.int .i64 0,.string ⟨#[]⟩] 31 (0,0))):=(hB2.block _ (by omega) (by simpa using hrB)).trans KR.o
 have HJ2:=zaa hJ2
 have HB2:Hid (ButL [B] w.heap.size w w2):=HB1.o.trans hB2 HB1.o.size (by simp)
 have hs2:W1.heap.size≤w2.heap.size:=hB2.size
 clear hJ2 hB2
 obtain⟨P,hP⟩:∃P,P=zav ({j with acts:=j.acts+1}:Jn) ⟨ak,ah,ab,an,at0⟩:=⟨_,rfl⟩
 rw[←hP] at HE HJ2⊢
 have HE3:Hid (doJ j ⟨ak,ah,ab,an,at0⟩=(P.1,⟨P.2.code,P.2.n,P.2.text⟩)):=HE.o
 rw[show vRp P.2=.agg #[.int .i64 P.2.code,.int .i64 P.2.n,.string P.2.text] from rfl]
 clear hP HE
 obtain⟨⟨y0,y1,y2⟩,yf⟩:=zbd KR2.o
 go_wp2
 exact za5 HE3.o KR2.o HJ2.o HB2.o hrB hBX fun W u0 u1 u2=>by simp[results,Tryz.results8,go_sem,u0,u1,u2]
theorem zgm (B:Nat)(X:List Nat)(j:Jn)(w:World)(h:JAt w B X j)(hX:∀x∈X,x<w.heap.size)(hK:Ready j)(ac:Ac)(hn:ac.n≤9223372036854775807)(ht:ac.text.size≤maxLen):
  Calls Tryz.prog 8 #[.pointer (some ⟨B,0,none⟩),vAc ac] w (zc4 w B X (doJ j ac)):=by
 obtain⟨ak,ah,ab,an,at0⟩:=ac
 by_cases hf:400≤j.acts
 ·exact zsu B X j w h hX hK ak ah ab an at0 hn ht hf
 by_cases hl:ak<1
 ·exact zv3 B X j w h hX hK ak ah ab an at0 hn ht hf hl
 by_cases hh:11<ak
 ·exact zsv B X j w h hX hK ak ah ab an at0 hn ht hf hh
 by_cases k8:ak=8
 ·subst k8;exact z1b B X j w h hX hK ah ab an at0 hn ht hf
 by_cases k10:ak=10
 ·subst k10;exact zy7 B X j w h hX hK ah ab an at0 hn ht hf
 by_cases k11:ak=11
 ·subst k11;exact zy8 B X j w h hX hK ah ab an at0 hn ht hf
 cases hd:j.down with
 |true=>exact zsw B X j w h hX hK ak ah ab an at0 hn ht hf (by omega) (by omega) k8 k10 k11 hd
 |false=>exact zy9 B X j w h hX hK ak ah ab an at0 hn ht hf (by omega) (by omega) k8 k10 k11 hd
theorem z1s:goodM (superMk 0 1)=0:=by kernel_rfl
def z1c:Dk:=⟨encT (superMk 0 1)::List.replicate 36 (fitT ⟨#[]⟩),[]⟩
theorem z2h:zzk=zep z1c 0 1:=rfl
def zll (bs:Nat)(D:Nat)(g:Nat)(c:Nat)(s:ByteArray):Nat→Value→World→Prop
 |0,v,_=>v=.pointer (some ⟨D,0,none⟩)
 |1,v,_=>v=.slice (some ⟨g,0,none⟩) 37 c
 |2,v,_=>v=.agg #[.int .i64 1,.int .i64 1,.int .i64 0,.slice none 0 0,.slice none 0 0]
 |3,v,_=>v=.tuple #[.string s,.int .i64 0]
 |4,v,_=>v=.tuple #[.string s,.int .i64 0]
 |5,v,_=>v=.string s
 |6,v,_=>v=.int .i64 0
 |7,v,_=>v=.pointer (some ⟨g,0,none⟩)
 |8,_,w=>w.ownsRow bs 9 1 (.slice (some ⟨g,0,none⟩) 37 c) 37 (cellsS (s::List.replicate 36 (fitT ⟨#[]⟩)))
 |_,_,_=>True
theorem zqp {bs:Nat}{D:Nat}{g:Nat}{c:Nat}{s:ByteArray}{w w':World}(hb:Below w.heap.size w w'){i:Nat}:∀kk uu,kk≠i→zll bs D g c s kk uu w→zll bs D g c s kk uu w':=by
 intro kk uu _ h
 match kk,h with
 |0,h|1,h|2,h|3,h|4,h|5,h|6,h|7,h=>exact h
 |8,h=>exact zae h hb
 |_+9,_=>exact trivial
theorem zv4 {bs:Nat}{D:Nat}{g:Nat}{c:Nat}{s:ByteArray}{w w':World}:∀kk x,kk≠8→zll bs D g c s kk x w→zll bs D g c s kk x w':=by
 intro kk x hk h
 match kk,h with
 |0,h|1,h|2,h|3,h|4,h|5,h|6,h|7,h=>exact h
 |8,_=>exact absurd rfl hk
 |_+9,_=>exact trivial
def newR (w:World)(D g c:Nat)(w':World):Prop:=Below w.heap.size w w'∧w'.heap[D]?=some (.cells #[.slice (some ⟨g,0,none⟩) 37 c,.slice none 0 0] 45 (0,0))∧∃t,w'.ownsRow w.heap.size 9 1 (.slice (some ⟨g,0,none⟩) 37 c) 37 (cellsS (t::List.replicate 36 (fitT ⟨#[]⟩)))
theorem newR.below {w:World}{D g c:Nat}{w' w2:World}(h:newR w D g c w')(hb:Below w'.heap.size w' w2):newR w D g c w2:=⟨zad h.1 hb,zac hb (Array.getElem?_eq_some_iff.1 h.2.1).1 h.2.1,h.2.2.imp fun _ ho=>zae ho hb⟩
theorem zto (w:World):
  Calls Tryz.prog 10 #[] w fun e w'=>∃B,e=.returned (.pointer (some ⟨B,0,none⟩))∧w.heap.size≤B∧(∀X:List Nat,(∀x∈X,x<w.heap.size)→JAt w' B (B::X) zzk)∧Below w.heap.size w w':=by
 obtain⟨s,hs⟩:∃s,s=encT (superMk 0 1):=⟨_,rfl⟩
 have HS:=zaa hs
 clear hs
 go_enter Tryz.func10,Tryz.ntmps10
 go_wp2_with fail
 refine(z2g _).mono ?_
 rintro e w1 ⟨g,c,rfl,hown,hb1⟩
 have hgl:=hown.lt g rfl
 have hg1:w.heap.size≤g:=hgl.1
 have hg2:g<w1.heap.size:=hgl.2
 go_wp2
 rename_i KK hKK
 obtain⟨W1,hW1⟩:∃W1,W1=w1.alloc (.cells #[.slice (some ⟨g,0,none⟩) 37 c,.slice none 0 0] 45):=⟨_,rfl⟩
 have hb11:Below w1.heap.size w1 W1:=by rw[hW1];exact below1 _ _
 have HOW:=zaa (zae hown hb11)
 have HB1:=zaa (zad hb1 hb11)
 have KD:Hid (W1.heap[w1.heap.size]?=some (.cells #[.slice (some ⟨g,0,none⟩) 37 c,.slice none 0 0] 45 (0,0))):=by rw[hW1];exact heap_alloc_new _ _
 have hs1:W1.heap.size=w1.heap.size+1:=by rw[hW1];simp
 have hs01:w.heap.size≤w1.heap.size:=hb1.size
 rw[←hW1]
 clear hW1 hb11 hown hb1 hgl
 have HR1:Hid (newR w w1.heap.size g c W1):=⟨HB1.o,KD.o,fitT ⟨#[]⟩,HOW.o⟩
 have TAIL:∀(g0 g2 g3 g4 g5 g6 g7 g8 g9 g10 g11 g12 g13:Value) (W:World),W.ownsRow w.heap.size 9 1 (.slice (some ⟨g,0,none⟩) 37 c) 37 (cellsS (s::List.replicate 36 (fitT ⟨#[]⟩)))→Below w.heap.size w W→W.heap[w1.heap.size]?=some (.cells #[.slice (some ⟨g,0,none⟩) 37 c,.slice none 0 0] 45 (0,0))→KK ⟨#[g0,.pointer (some ⟨w1.heap.size,0,none⟩),g2,g3,g4,g5,g6,g7,g8,g9,g10,g11,g12,g13],[]⟩ W:=by
  intro g0 g2 g3 g4 g5 g6 g7 g8 g9 g10 g11 g12 g13 W3 hst hb3 hd3
  apply hKK
  clear hKK
  have HST:=zaa hst
  have HB3:=zaa hb3
  have KD3:=zaa hd3
  obtain⟨⟨y0,y1⟩,_⟩:=zfo KD3.o
  clear hst hb3 hd3
  go_wp2_with fail
  refine(begun_any z1c (some ⟨g,0,none⟩) c none 0 0 1 W3 (by decide+kernel)).mono ?_
  rintro e w4 ⟨rfl,hb4⟩
  have HST4:=zaa (zae HST.o hb4)
  have HB4:=zaa (zad HB3.o hb4)
  have hs4:W3.heap.size≤w4.heap.size:=hb4.size
  clear y0 y1 hb4
  obtain⟨CS,hCS⟩:∃CS,CS=zbh (zep z1c 0 1) (some ⟨g,0,none⟩) c none 0 none 0 none 0 none 0 none 0 none 0 none 0 none 0 none 0 none 0:=⟨_,rfl⟩
  rw[←hCS]
  have HCS:=zaa hCS
  have HIN:Hid ((Tryz.prog.info? 74).map (·.size)=some CS.size):=by rw[Hid,HCS.o];exact z04 _ _ _ _ _ _ _ _ _ _ _ _ _ _ _ _ _ _ _ _ _ _ _
  have HON:Hid (CS.all (·.oneCell')=true):=by rw[Hid,HCS.o];exact zg7 _ _ _ _ _ _ _ _ _ _ _ _ _ _ _ _ _ _ _ _ _ _ _
  have HSZ:Hid (57=CS.size):=by rw[Hid,HCS.o];kernel_rfl
  clear hCS
  dsimp only
  repeat (first|(refine wpList_store_rowTo rfl _ _ _ rfl rfl w4.heap.size CS rfl rfl _ _ (heap_alloc_new _ _) HIN.o HSZ.o HON.o ?_)|go_step)
  refine bodyPost_ret (results_tmp rfl _ _ _) rfl ⟨w4.heap.size,rfl,HB4.o.size,fun X hX=>?_,?_⟩
  ·rw[HCS.o,z2h]
   refine JAt.putAll (by simp) (heap_alloc_new w4 _) (some ⟨g,0,none⟩) c none 0 none 0 none 0 none 0 none 0 none 0 none 0 none 0 none 0 none 0 ⟨?_,zpz _ _,zpz _ _,.inl rfl,.inl rfl,.inl rfl,z03 _,Nat.le_refl _,Nat.le_refl _,Nat.le_refl _⟩
   have hg4:g<w4.heap.size:=(HST4.o.lt g rfl).2
   obtain⟨a2,c2,hv,hS,_⟩:=SegS.of_owns (zae HST4.o (below1 w4 _))
   simp only[Value.slice.injEq] at hv
   obtain⟨rfl,_,rfl⟩:=hv
   rw[HS.o] at hS
   refine⟨some ⟨g,0,none⟩,c,none,0,rfl,?_,.inl rfl,by decide+kernel,by decide+kernel⟩
   rcases hS with h0|⟨b,off,he,hlt,hc⟩
   ·cases h0
   ·cases he
    refine .inr ⟨g,0,rfl,by rw[zbc];exact hlt,fun i hi=>zbs ?_ (hc i hi)⟩
    simp only[List.mem_cons,not_or]
    exact⟨by omega,fun hx=>by have:=hX g hx;omega⟩
  ·exact((ButL.of_below (X:=[]) (HB4.o.alloc HB4.o.size _)).setRow (.inr HB4.o.size) CS).below
 have HTAIL:=zaa TAIL
 clear TAIL hKK
 refine(show∀A0:Act,A0=_→Code.wp Tryz.prog _ _ A0 _ from fun A0 hA0=>?_) _ rfl
 have hsz:A0.tmps.size=14:=by rw[hA0];rfl
 have hdf:A0.defers=[]:=by rw[hA0]
 have v1:A0.eval (.tmp 1)=.pointer (some ⟨w1.heap.size,0,none⟩):=by rw[hA0];rfl
 clear hA0
 refine zef (fun w'=>newR w w1.heap.size g c w') [5,6,7,8,4,9,10,11,11] (zll w.heap.size w1.heap.size g c s) (by kernel_rfl) (by kernel_rfl) (by kernel_rfl) (HR1.o.below (Below.refl _ _).drew) ⟨?_,?_,?_,?_,?_,?_,?_,?_,?_,trivial⟩ ?_
 ·intro a w' hF hR hp
  have z1:=(hF.other 1 rfl).trans v1
  exact zah _ rfl rfl (by revert z1;generalize a.eval=ρ;intro z1;simp only[execOp];go_simp) hF hsz hR rfl
 ·intro a w' hF hR hp
  have p5:a.eval (.tmp 5)=.pointer (some ⟨w1.heap.size,0,none⟩):=hp ⟨0,.data⟩ (by simp) rfl
  have c0:w'.cell? ⟨w1.heap.size,0,none⟩=some (.slice (some ⟨g,0,none⟩) 37 c):=(zfo hR.2.1).1.1
  exact zah _ rfl rfl (by revert p5;generalize a.eval=ρ;intro p5;simp only[execOp];go_simp) hF hsz hR rfl
 ·intro a w' hF hR hp
  exact zah _ rfl rfl (by have pc0:=Act.eval_const a (.int .i64 1);revert pc0;generalize a.eval=ρ;intro pc0;simp only[execOp];go_simp) hF hsz hR rfl
 ·intro a w' hF hR hp
  have p7:a.eval (.tmp 7)=.agg #[.int .i64 1,.int .i64 1,.int .i64 0,.slice none 0 0,.slice none 0 0]:=hp ⟨2,.data⟩ (by simp) rfl
  refine zbn 28 #[.agg #[.int .i64 1,.int .i64 1,.int .i64 0,.slice none 0 0,.slice none 0 0]] rfl rfl (by have pf:=Act.eval_func a 28;revert p7 pf;generalize a.eval=ρ;intro p7 pf;simp only[execOp];go_simp) _ (stampEncode_any _ (superMk 0 1) _ ⟨none,0,none,0,rfl,.inl rfl,.inl rfl,Nat.zero_le _,Nat.zero_le _⟩) ?_
  rintro e w2 ⟨rfl,hb2⟩
  refine⟨_,rfl,_,rfl,hR.below hb2,?_,zqp hb2⟩
  show zll _ _ _ _ _ _ ((a.put (some 8) _).eval (.tmp 8)) w2
  rw[zal hF hsz (by decide)]
  rw[HS.o,z1s]
  exact rfl
 ·intro a w' hF hR hp
  have p8:a.eval (.tmp 8)=.tuple #[.string s,.int .i64 0]:=hp ⟨3,.data⟩ (by simp) rfl
  exact zah _ rfl rfl (by revert p8;generalize a.eval=ρ;intro p8;simp only[execOp];go_simp) hF hsz hR rfl
 ·intro a w' hF hR hp
  have p4:a.eval (.tmp 4)=.tuple #[.string s,.int .i64 0]:=hp ⟨4,.data⟩ (by simp) rfl
  exact zah _ rfl rfl (by revert p4;generalize a.eval=ρ;intro p4;simp only[execOp];go_simp) hF hsz hR rfl
 ·intro a w' hF hR hp
  have p4:a.eval (.tmp 4)=.tuple #[.string s,.int .i64 0]:=hp ⟨4,.data⟩ (by simp) rfl
  exact zah _ rfl rfl (by revert p4;generalize a.eval=ρ;intro p4;simp only[execOp];go_simp) hF hsz hR rfl
 ·intro a w' hF hR hp
  have p6:a.eval (.tmp 6)=.slice (some ⟨g,0,none⟩) 37 c:=hp ⟨1,.data⟩ (by simp) rfl
  exact zah _ rfl rfl (by have pc0:=Act.eval_const a (.int .i64 0);revert p6 pc0;generalize a.eval=ρ;intro p6 pc0;simp only[execOp];go_simp) hF hsz hR rfl
 ·intro a w' hF hR hp
  have p9:a.eval (.tmp 9)=.string s:=hp ⟨5,.data⟩ (by simp) rfl
  have p11:a.eval (.tmp 11)=.pointer (some ⟨g,0,none⟩):=hp ⟨7,.data⟩ (by simp) rfl
  obtain⟨hRb,hRd,t,hRo⟩:=hR
  have hcW:w'.cell? ⟨g,0,none⟩=some (.string t):=by rw[hRo.cellAt 0 (by decide)];rfl
  have hfW:w'.frozen? ⟨g,0,none⟩=false:=hRo.frozenAt 0
  have hst:=(hRo.stored 0 (.string s)).1
  have hst2:(w'.setCell ⟨g,0,none⟩ (.string s)).ownsRow w.heap.size 9 1 (.slice (some ⟨g,0,none⟩) 37 c) 37 (cellsS (s::List.replicate 36 (fitT ⟨#[]⟩))):=hst
  refine zcg rfl rfl (w':=w'.setCell ⟨g,0,none⟩ (.string s)) (by revert p9 p11;generalize a.eval=ρ;intro p9 p11;simp only[execOp];go_simp) ⟨_,rfl,⟨hRb.setCell (p:=⟨g,0,none⟩) hg1 _,(Below.heap_setCell _ _ _ _ (by simp only;omega)).trans hRd,s,hst2⟩,?_,zv4⟩
  show zll _ _ _ _ _ _ _ _
  exact hst2
 ·intro a W hF hR hp
  have hst:W.ownsRow w.heap.size 9 1 (.slice (some ⟨g,0,none⟩) 37 c) 37 (cellsS (s::List.replicate 36 (fitT ⟨#[]⟩))):=hp 8 (by decide)
  have hsa:a.tmps.size=14:=hF.size.trans hsz
  have f1:a.eval (.tmp 1)=.pointer (some ⟨w1.heap.size,0,none⟩):=(hF.other 1 rfl).trans v1
  have hlit:a=⟨#[_,_,_,_,_,_,_,_,_,_,_,_,_,_],[]⟩:=zcd a 14 hsa (hF.defers.trans hdf)
  dsimp only at hlit
  rw[f1] at hlit
  show KK a _
  exact(congrArg (fun x=>KK x _) hlit).mpr (HTAIL.o (a.eval (.tmp 0)) (a.eval (.tmp 2)) (a.eval (.tmp 3)) (a.eval (.tmp 4)) (a.eval (.tmp 5)) (a.eval (.tmp 6)) (a.eval (.tmp 7)) (a.eval (.tmp 8)) (a.eval (.tmp 9)) (a.eval (.tmp 10)) (a.eval (.tmp 11)) (a.eval (.tmp 12)) (a.eval (.tmp 13)) W hst hR.1 hR.2.1)
theorem Move.acts {j:Jn}{a:Ac}{j':Jn}{r:Rp}(m:Move j a j' r):j'.acts=j.acts:=by
 cases m with
 |last hk s hs he=>
  rw[zbv]
  split
  ·rfl
  split
  ·rfl
  split
  ·rfl
  ·rfl
 |_=>rfl
theorem z3l {j:Jn}{D:Dk}(h:Md j D)(a:Ac)(h0:0≤j.acts)(h1:j.acts≤400):
  (400≤j.acts∧doJ j a=(j,zan 11))∨(j.acts<400∧(doJ j a).1.acts=j.acts+1∧∃D',Md (doJ j a).1 D'∧Trans {j with acts:=j.acts+1} D a (doJ j a).1 (doJ j a).2 D'):=by
 by_cases hf:400≤j.acts
 ·exact .inl ⟨hf,by rw[doJ,if_pos hf]⟩
 ·have e:doJ j a=doneJ {j with acts:=j.acts+1} a:=by rw[doJ,if_neg hf]
  have m:=zkt {j with acts:=j.acts+1} a
  rw[e]
  refine .inr ⟨by omega,m.acts,(h.bump (x:=j.acts+1) (by omega)).move m (fun hk hs=>?_)⟩
  show j.now.seq≤j.acts+1
  cases h with
  |idle p hs hz hD ht hq=>exact p.seq
  |commit P U k p hw hk hs hD ht he hse hrh hru hq hN=>exact p.seq
  |check k p hw hz hk hs hD ht hq=>exact p.seq
  |off l N P U p hs hf hD ht=>rw[p.now];show(0:Int)≤_;omega
  |back U k p hw hk hs hD ht=>rw[p.now];show(0:Int)≤_;omega
theorem zzb:Tells z1c [] 1 0 0:=by
 have hg:zat z1c=true:=by kernel_rfl
 refine zpr hg rfl (by kernel_rfl) z1s (fun n h1 h2=>?_)
 have hr:zai z1c n=fitT ⟨#[]⟩:=by
  rw[z1c,zf7 hg (by omega)]
  obtain⟨m,rfl⟩:∃m,n=m+1:=⟨n - 1,by omega⟩
  rw[List.getD_cons_succ,List.getD,List.getElem?_replicate,if_pos (by omega)]
  rfl
 rw[hr]
 intro he
 rw[zza] at he
 cases he
theorem z3m:Md zzk z1c:=.idle ⟨rfl,zn2 (by decide) (by decide),by decide,rfl,rfl,fun hb=>by cases hb⟩ rfl rfl rfl zzb rfl
theorem Md.ready {j:Jn}{D:Dk}(h:Md j D)(h0:0≤j.acts)(h1:j.acts≤400):Ready j:=by
 have wrp:∀x:Int, -10≤x→x≤1000→IntKind.i64.wrap x=x:=fun x _ _=>by rw[IntKind.wrap_i64];omega
 have pw:∀{l:List Tx} {N P U:Int},Pow j→j.done.length≤24→j.now.seq≤j.last+2→j.last+1≤j.now.seq→0≤j.last→0≤j.ru→j.ru≤24→Ready j:=by
  intro _ _ _ _ p hd hq hq2 hl hu0 hu1
  have hs:=zaq p.good
  have hsq:=p.seq
  refine⟨by omega,by rw[p.fL];exact Nat.zero_le _,by rw[p.fN];exact wrp _ (by omega) (by omega),wrp _ (by omega) (by omega),wrp _ (by omega) (by omega),by omega,by omega,(fun hd2=>by rw[p.up] at hd2;cases hd2),hu0,hu1,h0,h1⟩
 have len:∀{N P U:Int},Tells D (j.done.map zdu) N P U→j.done.length≤24:=by
  intro N P U ht
  have h5:=zni D
  rw[ht.tL,List.length_map] at h5
  exact h5
 have dn:∀{N:Int},Dn j N→j.fL.length≤24→ -1≤j.fN→j.fN≤402→(j.steps=[]→∀t∈fndL j.disk,Few t)→Ready j:=by
  intro N p hf hf0 hf1 hfew
  have h5:=p.lo
  have h6:=p.seq
  have h7:=p.last0
  refine⟨by rw[p.done];exact Nat.zero_le _,by unfold maxLen;omega,wrp _ (by omega) (by omega),by rw[p.now];exact wrp _ (by decide) (by decide),wrp _ (by omega) (by omega),by rw[p.now];decide,by rw[p.now];decide,fun _=>hfew,by rw[p.ru];exact Int.le_refl _,by rw[p.ru];decide,h0,h1⟩
 cases h with
 |idle p hs hz hD ht hq=>have:=ht.range;exact pw (l:=[]) (N:=0) (P:=0) (U:=0) p (len ht) (by omega) (by omega) (by omega) (by omega) (by omega)
 |commit P U k p hw hk hs hD ht he hse hrh hru hq hN=>
  have:=ht.range
  obtain⟨_,hg,_,hU0,hUn⟩:=zbt he
  have hn:=zeb j.sealed (zaq hg).1 (zaq hg).2.2
  have hUU:zb4 P U j.sealed=U+needN j.sealed.info.length j.sealed.rev.length:=by
   have h5:=he
   unfold sealE at h5
   split at h5
   ·cases h5
   ·rw[zb4,if_pos he,takeU,if_pos h5]
  exact pw (l:=[]) (N:=0) (P:=0) (U:=0) p (len ht) (by omega) (by omega) (by omega) (by omega) (by omega)
 |check k p hw hz hk hs hD ht hq=>have:=ht.range;exact pw (l:=[]) (N:=0) (P:=0) (U:=0) p (len ht) (by omega) (by omega) (by omega) (by omega) (by omega)
 |off l N P U p hs hf hD ht=>
  refine dn p (by rw[hf.1];exact Nat.zero_le _) (by omega) (by omega) (fun _ t ht2=>z0o (ht.goods t ?_))
  rwa [hD,ht.tL] at ht2
 |back U k p hw hk hs hD ht=>
  have h5:=ht.range
  have h6:=p.seq
  refine dn p (by have h7:=zni D;rwa [ht.tL] at h7) (by omega) (by omega) (fun hs2=>?_)
  rw[hs2] at hs
  have:=congrArg List.length hs
  rw[List.length_drop] at this
  simp at this
  omega
def PJ (j:Jn):Prop:=∃D,Md j D∧0≤j.acts∧j.acts≤400
theorem PJ.ready {j:Jn}(h:PJ j):Ready j:=by
 obtain⟨D,h1,h2,h3⟩:=h
 exact h1.ready h2 h3
theorem PJ.do {j:Jn}(h:PJ j)(a:Ac):PJ (doJ j a).1:=by
 obtain⟨D,h1,h2,h3⟩:=h
 rcases z3l h1 a h2 h3 with⟨h4,h5⟩|⟨h4,h5,D',h6,_⟩
 ·rw[h5];exact⟨D,h1,h2,h3⟩
 ·exact⟨D',h6,by omega,by omega⟩
theorem PJ.new:PJ zzk:=⟨z1c,z3m,by decide,by decide⟩
def al1:Jn:=(doJ zzk ⟨1,0,0,2,⟨#[]⟩⟩).1
def al2:Jn:=(doJ al1 ⟨2,0,3,0,⟨#[120]⟩⟩).1
def al3:Jn:=(doJ al2 ⟨9,0,3,0,⟨#[]⟩⟩).1
theorem z3n:(doJ zzk ⟨1,0,0,2,⟨#[]⟩⟩).2.code=0:=by kernel_rfl
theorem z3o:(doJ al1 ⟨2,0,3,0,⟨#[120]⟩⟩).2.code=0:=by kernel_rfl
theorem z1t:(doJ al2 ⟨9,0,3,0,⟨#[]⟩⟩).2.n=1∧(doJ al2 ⟨9,0,3,0,⟨#[]⟩⟩).2.text=fitT ⟨#[120]⟩:=⟨by kernel_rfl,by kernel_rfl⟩
theorem z3p:(doJ al3 ⟨6,0,0,0,⟨#[]⟩⟩).2.code=9:=by kernel_rfl
def zdw (R1:Nat)(R2:Nat)(R3:Nat)(R4:Nat)(z:ByteArray):Nat→Value→World→Prop
 |0,v,_=>v=.pointer (some ⟨R1,0,none⟩)
 |1,v,_=>v=.int .i64 0
 |2,v,_=>v=.bool true
 |3,v,_=>v=.bool true
 |4,v,_=>v=.pointer (some ⟨R2,0,none⟩)
 |5,v,_=>v=.int .i64 0
 |6,v,_=>v=.bool true
 |7,v,_=>v=.bool true
 |8,v,_=>v=.bool true
 |9,v,_=>v=.pointer (some ⟨R3,2,none⟩)
 |10,v,_=>v=.string z
 |11,v,_=>v=.string z
 |12,v,_=>v=.bool true
 |13,v,_=>v=.bool true
 |14,v,_=>v=.bool true
 |15,v,_=>v=.pointer (some ⟨R3,1,none⟩)
 |16,v,_=>v=.int .i64 1
 |17,v,_=>v=.bool true
 |18,v,_=>v=.bool true
 |19,v,_=>v=.bool true
 |20,v,_=>v=.pointer (some ⟨R4,0,none⟩)
 |21,v,_=>v=.int .i64 9
 |22,v,_=>v=.bool true
 |23,v,_=>v=.bool true
 |24,v,_=>v=.bool true
 |_,_,_=>True
theorem zqq {R1:Nat}{R2:Nat}{R3:Nat}{R4:Nat}{z:ByteArray}{w w':World}(_hb:Below w.heap.size w w'){i:Nat}:∀kk uu,kk≠i→zdw R1 R2 R3 R4 z kk uu w→zdw R1 R2 R3 R4 z kk uu w':=by
 intro kk uu _ h
 match kk,h with
 |0,h|1,h|2,h|3,h|4,h|5,h|6,h|7,h|8,h|9,h|10,h|11,h|12,h|13,h|14,h|15,h|16,h|17,h|18,h|19,h|20,h|21,h|22,h|23,h|24,h=>exact h
 |_+25,_=>exact trivial
theorem zzc (w:World):Calls Tryz.prog 19 #[] w fun e w'=>e=.returned (.bool true)∧Below w.heap.size w w':=by
 obtain⟨z,hz⟩:∃z,z=fitT ⟨#[120]⟩:=⟨_,rfl⟩
 have HZ:=zaa hz
 clear hz
 go_enter Tryz.func19,Tryz.ntmps19
 go_wp2_with fail
 refine(zto _).mono ?_
 rintro e w1 ⟨B,rfl,hB0,hJ,hbn⟩
 have HJ0:=zaa (hJ [] (by simp))
 have hBl:B<w1.heap.size:=HJ0.o.lt
 have HBW0:=zaa hbn
 have hs0:w.heap.size≤w1.heap.size:=hbn.size
 have HP0:=zaa PJ.new
 have HF0:Hid (∀P,P=doJ zzk ⟨1,0,0,2,⟨#[]⟩⟩→P.2.code=0∧∀j1,j1=P.1→∀P,P=doJ j1 ⟨2,0,3,0,⟨#[120]⟩⟩→P.2.code=0∧∀j2,j2=P.1→∀P,P=doJ j2 ⟨9,0,3,0,⟨#[]⟩⟩→P.2.n=1∧P.2.text=z∧∀j3,j3=P.1→∀P,P=doJ j3 ⟨6,0,0,0,⟨#[]⟩⟩→P.2.code=9∧True):=by
  rintro P rfl
  refine⟨z3n,?_⟩
  rintro j1 rfl P rfl
  refine⟨z3o,?_⟩
  rintro j2 rfl P rfl
  refine⟨z1t.1,z1t.2.trans HZ.o.symm,?_⟩
  rintro j3 rfl P rfl
  exact⟨z3p,trivial⟩
 clear hJ hbn
 obtain⟨j0,hj0⟩:∃j0,j0=zzk:=⟨_,rfl⟩
 rw[←hj0] at HJ0 HP0 HF0
 clear hj0
 go_wp2_with fail
 refine(zgm B [B] j0 w1 HJ0.o (fun x hx=>by rw[List.mem_singleton.1 hx];omega) HP0.o.ready ⟨1,0,0,2,⟨#[]⟩⟩ (by decide) (by decide)).mono ?_
 rintro e w0b ⟨rfl,hJ,hB⟩
 obtain⟨P,hP⟩:∃P,P=doJ j0 ⟨1,0,0,2,⟨#[]⟩⟩:=⟨_,rfl⟩
 have HP1:Hid (PJ P.1):=by rw[hP];exact HP0.o.do _
 have HQ0:=zaa (HF0.o P hP)
 rw[←hP] at hJ⊢
 have hvr:vRp P.2=.agg #[.int .i64 0,.int .i64 P.2.n,.string P.2.text]:=by
  show Value.agg #[.int .i64 P.2.code,.int .i64 P.2.n,.string P.2.text]=_
  rw[HQ0.o.1]
 rw[hvr]
 obtain⟨j1,hj1⟩:∃x,x=P.1:=⟨_,rfl⟩
 rw[←hj1] at HP1 hJ
 have HF1:=zaa (HQ0.o.2 j1 hj1)
 clear hj1 hvr
 generalize P.2.n=n1 at *
 generalize P.2.text=t1 at *
 generalize P.2.code=c1 at *
 clear hP
 have hbs:w1.heap.size≤w0b.heap.size:=hB.size
 have HBB0:Hid (Below w.heap.size w w0b):=by
  have hx:=HBW0.o
  exact⟨hB.os.trans hx.os,hB.tape.trans hx.tape,hB.output.trans hx.output,Nat.le_trans hx.size hB.size,fun q hq=>(hB.block q (by have:=hx.size;omega) (by simp;omega)).trans (hx.block q hq)⟩
 go_wp2_with fail
 obtain⟨W1,hW⟩:∃W,W=w0b.alloc (.cells #[.int .i64 0,.int .i64 n1,.string t1] 31):=⟨_,rfl⟩
 rw[←hW]
 have hbn:Below w0b.heap.size w0b W1:=by rw[hW];exact below1 _ _
 have HJ1:=zaa (hJ.below hbn)
 have HBW1:=zaa (zad HBB0.o hbn)
 have hsz1:W1.heap.size=w0b.heap.size+1:=by rw[hW];simp
 have KR0:Hid (W1.heap[w0b.heap.size]?=some (.cells #[.int .i64 0,.int .i64 n1,.string t1] 31 (0,0))):=by rw[hW];exact heap_alloc_new _ _
 clear hW hbn hJ hB HBB0 HBW0
 refine(zgm B [B] j1 W1 HJ1.o (fun x hx=>by rw[List.mem_singleton.1 hx];omega) HP1.o.ready ⟨2,0,3,0,⟨#[120]⟩⟩ (by decide) (by decide)).mono ?_
 rintro e w1b ⟨rfl,hJ,hB⟩
 obtain⟨P,hP⟩:∃P,P=doJ j1 ⟨2,0,3,0,⟨#[120]⟩⟩:=⟨_,rfl⟩
 have HP2:Hid (PJ P.1):=by rw[hP];exact HP1.o.do _
 have HQ1:=zaa (HF1.o P hP)
 rw[←hP] at hJ⊢
 have hvr:vRp P.2=.agg #[.int .i64 0,.int .i64 P.2.n,.string P.2.text]:=by
  show Value.agg #[.int .i64 P.2.code,.int .i64 P.2.n,.string P.2.text]=_
  rw[HQ1.o.1]
 rw[hvr]
 obtain⟨j2,hj2⟩:∃x,x=P.1:=⟨_,rfl⟩
 rw[←hj2] at HP2 hJ
 have HF2:=zaa (HQ1.o.2 j2 hj2)
 clear hj2 hvr
 generalize P.2.n=n2 at *
 generalize P.2.text=t2 at *
 generalize P.2.code=c2 at *
 clear hP
 have hbs:W1.heap.size≤w1b.heap.size:=hB.size
 have KR0b:=zaa ((hB.block _ (by omega) (by simp;omega)).trans KR0.o)
 clear KR0
 have KR0:=KR0b
 clear KR0b
 have HBB1:Hid (Below w.heap.size w w1b):=by
  have hx:=HBW1.o
  exact⟨hB.os.trans hx.os,hB.tape.trans hx.tape,hB.output.trans hx.output,Nat.le_trans hx.size hB.size,fun q hq=>(hB.block q (by have:=hx.size;omega) (by simp;omega)).trans (hx.block q hq)⟩
 go_wp2_with fail
 obtain⟨W2,hW⟩:∃W,W=w1b.alloc (.cells #[.int .i64 0,.int .i64 n2,.string t2] 31):=⟨_,rfl⟩
 rw[←hW]
 have hbn:Below w1b.heap.size w1b W2:=by rw[hW];exact below1 _ _
 have HJ2:=zaa (hJ.below hbn)
 have HBW2:=zaa (zad HBB1.o hbn)
 have hsz2:W2.heap.size=w1b.heap.size+1:=by rw[hW];simp
 have KR1:Hid (W2.heap[w1b.heap.size]?=some (.cells #[.int .i64 0,.int .i64 n2,.string t2] 31 (0,0))):=by rw[hW];exact heap_alloc_new _ _
 have KR0b:=zaa (zac hbn (by omega) KR0.o)
 clear KR0
 have KR0:=KR0b
 clear KR0b
 clear hW hbn hJ hB HBB1 HBW1
 refine(zgm B [B] j2 W2 HJ2.o (fun x hx=>by rw[List.mem_singleton.1 hx];omega) HP2.o.ready ⟨9,0,3,0,⟨#[]⟩⟩ (by decide) (by decide)).mono ?_
 rintro e w2b ⟨rfl,hJ,hB⟩
 obtain⟨P,hP⟩:∃P,P=doJ j2 ⟨9,0,3,0,⟨#[]⟩⟩:=⟨_,rfl⟩
 have HP3:Hid (PJ P.1):=by rw[hP];exact HP2.o.do _
 have HQ2:=zaa (HF2.o P hP)
 rw[←hP] at hJ⊢
 have hvr:vRp P.2=.agg #[.int .i64 P.2.code,.int .i64 1,.string z]:=by
  show Value.agg #[.int .i64 P.2.code,.int .i64 P.2.n,.string P.2.text]=_
  rw[HQ2.o.1,HQ2.o.2.1]
 rw[hvr]
 obtain⟨j3,hj3⟩:∃x,x=P.1:=⟨_,rfl⟩
 rw[←hj3] at HP3 hJ
 have HF3:=zaa (HQ2.o.2.2 j3 hj3)
 clear hj3 hvr
 generalize P.2.n=n3 at *
 generalize P.2.text=t3 at *
 generalize P.2.code=c3 at *
 clear hP
 have hbs:W2.heap.size≤w2b.heap.size:=hB.size
 have KR0b:=zaa ((hB.block _ (by omega) (by simp;omega)).trans KR0.o)
 clear KR0
 have KR0:=KR0b
 clear KR0b
 have KR1b:=zaa ((hB.block _ (by omega) (by simp;omega)).trans KR1.o)
 clear KR1
 have KR1:=KR1b
 clear KR1b
 have HBB2:Hid (Below w.heap.size w w2b):=by
  have hx:=HBW2.o
  exact⟨hB.os.trans hx.os,hB.tape.trans hx.tape,hB.output.trans hx.output,Nat.le_trans hx.size hB.size,fun q hq=>(hB.block q (by have:=hx.size;omega) (by simp;omega)).trans (hx.block q hq)⟩
 go_wp2_with fail
 obtain⟨W3,hW⟩:∃W,W=w2b.alloc (.cells #[.int .i64 c3,.int .i64 1,.string z] 31):=⟨_,rfl⟩
 rw[←hW]
 have hbn:Below w2b.heap.size w2b W3:=by rw[hW];exact below1 _ _
 have HJ3:=zaa (hJ.below hbn)
 have HBW3:=zaa (zad HBB2.o hbn)
 have hsz3:W3.heap.size=w2b.heap.size+1:=by rw[hW];simp
 have KR2:Hid (W3.heap[w2b.heap.size]?=some (.cells #[.int .i64 c3,.int .i64 1,.string z] 31 (0,0))):=by rw[hW];exact heap_alloc_new _ _
 have KR0b:=zaa (zac hbn (by omega) KR0.o)
 clear KR0
 have KR0:=KR0b
 clear KR0b
 have KR1b:=zaa (zac hbn (by omega) KR1.o)
 clear KR1
 have KR1:=KR1b
 clear KR1b
 clear hW hbn hJ hB HBB2 HBW2
 refine(zgm B [B] j3 W3 HJ3.o (fun x hx=>by rw[List.mem_singleton.1 hx];omega) HP3.o.ready ⟨6,0,0,0,⟨#[]⟩⟩ (by decide) (by decide)).mono ?_
 rintro e w3b ⟨rfl,hJ,hB⟩
 obtain⟨P,hP⟩:∃P,P=doJ j3 ⟨6,0,0,0,⟨#[]⟩⟩:=⟨_,rfl⟩
 have HP4:Hid (PJ P.1):=by rw[hP];exact HP3.o.do _
 have HQ3:=zaa (HF3.o P hP)
 rw[←hP] at hJ⊢
 have hvr:vRp P.2=.agg #[.int .i64 9,.int .i64 P.2.n,.string P.2.text]:=by
  show Value.agg #[.int .i64 P.2.code,.int .i64 P.2.n,.string P.2.text]=_
  rw[HQ3.o.1]
 rw[hvr]
 obtain⟨j4,hj4⟩:∃x,x=P.1:=⟨_,rfl⟩
 rw[←hj4] at HP4 hJ
 clear hj4 hvr
 generalize P.2.n=n4 at *
 generalize P.2.text=t4 at *
 generalize P.2.code=c4 at *
 clear hP
 have hbs:W3.heap.size≤w3b.heap.size:=hB.size
 have KR0b:=zaa ((hB.block _ (by omega) (by simp;omega)).trans KR0.o)
 clear KR0
 have KR0:=KR0b
 clear KR0b
 have KR1b:=zaa ((hB.block _ (by omega) (by simp;omega)).trans KR1.o)
 clear KR1
 have KR1:=KR1b
 clear KR1b
 have KR2b:=zaa ((hB.block _ (by omega) (by simp;omega)).trans KR2.o)
 clear KR2
 have KR2:=KR2b
 clear KR2b
 have HBB3:Hid (Below w.heap.size w w3b):=by
  have hx:=HBW3.o
  exact⟨hB.os.trans hx.os,hB.tape.trans hx.tape,hB.output.trans hx.output,Nat.le_trans hx.size hB.size,fun q hq=>(hB.block q (by have:=hx.size;omega) (by simp;omega)).trans (hx.block q hq)⟩
 go_wp2
 rename_i KK hKK
 obtain⟨W4,hW⟩:∃W,W=w3b.alloc (.cells #[.int .i64 9,.int .i64 n4,.string t4] 31):=⟨_,rfl⟩
 rw[←hW]
 have hbn:Below w3b.heap.size w3b W4:=by rw[hW];exact below1 _ _
 have HJ4:=zaa (hJ.below hbn)
 have HBW4:=zaa (zad HBB3.o hbn)
 have hsz4:W4.heap.size=w3b.heap.size+1:=by rw[hW];simp
 have KR3:Hid (W4.heap[w3b.heap.size]?=some (.cells #[.int .i64 9,.int .i64 n4,.string t4] 31 (0,0))):=by rw[hW];exact heap_alloc_new _ _
 have KR0b:=zaa (zac hbn (by omega) KR0.o)
 clear KR0
 have KR0:=KR0b
 clear KR0b
 have KR1b:=zaa (zac hbn (by omega) KR1.o)
 clear KR1
 have KR1:=KR1b
 clear KR1b
 have KR2b:=zaa (zac hbn (by omega) KR2.o)
 clear KR2
 have KR2:=KR2b
 clear KR2b
 clear hW hbn hJ hB HBB3 HBW3
 obtain⟨R1,hR1⟩:∃x,x=w0b.heap.size:=⟨_,rfl⟩
 obtain⟨R2,hR2⟩:∃x,x=w1b.heap.size:=⟨_,rfl⟩
 obtain⟨R3,hR3⟩:∃x,x=w2b.heap.size:=⟨_,rfl⟩
 obtain⟨R4,hR4⟩:∃x,x=w3b.heap.size:=⟨_,rfl⟩
 obtain⟨W,hW⟩:∃x,x=W4:=⟨_,rfl⟩
 rw[←hR1] at KR0
 rw[←hR2] at KR1
 rw[←hR3] at KR2
 rw[←hR4] at KR3
 rw[←hW] at KR0 KR1 KR2 KR3 HBW4
 rw[←hR1,←hR2,←hR3,←hR4,←hW]
 have C00:Hid (W.cell? ⟨R1,0,none⟩=some (.int .i64 0)):=(cell_of_row W _ 0 _ _ _ KR0.o).trans rfl
 have C01:Hid (W.cell? ⟨R1,1,none⟩=some (.int .i64 n1)):=(cell_of_row W _ 1 _ _ _ KR0.o).trans rfl
 have C02:Hid (W.cell? ⟨R1,2,none⟩=some (.string t1)):=(cell_of_row W _ 2 _ _ _ KR0.o).trans rfl
 have C10:Hid (W.cell? ⟨R2,0,none⟩=some (.int .i64 0)):=(cell_of_row W _ 0 _ _ _ KR1.o).trans rfl
 have C11:Hid (W.cell? ⟨R2,1,none⟩=some (.int .i64 n2)):=(cell_of_row W _ 1 _ _ _ KR1.o).trans rfl
 have C12:Hid (W.cell? ⟨R2,2,none⟩=some (.string t2)):=(cell_of_row W _ 2 _ _ _ KR1.o).trans rfl
 have C20:Hid (W.cell? ⟨R3,0,none⟩=some (.int .i64 c3)):=(cell_of_row W _ 0 _ _ _ KR2.o).trans rfl
 have C21:Hid (W.cell? ⟨R3,1,none⟩=some (.int .i64 1)):=(cell_of_row W _ 1 _ _ _ KR2.o).trans rfl
 have C22:Hid (W.cell? ⟨R3,2,none⟩=some (.string z)):=(cell_of_row W _ 2 _ _ _ KR2.o).trans rfl
 have C30:Hid (W.cell? ⟨R4,0,none⟩=some (.int .i64 9)):=(cell_of_row W _ 0 _ _ _ KR3.o).trans rfl
 have C31:Hid (W.cell? ⟨R4,1,none⟩=some (.int .i64 n4)):=(cell_of_row W _ 1 _ _ _ KR3.o).trans rfl
 have C32:Hid (W.cell? ⟨R4,2,none⟩=some (.string t4)):=(cell_of_row W _ 2 _ _ _ KR3.o).trans rfl
 have hR1l:R1<W.heap.size:=(Array.getElem?_eq_some_iff.1 KR0.o).1
 have hR2l:R2<W.heap.size:=(Array.getElem?_eq_some_iff.1 KR1.o).1
 have hR3l:R3<W.heap.size:=(Array.getElem?_eq_some_iff.1 KR2.o).1
 have hR4l:R4<W.heap.size:=(Array.getElem?_eq_some_iff.1 KR3.o).1
 clear hR1 hR2 hR3 hR4 hW
 have hR1:=hR1l
 have hR2:=hR2l
 have hR3:=hR3l
 have hR4:=hR4l
 have TAIL:∀(g:Nat→Value) (W':World),Below W.heap.size W W'→KK ⟨#[.bool true,g 1,g 2,g 3,g 4,g 5,g 6,g 7,g 8,g 9,g 10,g 11,g 12,g 13,g 14,g 15,g 16,g 17,g 18,g 19,g 20,g 21,g 22,g 23,g 24,g 25,g 26,g 27,g 28,g 29,g 30,g 31,g 32,g 33,g 34,g 35,g 36,g 37,g 38,g 39,g 40,g 41,g 42,g 43,g 44],[]⟩ W':=by
  intro g W' hb
  apply hKK
  clear hKK
  go_wp2
  go_ret
  exact⟨rfl,zad HBW4.o hb⟩
 have HTAIL:=zaa TAIL
 clear TAIL hKK
 refine(show∀A0:Act,A0=_→Code.wp Tryz.prog _ _ A0 _ from fun A0 hA0=>?_) _ rfl
 have hsz:A0.tmps.size=45:=by rw[hA0];rfl
 have hdf:A0.defers=[]:=by rw[hA0]
 have v2:A0.eval (.tmp 2)=.pointer (some ⟨R1,0,none⟩):=by rw[hA0];rfl
 have v3:A0.eval (.tmp 3)=.pointer (some ⟨R2,0,none⟩):=by rw[hA0];rfl
 have v4:A0.eval (.tmp 4)=.pointer (some ⟨R3,0,none⟩):=by rw[hA0];rfl
 have v5:A0.eval (.tmp 5)=.pointer (some ⟨R4,0,none⟩):=by rw[hA0];rfl
 clear hA0
 refine zef (fun w'=>Below W.heap.size W w') [21,22,23,24,25,26,27,28,29,30,31,32,33,34,35,36,37,38,39,40,41,42,43,44,0] (zdw R1 R2 R3 R4 z) (by kernel_rfl) (by kernel_rfl) (by kernel_rfl) ((Below.refl _ _).drew) ⟨?_,?_,?_,?_,?_,?_,?_,?_,?_,?_,?_,?_,?_,?_,?_,?_,?_,?_,?_,?_,?_,?_,?_,?_,?_,trivial⟩ ?_
 ·intro a w' hF hR hp
  have z2:=(hF.other 2 rfl).trans v2
  exact zah _ rfl rfl (by revert z2;generalize a.eval=ρ;intro z2;simp only[execOp];go_simp) hF hsz hR rfl
 ·intro a w' hF hR hp
  have p21:a.eval (.tmp 21)=.pointer (some ⟨R1,0,none⟩):=hp ⟨0,.data⟩ (by simp) rfl
  have c0:w'.cell? ⟨R1,0,none⟩=some (.int .i64 0):=zab hR hR1 C00.o
  exact zah _ rfl rfl (by revert p21;generalize a.eval=ρ;intro p21;simp only[execOp];go_simp) hF hsz hR rfl
 ·intro a w' hF hR hp
  have p22:a.eval (.tmp 22)=.int .i64 0:=hp ⟨1,.data⟩ (by simp) rfl
  exact zah _ rfl rfl (by have pc0:=Act.eval_const a (.int .i64 0);revert p22 pc0;generalize a.eval=ρ;intro p22 pc0;simp only[execOp];go_simp) hF hsz hR rfl
 ·intro a w' hF hR hp
  have p23:a.eval (.tmp 23)=.bool true:=hp ⟨2,.data⟩ (by simp) rfl
  exact zah _ rfl rfl (by revert p23;generalize a.eval=ρ;intro p23;simp only[execOp];go_simp) hF hsz hR rfl
 ·intro a w' hF hR hp
  have pg:a.eval (.tmp 24)=.bool true:=hp ⟨3,Ground.guard⟩ (by simp) rfl
  have z3:=(hF.other 3 rfl).trans v3
  refine zbu (.pointer (some ⟨R2,0,none⟩)) rfl (zbw (b:=true) rfl rfl pg) (by revert z3;generalize a.eval=ρ;intro z3;simp only[execOp];go_simp) ⟨_,rfl,hR,?_,fun _ _ _ h=>h⟩
  show zdw _ _ _ _ _ _ ((a.put (some 25) _).eval (.tmp 25)) w'
  rw[zal hF hsz (by decide)]
  exact rfl
 ·intro a w' hF hR hp
  have pg:a.eval (.tmp 24)=.bool true:=hp ⟨3,Ground.guard⟩ (by simp) rfl
  have p25:a.eval (.tmp 25)=.pointer (some ⟨R2,0,none⟩):=hp ⟨4,.data⟩ (by simp) rfl
  have c0:w'.cell? ⟨R2,0,none⟩=some (.int .i64 0):=zab hR hR2 C10.o
  refine zbu (.int .i64 0) rfl (zbw (b:=true) rfl rfl pg) (by revert p25;generalize a.eval=ρ;intro p25;simp only[execOp];go_simp) ⟨_,rfl,hR,?_,fun _ _ _ h=>h⟩
  show zdw _ _ _ _ _ _ ((a.put (some 26) _).eval (.tmp 26)) w'
  rw[zal hF hsz (by decide)]
  exact rfl
 ·intro a w' hF hR hp
  have pg:a.eval (.tmp 24)=.bool true:=hp ⟨3,Ground.guard⟩ (by simp) rfl
  have p26:a.eval (.tmp 26)=.int .i64 0:=hp ⟨5,.data⟩ (by simp) rfl
  refine zbu (.bool true) rfl (zbw (b:=true) rfl rfl pg) (by have pc0:=Act.eval_const a (.int .i64 0);revert p26 pc0;generalize a.eval=ρ;intro p26 pc0;simp only[execOp];go_simp) ⟨_,rfl,hR,?_,fun _ _ _ h=>h⟩
  show zdw _ _ _ _ _ _ ((a.put (some 27) _).eval (.tmp 27)) w'
  rw[zal hF hsz (by decide)]
  exact rfl
 ·intro a w' hF hR hp
  have p24:a.eval (.tmp 24)=.bool true:=hp ⟨3,.data⟩ (by simp) rfl
  have p27:a.eval (.tmp 27)=.bool true:=hp ⟨6,.data⟩ (by simp) rfl
  exact zah _ rfl rfl (by revert p24 p27;generalize a.eval=ρ;intro p24 p27;simp only[execOp];go_simp) hF hsz hR rfl
 ·intro a w' hF hR hp
  have p28:a.eval (.tmp 28)=.bool true:=hp ⟨7,.data⟩ (by simp) rfl
  exact zah _ rfl rfl (by revert p28;generalize a.eval=ρ;intro p28;simp only[execOp];go_simp) hF hsz hR rfl
 ·intro a w' hF hR hp
  have pg:a.eval (.tmp 29)=.bool true:=hp ⟨8,Ground.guard⟩ (by simp) rfl
  have z4:=(hF.other 4 rfl).trans v4
  refine zbu (.pointer (some ⟨R3,2,none⟩)) rfl (zbw (b:=true) rfl rfl pg) (by revert z4;generalize a.eval=ρ;intro z4;simp only[execOp];go_simp) ⟨_,rfl,hR,?_,fun _ _ _ h=>h⟩
  show zdw _ _ _ _ _ _ ((a.put (some 30) _).eval (.tmp 30)) w'
  rw[zal hF hsz (by decide)]
  exact rfl
 ·intro a w' hF hR hp
  have pg:a.eval (.tmp 29)=.bool true:=hp ⟨8,Ground.guard⟩ (by simp) rfl
  have p30:a.eval (.tmp 30)=.pointer (some ⟨R3,2,none⟩):=hp ⟨9,.data⟩ (by simp) rfl
  have c0:w'.cell? ⟨R3,2,none⟩=some (.string z):=zab hR hR3 C22.o
  refine zbu (.string z) rfl (zbw (b:=true) rfl rfl pg) (by revert p30;generalize a.eval=ρ;intro p30;simp only[execOp];go_simp) ⟨_,rfl,hR,?_,fun _ _ _ h=>h⟩
  show zdw _ _ _ _ _ _ ((a.put (some 31) _).eval (.tmp 31)) w'
  rw[zal hF hsz (by decide)]
  exact rfl
 ·intro a w' hF hR hp
  have pg:a.eval (.tmp 29)=.bool true:=hp ⟨8,Ground.guard⟩ (by simp) rfl
  refine zva 48 #[.string ⟨#[120]⟩] rfl (zbw (b:=true) rfl rfl pg) (by have pf:=Act.eval_func a 48;have pc0:=Act.eval_const a (.string ⟨#[120]⟩);revert pf pc0;generalize a.eval=ρ;intro pf pc0;simp only[execOp];go_simp) _ (fit_any ⟨#[120]⟩ _ (by decide)) ?_
  rintro e w2 ⟨rfl,hb2⟩
  refine⟨_,rfl,_,rfl,zad hR hb2,?_,zqq hb2⟩
  show zdw _ _ _ _ _ _ ((a.put (some 32) _).eval (.tmp 32)) w2
  rw[zal hF hsz (by decide)]
  rw[←HZ.o]
  exact rfl
 ·intro a w' hF hR hp
  have pg:a.eval (.tmp 29)=.bool true:=hp ⟨8,Ground.guard⟩ (by simp) rfl
  have p31:a.eval (.tmp 31)=.string z:=hp ⟨10,.data⟩ (by simp) rfl
  have p32:a.eval (.tmp 32)=.string z:=hp ⟨11,.data⟩ (by simp) rfl
  refine zbu (.bool true) rfl (zbw (b:=true) rfl rfl pg) (by revert p31 p32;generalize a.eval=ρ;intro p31 p32;simp only[execOp];go_simp) ⟨_,rfl,hR,?_,fun _ _ _ h=>h⟩
  show zdw _ _ _ _ _ _ ((a.put (some 33) _).eval (.tmp 33)) w'
  rw[zal hF hsz (by decide)]
  exact rfl
 ·intro a w' hF hR hp
  have p29:a.eval (.tmp 29)=.bool true:=hp ⟨8,.data⟩ (by simp) rfl
  have p33:a.eval (.tmp 33)=.bool true:=hp ⟨12,.data⟩ (by simp) rfl
  exact zah _ rfl rfl (by revert p29 p33;generalize a.eval=ρ;intro p29 p33;simp only[execOp];go_simp) hF hsz hR rfl
 ·intro a w' hF hR hp
  have p34:a.eval (.tmp 34)=.bool true:=hp ⟨13,.data⟩ (by simp) rfl
  exact zah _ rfl rfl (by revert p34;generalize a.eval=ρ;intro p34;simp only[execOp];go_simp) hF hsz hR rfl
 ·intro a w' hF hR hp
  have pg:a.eval (.tmp 35)=.bool true:=hp ⟨14,Ground.guard⟩ (by simp) rfl
  have z4:=(hF.other 4 rfl).trans v4
  refine zbu (.pointer (some ⟨R3,1,none⟩)) rfl (zbw (b:=true) rfl rfl pg) (by revert z4;generalize a.eval=ρ;intro z4;simp only[execOp];go_simp) ⟨_,rfl,hR,?_,fun _ _ _ h=>h⟩
  show zdw _ _ _ _ _ _ ((a.put (some 36) _).eval (.tmp 36)) w'
  rw[zal hF hsz (by decide)]
  exact rfl
 ·intro a w' hF hR hp
  have pg:a.eval (.tmp 35)=.bool true:=hp ⟨14,Ground.guard⟩ (by simp) rfl
  have p36:a.eval (.tmp 36)=.pointer (some ⟨R3,1,none⟩):=hp ⟨15,.data⟩ (by simp) rfl
  have c0:w'.cell? ⟨R3,1,none⟩=some (.int .i64 1):=zab hR hR3 C21.o
  refine zbu (.int .i64 1) rfl (zbw (b:=true) rfl rfl pg) (by revert p36;generalize a.eval=ρ;intro p36;simp only[execOp];go_simp) ⟨_,rfl,hR,?_,fun _ _ _ h=>h⟩
  show zdw _ _ _ _ _ _ ((a.put (some 37) _).eval (.tmp 37)) w'
  rw[zal hF hsz (by decide)]
  exact rfl
 ·intro a w' hF hR hp
  have pg:a.eval (.tmp 35)=.bool true:=hp ⟨14,Ground.guard⟩ (by simp) rfl
  have p37:a.eval (.tmp 37)=.int .i64 1:=hp ⟨16,.data⟩ (by simp) rfl
  refine zbu (.bool true) rfl (zbw (b:=true) rfl rfl pg) (by have pc0:=Act.eval_const a (.int .i64 1);revert p37 pc0;generalize a.eval=ρ;intro p37 pc0;simp only[execOp];go_simp) ⟨_,rfl,hR,?_,fun _ _ _ h=>h⟩
  show zdw _ _ _ _ _ _ ((a.put (some 38) _).eval (.tmp 38)) w'
  rw[zal hF hsz (by decide)]
  exact rfl
 ·intro a w' hF hR hp
  have p35:a.eval (.tmp 35)=.bool true:=hp ⟨14,.data⟩ (by simp) rfl
  have p38:a.eval (.tmp 38)=.bool true:=hp ⟨17,.data⟩ (by simp) rfl
  exact zah _ rfl rfl (by revert p35 p38;generalize a.eval=ρ;intro p35 p38;simp only[execOp];go_simp) hF hsz hR rfl
 ·intro a w' hF hR hp
  have p39:a.eval (.tmp 39)=.bool true:=hp ⟨18,.data⟩ (by simp) rfl
  exact zah _ rfl rfl (by revert p39;generalize a.eval=ρ;intro p39;simp only[execOp];go_simp) hF hsz hR rfl
 ·intro a w' hF hR hp
  have pg:a.eval (.tmp 40)=.bool true:=hp ⟨19,Ground.guard⟩ (by simp) rfl
  have z5:=(hF.other 5 rfl).trans v5
  refine zbu (.pointer (some ⟨R4,0,none⟩)) rfl (zbw (b:=true) rfl rfl pg) (by revert z5;generalize a.eval=ρ;intro z5;simp only[execOp];go_simp) ⟨_,rfl,hR,?_,fun _ _ _ h=>h⟩
  show zdw _ _ _ _ _ _ ((a.put (some 41) _).eval (.tmp 41)) w'
  rw[zal hF hsz (by decide)]
  exact rfl
 ·intro a w' hF hR hp
  have pg:a.eval (.tmp 40)=.bool true:=hp ⟨19,Ground.guard⟩ (by simp) rfl
  have p41:a.eval (.tmp 41)=.pointer (some ⟨R4,0,none⟩):=hp ⟨20,.data⟩ (by simp) rfl
  have c0:w'.cell? ⟨R4,0,none⟩=some (.int .i64 9):=zab hR hR4 C30.o
  refine zbu (.int .i64 9) rfl (zbw (b:=true) rfl rfl pg) (by revert p41;generalize a.eval=ρ;intro p41;simp only[execOp];go_simp) ⟨_,rfl,hR,?_,fun _ _ _ h=>h⟩
  show zdw _ _ _ _ _ _ ((a.put (some 42) _).eval (.tmp 42)) w'
  rw[zal hF hsz (by decide)]
  exact rfl
 ·intro a w' hF hR hp
  have pg:a.eval (.tmp 40)=.bool true:=hp ⟨19,Ground.guard⟩ (by simp) rfl
  have p42:a.eval (.tmp 42)=.int .i64 9:=hp ⟨21,.data⟩ (by simp) rfl
  refine zbu (.bool true) rfl (zbw (b:=true) rfl rfl pg) (by have pc0:=Act.eval_const a (.int .i64 9);revert p42 pc0;generalize a.eval=ρ;intro p42 pc0;simp only[execOp];go_simp) ⟨_,rfl,hR,?_,fun _ _ _ h=>h⟩
  show zdw _ _ _ _ _ _ ((a.put (some 43) _).eval (.tmp 43)) w'
  rw[zal hF hsz (by decide)]
  exact rfl
 ·intro a w' hF hR hp
  have p40:a.eval (.tmp 40)=.bool true:=hp ⟨19,.data⟩ (by simp) rfl
  have p43:a.eval (.tmp 43)=.bool true:=hp ⟨22,.data⟩ (by simp) rfl
  exact zah _ rfl rfl (by revert p40 p43;generalize a.eval=ρ;intro p40 p43;simp only[execOp];go_simp) hF hsz hR rfl
 ·intro a w' hF hR hp
  have p44:a.eval (.tmp 44)=.bool true:=hp ⟨23,.data⟩ (by simp) rfl
  exact zah _ rfl rfl (by revert p44;generalize a.eval=ρ;intro p44;simp only[execOp];go_simp) hF hsz hR rfl
 ·intro a W' hF hR hp
  have p0:a.eval (.tmp 0)=.bool true:=hp 24 (by decide)
  have hsa:a.tmps.size=45:=hF.size.trans hsz
  have hlit:a=⟨#[_,_,_,_,_,_,_,_,_,_,_,_,_,_,_,_,_,_,_,_,_,_,_,_,_,_,_,_,_,_,_,_,_,_,_,_,_,_,_,_,_,_,_,_,_],[]⟩:=zcd a 45 hsa (hF.defers.trans hdf)
  dsimp only at hlit
  rw[p0] at hlit
  show KK a _
  exact(congrArg (fun x=>KK x _) hlit).mpr (HTAIL.o (fun k=>a.eval (.tmp k)) _ hR)
def ac0:Ac:=⟨0,0,0,0,⟨#[]⟩⟩
def ActAt (w:World)(b o:Nat)(x:Ac):Prop:=
 w.cell? ⟨b,o,none⟩=some (.int .i64 x.kind)∧w.cell? ⟨b,o+1,none⟩=some (.int .i64 x.h)∧w.cell? ⟨b,o+2,none⟩=some (.int .i64 x.b)∧w.cell? ⟨b,o+3,none⟩=some (.int .i64 x.n)∧w.cell? ⟨b,o+4,none⟩=some (.string x.text)
def SegA (w:World)(a:Option Addr)(l:List Ac):Prop:=l=[]∨∃b off,a=some ⟨b,off,none⟩∧b<w.heap.size∧∀i,i<l.length→ActAt w b (off+i*5) (l.getD i ac0)
theorem ActAt.ext {w w':World}{b o:Nat}{x:Ac}(h:ActAt w b o x)(e:Ext w w'):ActAt w' b o x:=⟨e.cell _ _ _ h.1,e.cell _ _ _ h.2.1,e.cell _ _ _ h.2.2.1,e.cell _ _ _ h.2.2.2.1,e.cell _ _ _ h.2.2.2.2⟩
theorem SegA.ext {w w':World}{a:Option Addr}{l:List Ac}(h:SegA w a l)(e:Ext w w'):SegA w' a l:=by
 rcases h with h|⟨b,off,rfl,hlt,hc⟩
 ·exact .inl h
 ·exact .inr ⟨b,off,rfl,Nat.lt_of_lt_of_le hlt e.size,fun i hi=>(hc i hi).ext e⟩
structure OkA (x:Ac):Prop where
 n:x.n≤9223372036854775807
 text:x.text.size≤maxLen
def jOf (l:List Ac)(k:Nat):Jn:=(l.take k).foldl (fun j a=>(doJ j a).1) zzk
def rOf (l:List Ac)(k:Nat):Rp:=(doJ (jOf l k) (l.getD k ac0)).2
theorem jOf_zero (l:List Ac):jOf l 0=zzk:=by rw[jOf,List.take_zero];rfl
theorem ztp {l:List Ac}{k:Nat}(h:k<l.length):jOf l (k+1)=(doJ (jOf l k) (l.getD k ac0)).1:=by
 rw[jOf,List.take_add_one,List.getElem?_eq_getElem h,List.foldl_append,List.getD,List.getElem?_eq_getElem h]
 rfl
theorem z1u (l:List Ac)(k:Nat):PJ (jOf l k):=by
 unfold jOf
 generalize l.take k=q
 have:∀(q:List Ac) (j:Jn),PJ j→PJ (q.foldl (fun j a=>(doJ j a).1) j):=by
  intro q
  induction q with
  |nil=>intro j h;exact h
  |cons a q ih=>intro j h;exact ih _ (h.do a)
 exact this q _ PJ.new
def played (l:List Ac):Nat:=min l.length 150
def z3q (B:Nat)(b:Nat)(off:Nat)(k:Nat)(x:Ac)(r:Rp)(look:Value)(c:Nat)(l:List Ac):Nat→Value→World→Prop
 |0,v,_=>v=look
 |1,v,_=>v=.pointer (some ⟨B,0,none⟩)
 |2,v,_=>v=.slice (some ⟨b,off,none⟩) l.length c
 |3,v,_=>v=.int .i64 k
 |4,v,_=>v=.pointer (some ⟨b,off+k*5,none⟩)
 |5,v,_=>v=.agg #[.int .i64 x.kind,.int .i64 x.h,.int .i64 x.b,.int .i64 x.n,.string x.text]
 |6,v,_=>v=.agg #[.int .i64 r.code,.int .i64 r.n,.string r.text]
 |_,_,_=>True
theorem z1d (look:Value)(g:Nat)(lk:Value→Value→Value→Array Value)
  (hent:∀(o:Oper) (ρ:Operand→Value) (w:World) (x y z:Value) (ts:Array TypeId),o.op=Op.call {callee:=.value (.tmp 28),args:=#[.tmp 29,.tmp 33,.tmp 34],argTypes:=ts}→ρ (.tmp 28)=look→ρ (.tmp 29)=x→ρ (.tmp 33)=y→ρ (.tmp 34)=z→(execOp ρ o).run Tryz.prog w=.ok (.enter g (lk x y z)) w)
  (a:Option Addr) (c:Nat) (l:List Ac) (w:World) (LX:List Nat) (hA:SegA (zao w LX) a l) (hlen:l.length≤maxLen) (hok:∀x∈l,OkA x) (hLX:∀x∈LX,x<w.heap.size)
  (S:Nat→World→Prop) (hS0:S 0 w) (hSb:∀k W W' B,S k W→w.heap.size≤B→w.heap.size≤W.heap.size→ButL [B] W.heap.size W W'→S k W')
  (hL:∀k W B,k<played l→w.heap.size≤B→S k W→JAt W B (B::LX) (jOf l (k+1))→(∀x∈(B::LX),x<W.heap.size)→Calls Tryz.prog g (lk (.pointer (some ⟨B,0,none⟩)) (.agg #[.int .i64 (l.getD k ac0).kind,.int .i64 (l.getD k ac0).h,.int .i64 (l.getD k ac0).b,.int .i64 (l.getD k ac0).n,.string (l.getD k ac0).text]) (.agg #[.int .i64 (rOf l k).code,.int .i64 (rOf l k).n,.string (rOf l k).text])) W fun e W'=>e=.returned (.bool true)∧S (k+1) W'∧JAt W' B (B::LX) (jOf l (k+1))∧ButL LX w.heap.size W W'∧W.heap.size≤W'.heap.size):
  Calls Tryz.prog 6 #[.slice a l.length c,look] w fun e w'=>∃B,e=.returned (.tuple #[.pointer (some ⟨B,0,none⟩),.bool true])∧w.heap.size≤B∧S (played l) w'∧JAt w' B (B::LX) (jOf l (played l))∧ButL LX w.heap.size w w':=by
 have HA:=zaa hA
 have HOK:=zaa hok
 have HLX:=zaa hLX
 have HS0:=zaa hS0
 have HSB:=zaa hSb
 have HL:=zaa hL
 have HENT:=zaa hent
 clear hA hok hLX hS0 hSb hL hent
 unfold maxLen at hlen
 go_enter Tryz.func6,Tryz.ntmps6
 go_wp2_with fail
 refine(zzc _).mono ?_
 rintro e w1 ⟨rfl,hb1⟩
 have HB1:=zaa hb1
 clear hb1
 go_wp2_with fail
 refine(zto _).mono ?_
 rintro e w2 ⟨B,rfl,hB0,hJ,hbn⟩
 have hs1:w.heap.size≤w1.heap.size:=HB1.o.size
 have HJ2:=zaa (hJ LX (fun x hx=>Nat.lt_of_lt_of_le (HLX.o x hx) hs1))
 have HB2:=zaa (zad HB1.o hbn)
 have hBw:w.heap.size≤B:=by omega
 have HS2:Hid (S 0 w2):=HSB.o 0 w w2 B HS0.o hBw (Nat.le_refl _) (ButL.of_below HB2.o)
 clear hJ hbn
 go_wp2
 go_loopw [7] (fun i wr=>∃k:Nat,k≤played l∧i=.int .i64 k∧Hid (S k wr)∧Hid (JAt wr B (B::LX) (jOf l k))∧Hid (ButL LX w.heap.size w wr)) (fun i _=>l.length - (intOf i).toNat)
 case atStart=>exact⟨0,Nat.zero_le _,rfl,HS2,by rw[jOf_zero];exact HJ2,ButL.of_below HB2.o⟩
 case round=>
  obtain⟨k,hk,rfl,HSr,HJr,HBr⟩:=hrel
  clear HJ2 HB2 HS2 HB1
  have hpl:played l=min l.length 150:=rfl
  by_cases hkp:k<played l
  ·have hk1:k<l.length:=by omega
   have hk2:k<150:=by omega
   have i1:(k:Int)<(l.length:Int):=by omega
   have i2:(k:Int)<150:=by omega
   have i0:(0:Int)≤(k:Int):=by omega
   obtain⟨b,off,rfl,hb,hc⟩:=(HA.o.ext (Ext.butL HBr.o)).resolve_left (fun e=>by rw[e] at hk1;simp at hk1)
   obtain⟨x,hx⟩:∃x,x=l.getD k ac0:=⟨_,rfl⟩
   have hca:=hc k hk1
   rw[←hx] at hca
   obtain⟨hnL,e0⟩:=zbq hca.1
   have e1:=(zbq hca.2.1).2
   have e2:=(zbq hca.2.2.1).2
   have e3:=(zbq hca.2.2.2.1).2
   have e4:=(zbq hca.2.2.2.2).2
   have P00:=zaa e0
   have P10:=zaa e1
   have P20:=zaa e2
   have P30:=zaa e3
   have P40:=zaa e4
   have hbr:b<wr.heap.size:=by rw[zbc] at hb;exact hb
   have hbw:b<w.heap.size:=by
    rcases HA.o with e|⟨b2,off2,he,hb2,_⟩
    ·rw[e] at hk1;simp at hk1
    ·cases he;rw[zbc] at hb2;exact hb2
   have HX:=zaa hx
   have hxm:OkA x:=HOK.o x (by rw[hx,List.getD,List.getElem?_eq_getElem hk1];exact List.getElem_mem hk1)
   have HXM:=zaa hxm
   have hsr:w.heap.size≤wr.heap.size:=HBr.o.size
   clear hc hca hx hb hxm
   go_wp2_with fail
   refine(zgm B (B::LX) (jOf l k) wr HJr.o (fun y hy=>?_) (z1u l k).ready x HXM.o.n HXM.o.text).mono ?_
   ·rcases List.mem_cons.1 hy with rfl|hy
    ·exact HJr.o.lt
    ·have:=HLX.o y hy;omega
   rintro e wq ⟨rfl,hJq,hBq⟩
   have hrE:(doJ (jOf l k) x).2=rOf l k:=by rw[rOf,HX.o]
   have hjE:(doJ (jOf l k) x).1=jOf l (k+1):=by rw[ztp hk1,HX.o]
   rw[hjE] at hJq
   rw[hrE]
   obtain⟨r,hr⟩:∃r,r=rOf l k:=⟨_,rfl⟩
   rw[←hr]
   rw[show vRp r=.agg #[.int .i64 r.code,.int .i64 r.n,.string r.text] from rfl]
   have HRR:=zaa hr
   have hsq:wr.heap.size≤wq.heap.size:=hBq.size
   have hbq:wq.heap[b]?=wr.heap[b]?:=hBq.block b hbr (by simp;omega)
   have P01:=zaa ((World.cell?_of_block hbq).trans P00.o)
   have P11:=zaa ((World.cell?_of_block hbq).trans P10.o)
   have P21:=zaa ((World.cell?_of_block hbq).trans P20.o)
   have P31:=zaa ((World.cell?_of_block hbq).trans P30.o)
   have P41:=zaa ((World.cell?_of_block hbq).trans P40.o)
   have HSq:=zaa (HSB.o k wr wq B HSr.o hBw hsr hBq)
   have HBq2:Hid (ButL LX w.heap.size w wq):=HBr.o.trans hBq hsr (by simp;omega)
   clear hrE hjE hr hBq hbq e0 e1 e2 e3 e4
   go_wp2
   rename_i KK hKK
   obtain⟨W1,hW1⟩:∃W1,W1=wq.alloc (.cells #[.int .i64 r.code,.int .i64 r.n,.string r.text] 31):=⟨_,rfl⟩
   rw[←hW1]
   have hbW:Below wq.heap.size wq W1:=by rw[hW1];exact below1 _ _
   have KRb:W1.heap[wq.heap.size]?=some (.cells #[.int .i64 r.code,.int .i64 r.n,.string r.text] 31 (0,0)):=by rw[hW1];exact heap_alloc_new _ _
   have Q0:Hid (W1.cell? ⟨wq.heap.size,0,none⟩=some (.int .i64 r.code)):=(cell_of_row W1 _ 0 _ _ _ KRb).trans rfl
   have Q1:Hid (W1.cell? ⟨wq.heap.size,1,none⟩=some (.int .i64 r.n)):=(cell_of_row W1 _ 1 _ _ _ KRb).trans rfl
   have Q2:Hid (W1.cell? ⟨wq.heap.size,2,none⟩=some (.string r.text)):=(cell_of_row W1 _ 2 _ _ _ KRb).trans rfl
   have P0:=zaa (zab hbW (show b<wq.heap.size by omega) P01.o)
   have P1:=zaa (zab hbW (show b<wq.heap.size by omega) P11.o)
   have P2:=zaa (zab hbW (show b<wq.heap.size by omega) P21.o)
   have P3:=zaa (zab hbW (show b<wq.heap.size by omega) P31.o)
   have P4:=zaa (zab hbW (show b<wq.heap.size by omega) P41.o)
   have hs1:W1.heap.size=wq.heap.size+1:=by rw[hW1];simp
   have hRW:wq.heap.size<W1.heap.size:=by omega
   have hbW1:b<W1.heap.size:=by omega
   have HLK:Hid (∀W,Below W1.heap.size W1 W→Calls Tryz.prog g (lk (.pointer (some ⟨B,0,none⟩)) (.agg #[.int .i64 x.kind,.int .i64 x.h,.int .i64 x.b,.int .i64 x.n,.string x.text]) (.agg #[.int .i64 r.code,.int .i64 r.n,.string r.text])) W fun e W'=>e=.returned (.bool true)∧S (k+1) W'∧JAt W' B (B::LX) (jOf l (k+1))∧ButL LX w.heap.size w W'∧W.heap.size≤W'.heap.size):=by
    intro W hR
    have hbb:=zad hbW hR
    have h1:=HL.o k W B hkp hBw (HSB.o k wq W B HSq.o hBw (by omega) (ButL.of_below hbb)) (hJq.below hbb) (fun y hy=>by
     have h2:=hbb.size
     rcases List.mem_cons.1 hy with rfl|hy
     ·have:=hJq.lt;omega
     ·have:=HLX.o y hy;omega)
    rw[←HX.o,←HRR.o] at h1
    refine h1.mono ?_
    rintro e W' ⟨h3,h4,h5,h6,h7⟩
    exact⟨h3,h4,h5,(HBq2.o.trans (Y:=[]) (ButL.of_below hbb) (by omega) (by simp)).trans h6 (Nat.le_refl _) (by intro y hy;exact .inl hy),h7⟩
   have hbW:=hbW1
   have TAIL:∀(g:Nat→Value) (W':World),S (k+1) W'→JAt W' B (B::LX) (jOf l (k+1))→ButL LX w.heap.size w W'→True→KK ⟨#[.slice (some ⟨b,off,none⟩) l.length c,look,undef,undef,g 4,g 5,.pointer (some ⟨B,0,none⟩),.int .i64 (k:Int),g 8,.bool true,.bool false,.pointer (some ⟨B,0,none⟩),g 12,g 13,g 14,g 15,g 16,g 17,g 18,g 19,g 20,g 21,g 22,g 23,g 24,g 25,g 26,g 27,g 28,g 29,g 30,g 31,g 32,g 33,g 34,g 35,.bool false,g 37,undef],[]⟩ W':=by
    intro g W' hS' hJ' hB' _
    apply hKK
    clear hKK
    have HS':=zaa hS'
    have HJ':=zaa hJ'
    have HB':=zaa hB'
    clear hS' hJ' hB'
    go_wp2
    go_roundw
    case rel=>exact⟨k+1,by omega,by go_num,HS',HJ',HB'⟩
    case measure=>first|(simp[intOf];omega)|simp[intOf]
   have HTAIL:=zaa TAIL
   clear TAIL hKK
   refine(show∀A0:Act,A0=_→Code.wp Tryz.prog _ _ A0 _ from fun A0 hA0=>?_) _ rfl
   have hsz:A0.tmps.size=39:=by rw[hA0];rfl
   have hdf:A0.defers=[]:=by rw[hA0]
   have v0:A0.eval (.tmp 0)=.slice (some ⟨b,off,none⟩) l.length c:=by rw[hA0];rfl
   have v1:A0.eval (.tmp 1)=look:=by rw[hA0];rfl
   have v2:A0.eval (.tmp 2)=undef:=by rw[hA0];rfl
   have v3:A0.eval (.tmp 3)=undef:=by rw[hA0];rfl
   have v6:A0.eval (.tmp 6)=.pointer (some ⟨B,0,none⟩):=by rw[hA0];rfl
   have v7:A0.eval (.tmp 7)=.int .i64 (k:Int):=by rw[hA0];rfl
   have v9:A0.eval (.tmp 9)=.bool true:=by rw[hA0];rfl
   have v10:A0.eval (.tmp 10)=.bool false:=by rw[hA0];rfl
   have v11:A0.eval (.tmp 11)=.pointer (some ⟨B,0,none⟩):=by rw[hA0];rfl
   have v38:A0.eval (.tmp 38)=undef:=by rw[hA0];rfl
   have v8:A0.eval (.tmp 8)=.pointer (some ⟨wq.heap.size,0,none⟩):=by rw[hA0];rfl
   clear hA0
   refine za7 7 (fun w'=>Below W1.heap.size W1 w') [28,29,30,31,32,33,34] (z3q B b off k x r look c l) (by kernel_rfl) (by kernel_rfl) (by kernel_rfl) (by kernel_rfl) (by decide) ((Below.refl _ _).drew) ⟨?_,?_,?_,?_,?_,?_,?_,trivial⟩ ?_
   ·intro a w' hF hR hp
    have z1:=(hF.other 1 rfl).trans v1
    exact zah _ rfl rfl (by revert z1;generalize a.eval=ρ;intro z1;simp only[execOp];go_simp) hF hsz hR rfl
   ·intro a w' hF hR hp
    have z6:=(hF.other 6 rfl).trans v6
    exact zah _ rfl rfl (by revert z6;generalize a.eval=ρ;intro z6;simp only[execOp];go_simp) hF hsz hR rfl
   ·intro a w' hF hR hp
    have z0:=(hF.other 0 rfl).trans v0
    exact zah _ rfl rfl (by revert z0;generalize a.eval=ρ;intro z0;simp only[execOp];go_simp) hF hsz hR rfl
   ·intro a w' hF hR hp
    have z7:=(hF.other 7 rfl).trans v7
    exact zah _ rfl rfl (by revert z7;generalize a.eval=ρ;intro z7;simp only[execOp];go_simp) hF hsz hR rfl
   ·intro a w' hF hR hp
    have p30:a.eval (.tmp 30)=.slice (some ⟨b,off,none⟩) l.length c:=hp ⟨2,.data⟩ (by simp) rfl
    have p31:a.eval (.tmp 31)=.int .i64 k:=hp ⟨3,.data⟩ (by simp) rfl
    exact zah _ rfl rfl (by revert p30 p31;generalize a.eval=ρ;intro p30 p31;simp only[execOp];go_simp) hF hsz hR rfl
   ·intro a w' hF hR hp
    have p32:a.eval (.tmp 32)=.pointer (some ⟨b,off+k*5,none⟩):=hp ⟨4,.data⟩ (by simp) rfl
    have c0:w'.cell? ⟨b,off+k*5,none⟩=some (.int .i64 x.kind):=zab hR hbW (P0.o)
    have c1:w'.cell? ⟨b,off+k*5+1,none⟩=some (.int .i64 x.h):=zab hR hbW (P1.o)
    have c2:w'.cell? ⟨b,off+k*5+2,none⟩=some (.int .i64 x.b):=zab hR hbW (P2.o)
    have c3:w'.cell? ⟨b,off+k*5+3,none⟩=some (.int .i64 x.n):=zab hR hbW (P3.o)
    have c4:w'.cell? ⟨b,off+k*5+4,none⟩=some (.string x.text):=zab hR hbW (P4.o)
    exact zah _ rfl rfl (by revert p32;generalize a.eval=ρ;intro p32;simp only[execOp];go_simp) hF hsz hR rfl
   ·intro a w' hF hR hp
    have z8:=(hF.other 8 rfl).trans v8
    have c0:w'.cell? ⟨wq.heap.size,0,none⟩=some (.int .i64 r.code):=zab hR hRW (Q0.o)
    have c1:w'.cell? ⟨wq.heap.size,1,none⟩=some (.int .i64 r.n):=zab hR hRW (Q1.o)
    have c2:w'.cell? ⟨wq.heap.size,2,none⟩=some (.string r.text):=zab hR hRW (Q2.o)
    exact zah _ rfl rfl (by revert z8;generalize a.eval=ρ;intro z8;simp only[execOp];go_simp) hF hsz hR rfl
   ·intro aa W hF hR hp
    have p28:aa.eval (.tmp 28)=look:=hp 0 (by decide)
    have p29:aa.eval (.tmp 29)=.pointer (some ⟨B,0,none⟩):=hp 1 (by decide)
    have p33:aa.eval (.tmp 33)=.agg #[.int .i64 x.kind,.int .i64 x.h,.int .i64 x.b,.int .i64 x.n,.string x.text]:=hp 5 (by decide)
    have p34:aa.eval (.tmp 34)=.agg #[.int .i64 r.code,.int .i64 r.n,.string r.text]:=hp 6 (by decide)
    have hsa:aa.tmps.size=39:=hF.size.trans hsz
    show wpOps Tryz.prog _ _ [7,8] aa W
    rw[wpOps_cons]
    refine zbn g (lk (.pointer (some ⟨B,0,none⟩)) (.agg #[.int .i64 x.kind,.int .i64 x.h,.int .i64 x.b,.int .i64 x.n,.string x.text]) (.agg #[.int .i64 r.code,.int .i64 r.n,.string r.text])) rfl rfl (HENT.o _ aa.eval W _ _ _ _ rfl p28 p29 p33 p34) _ (HLK.o W hR) ?_
    rintro e w5 ⟨rfl,hS5,hJ5,hB5,_⟩
    refine⟨_,rfl,?_⟩
    obtain⟨b1,hb1⟩:∃b1,b1=aa.put (some 35) (.bool true):=⟨_,rfl⟩
    have s35:b1.eval (.tmp 35)=.bool true:=by rw[hb1];exact Act.eval_put_same _ _ _ (by rw[hsa];decide)
    have hs1:b1.tmps.size=39:=by rw[hb1,Act.size_put];exact hsa
    show wpOps Tryz.prog _ _ [8] (aa.put (some 35) (.bool true)) w5
    rw[←hb1,wpOps_cons]
    refine za0 (.bool false) rfl rfl (by revert s35;generalize b1.eval=ρ;intro s35;simp only[execOp];go_simp) ?_
    obtain⟨b2,hb2⟩:∃b2,b2=b1.put (some 36) (.bool false):=⟨_,rfl⟩
    have f36:b2.eval (.tmp 36)=.bool false:=by rw[hb2];exact Act.eval_put_same _ _ _ (by rw[hs1];decide)
    have f0:b2.eval (.tmp 0)=.slice (some ⟨b,off,none⟩) l.length c:=by rw[hb2,Act.eval_put_ne _ _ _ _ (by decide),hb1,Act.eval_put_ne _ _ _ _ (by decide)];exact(hF.other 0 rfl).trans v0
    have f1:b2.eval (.tmp 1)=look:=by rw[hb2,Act.eval_put_ne _ _ _ _ (by decide),hb1,Act.eval_put_ne _ _ _ _ (by decide)];exact(hF.other 1 rfl).trans v1
    have f2:b2.eval (.tmp 2)=undef:=by rw[hb2,Act.eval_put_ne _ _ _ _ (by decide),hb1,Act.eval_put_ne _ _ _ _ (by decide)];exact(hF.other 2 rfl).trans v2
    have f3:b2.eval (.tmp 3)=undef:=by rw[hb2,Act.eval_put_ne _ _ _ _ (by decide),hb1,Act.eval_put_ne _ _ _ _ (by decide)];exact(hF.other 3 rfl).trans v3
    have f6:b2.eval (.tmp 6)=.pointer (some ⟨B,0,none⟩):=by rw[hb2,Act.eval_put_ne _ _ _ _ (by decide),hb1,Act.eval_put_ne _ _ _ _ (by decide)];exact(hF.other 6 rfl).trans v6
    have f7:b2.eval (.tmp 7)=.int .i64 (k:Int):=by rw[hb2,Act.eval_put_ne _ _ _ _ (by decide),hb1,Act.eval_put_ne _ _ _ _ (by decide)];exact(hF.other 7 rfl).trans v7
    have f9:b2.eval (.tmp 9)=.bool true:=by rw[hb2,Act.eval_put_ne _ _ _ _ (by decide),hb1,Act.eval_put_ne _ _ _ _ (by decide)];exact(hF.other 9 rfl).trans v9
    have f10:b2.eval (.tmp 10)=.bool false:=by rw[hb2,Act.eval_put_ne _ _ _ _ (by decide),hb1,Act.eval_put_ne _ _ _ _ (by decide)];exact(hF.other 10 rfl).trans v10
    have f11:b2.eval (.tmp 11)=.pointer (some ⟨B,0,none⟩):=by rw[hb2,Act.eval_put_ne _ _ _ _ (by decide),hb1,Act.eval_put_ne _ _ _ _ (by decide)];exact(hF.other 11 rfl).trans v11
    have f38:b2.eval (.tmp 38)=undef:=by rw[hb2,Act.eval_put_ne _ _ _ _ (by decide),hb1,Act.eval_put_ne _ _ _ _ (by decide)];exact(hF.other 38 rfl).trans v38
    have hlit:b2=⟨#[_,_,_,_,_,_,_,_,_,_,_,_,_,_,_,_,_,_,_,_,_,_,_,_,_,_,_,_,_,_,_,_,_,_,_,_,_,_,_],[]⟩:=zcd b2 39 (by rw[hb2,Act.size_put];exact hs1) (by rw[hb2,Act.defers_put',hb1,Act.defers_put'];exact hF.defers.trans hdf)
    dsimp only at hlit
    rw[f0,f1,f2,f3,f6,f7,f9,f10,f11,f36,f38] at hlit
    show KK (b1.put (some 36) (.bool false)) _
    rw[←hb2]
    exact(congrArg (fun y=>KK y _) hlit).mpr (HTAIL.o (fun k=>b2.eval (.tmp k)) _ hS5 hJ5 hB5 trivial)
  ·have hkn:k=played l:=by omega
   subst hkn
   have hfin:¬((played l:Int)<(l.length:Int))∨¬((played l:Int)<150):=by omega
   clear hpl
   rcases Classical.em ((played l:Int)<(l.length:Int)) with i1|i1
   ·have i2:¬((played l:Int)<150):=by omega
    clear hfin
    go_wp2
    refine bodyPost_ret (results_tmp2 rfl _ _ _) rfl ⟨B,rfl,hBw,HSr.o,HJr.o,HBr.o⟩
   ·clear hfin
    go_wp2
    refine bodyPost_ret (results_tmp2 rfl _ _ _) rfl ⟨B,rfl,hBw,HSr.o,HJr.o,HBr.o⟩
theorem PJ.reach {j:Jn}(h:PJ j):zv9 j.now∧j.disk.safe.length*16≤140737488355328∧j.disk.wr.length*24≤140737488355328:=by
 have hR:=h.ready
 obtain⟨D,h1,_,_⟩:=h
 have hg:=zgu h1.disk
 have hrv:j.now.rev.length≤12:=by
  by_cases hu:j.down=false
  ·exact(zaq (h1.pow hu).good).2.2
  ·cases h1 with
   |idle p=>exact absurd p.up hu
   |commit P U k p=>exact absurd p.up hu
   |check k p=>exact absurd p.up hu
   |off l N P U p=>rw[p.now];exact Nat.zero_le _
   |back U k p=>rw[p.now];exact Nat.zero_le _
 exact⟨⟨by have:=hR.info;omega,by have:=hR.data;omega,by omega⟩,by omega,by omega⟩
theorem z1e (A:Nat)(XA:List Nat)(B:Nat)(XB:List Nat)(i j:Jn)(w:World)(hA:JAt w A XA i)(hB:JAt w B XB j)(hi:PJ i)(hj:PJ j)(e1:i.rh=j.rh)(e2:i.ru=j.ru)(e3:i.last=j.last)(e4:i.down=j.down)(e5:i.now=j.now)(e6:i.disk=j.disk):
  Calls Tryz.prog 9 #[.pointer (some ⟨A,0,none⟩),.pointer (some ⟨B,0,none⟩)] w fun e w'=>e=.returned (.bool true)∧Below w.heap.size w w':=by
 have HA:=zaa hA
 have HB:=zaa hB
 have HI:=zaa hi.reach
 have HJ:=zaa hj.reach
 have E5:=zaa e5
 have E6:=zaa e6
 clear hA hB hi hj e5 e6
 go_enter Tryz.func9,Tryz.ntmps9
 go_wp2_with fail
 refine(zqs A XA i w HA.o).mono ?_
 rintro e w1 ⟨rfl,hb1⟩
 have H1:=zaa hb1
 clear hb1
 go_wp2_with fail
 refine(zqs B XB j _ (HB.o.below (zad H1.o (below1 _ _)))).mono ?_
 rintro e w2 ⟨rfl,hb2⟩
 rw[e1,e2,e3,e4] at *
 have KA:=zaa (z1g hb2)
 have H2:=zaa (zad (zad H1.o (below1 _ _)) hb2)
 have hs2:w1.heap.size<w2.heap.size:=by have:=hb2.size;simp at this;omega
 clear hb2 H1
 obtain⟨⟨x0,x1⟩,_⟩:=zfo KA.o
 go_wp2_with fail
 obtain⟨W3,hW3⟩:∃W3,W3=w2.alloc (.cells #[.int .i64 j.rh,.int .i64 j.ru] 39):=⟨_,rfl⟩
 have H3:Hid (Below w.heap.size w W3):=by rw[hW3];exact zad H2.o (below1 _ _)
 rw[←hW3]
 clear hW3 x0 x1 hs2 KA
 refine(zjs A XA i W3 (HA.o.below H3.o) HI.o.1).mono ?_
 rintro e w4 ⟨v4,rfl,hT4,hb4⟩
 have HT4:=zaa hT4
 have H4:=zaa (zad H3.o hb4)
 clear hT4 hb4
 go_wp2_with fail
 refine(zjs B XB j w4 (HB.o.below H4.o) HJ.o.1).mono ?_
 rintro e w5 ⟨v5,rfl,hT5,hb5⟩
 have H5:=zaa (zad H4.o hb5)
 have HT45:Hid (IsTx w5 v4 j.now):=by rw[Hid,←E5.o];exact HT4.o.below hb5
 have HT5:=zaa hT5
 clear hT5 hb5
 go_wp2_with fail
 refine(zv5 v4 v5 j.now w5 HT45.o HT5.o).mono ?_
 rintro e w6 ⟨rfl,hb6⟩
 have H6:=zaa (zad H5.o hb6)
 clear hb6
 go_wp2_with fail
 refine(zqt A XA i w6 (HA.o.below H6.o) HI.o.2.1 HI.o.2.2).mono ?_
 rintro e w7 ⟨v7,rfl,hD7,hb7⟩
 have HD7:=zaa hD7
 have H7:=zaa (zad H6.o hb7)
 clear hD7 hb7
 go_wp2_with fail
 refine(zqt B XB j w7 (HB.o.below H7.o) HJ.o.2.1 HJ.o.2.2).mono ?_
 rintro e w8 ⟨v8,rfl,hD8,hb8⟩
 have H8:=zaa (zad H7.o hb8)
 have HD78:Hid (IsDk w8 v7 j.disk):=by rw[Hid,←E6.o];exact HD7.o.below hb8
 have HD8:=zaa hD8
 clear hD8 hb8
 go_wp2_with fail
 obtain⟨a1,c1,a1',c1',rfl,s1,s2,n1,n2⟩:=HD78.o
 obtain⟨a2,c2,a2',c2',rfl,s3,s4,_,_⟩:=HD8.o
 refine(zqr a1 c1 a1' c1' a2 c2 a2' c2' j.disk w8 s1 s2 s3 s4 n1 n2).mono ?_
 rintro e w9 ⟨rfl,hb9⟩
 have H9:=zaa (zad H8.o hb9)
 clear hb9 s1 s2 s3 s4
 go_wp2
 go_ret
 exact⟨rfl,H9.o⟩
theorem zze (x0:Value)(k h b n:Int)(s:ByteArray)(c m:Int)(u:ByteArray)(w:World):
  Calls Tryz.prog 7 #[x0,.agg #[.int .i64 k,.int .i64 h,.int .i64 b,.int .i64 n,.string s],.agg #[.int .i64 c,.int .i64 m,.string u]] w fun e w'=>e=.returned (.bool true)∧Below w.heap.size w w':=by
 go_enter Tryz.func7,Tryz.ntmps7
 go_wp2
 go_ret
 exact⟨rfl,zad (below1 _ _) (below1 _ _)⟩
theorem zqu (o:Oper)(ρ:Operand→Value)(w:World)(x y z:Value)(ts:Array TypeId)(ho:o.op=Op.call {callee:=.value (.tmp 28),args:=#[.tmp 29,.tmp 33,.tmp 34],argTypes:=ts})(h1:ρ (.tmp 28)=.func (.func 7) #[] #[])(h2:ρ (.tmp 29)=x)(h3:ρ (.tmp 33)=y)(h4:ρ (.tmp 34)=z):
  (execOp ρ o).run Tryz.prog w=.ok (.enter 7 #[x,y,z]) w:=by
 simp only[execOp,ho]
 go_simp
theorem zm2 (a:Option Addr)(c:Nat)(l:List Ac)(w:World)(LX:List Nat)(hA:SegA (zao w LX) a l)(hlen:l.length≤maxLen)(hok:∀x∈l,OkA x)(hLX:∀x∈LX,x<w.heap.size):
  Calls Tryz.prog 6 #[.slice a l.length c,.func (.func 7) #[] #[]] w fun e w'=>∃B,e=.returned (.tuple #[.pointer (some ⟨B,0,none⟩),.bool true])∧w.heap.size≤B∧JAt w' B (B::LX) (jOf l (played l))∧Below w.heap.size w w':=by
 refine(z1d _ 7 (fun x y z=>#[x,y,z]) zqu a c l w LX hA hlen hok hLX (fun _ W=>Below w.heap.size w W) (Below.refl _ _) ?_ ?_).mono ?_
 ·intro k W W' B h1 h2 h3 h4
  exact h1.trans ⟨h4.os,h4.tape,h4.output,h4.size,fun q hq=>h4.block q (by omega) (by simp;omega)⟩
 ·intro k W B hk hB hS hJ hX
  refine(zze _ _ _ _ _ _ _ _ _ W).mono ?_
  rintro e W' ⟨rfl,hb⟩
  have hs:=hS.size
  exact⟨rfl,zad hS hb,hJ.below hb,ButL.of_below ⟨hb.os,hb.tape,hb.output,hb.size,fun q hq=>hb.block q (by omega)⟩,hb.size⟩
 ·rintro e w' ⟨B,rfl,h1,h2,h3,_⟩
  exact⟨B,rfl,h1,h3,h2⟩
theorem z2o {j:Jn}{a:Ac}(h:(doJ j a).2.code≠0):∃e x,(doJ j a).2=zan e∧(doJ j a).1={j with acts:=x}:=by
 by_cases hf:400≤j.acts
 ·exact⟨11,j.acts,by rw[doJ,if_pos hf],by rw[doJ,if_pos hf]⟩
 ·have e:doJ j a=doneJ {j with acts:=j.acts+1} a:=by rw[doJ,if_neg hf]
  rw[e] at h⊢
  have m:=zkt {j with acts:=j.acts+1} a
  revert h
  generalize (doneJ {j with acts:=j.acts+1} a).1=j' at *
  generalize (doneJ {j with acts:=j.acts+1} a).2=r at *
  intro h
  cases m with
  |no e he=>exact⟨e,j.acts+1,rfl,rfl⟩
  |last hk s hs he=>
   exfalso
   apply h
   rw[zbv]
   split
   ·rfl
   split
   ·rfl
   split
   ·rfl
   ·rfl
  |_=>exact absurd rfl h
theorem zv6 (c n:Int)(t:ByteArray)(w:World):(Instr.field 31 (.agg #[.int .i64 c,.int .i64 n,.string t]) 0).run Tryz.prog w=.ok (.int .i64 c) w:=by
 simp[Instr.field,go_sem,asAgg]
theorem z2i {j:Jn}(h:¬400≤j.acts):doJ j ac0=({j with acts:=j.acts+1},zan 3):=by
 rw[doJ,if_neg h,doneJ,if_pos (.inl (by decide))]
theorem z2j {j:Jn}(h:400≤j.acts)(x:Ac):doJ j x=(j,zan 11):=by rw[doJ,if_pos h]
theorem z2k (l:List Ac):∀k,k≤l.length→k≤400→(jOf l k).acts=k:=by
 intro k
 induction k with
 |zero=>intro _ _;rw[jOf_zero];rfl
 |succ k ih=>
  intro h1 h2
  rw[ztp (by omega)]
  have h3:=ih (by omega) (by omega)
  have hf:¬400≤(jOf l k).acts:=by omega
  rw[doJ,if_neg hf]
  have:=(zkt {jOf l k with acts:=(jOf l k).acts+1} (l.getD k ac0)).acts
  rw[this]
  show(jOf l k).acts+1=_
  omega
theorem zzf (a:Option Addr)(c:Nat)(l:List Ac)(x:Ac)(w:World)(hA:SegA w a l)(hlen:l.length≤maxLen)(hok:∀y∈l,OkA y)(hx:OkA x):
  Calls Tryz.prog 3 #[.slice a l.length c,vAc x] w fun e w'=>e=.returned (.bool true)∧Below w.heap.size w w':=by
 unfold vAc
 have HA:=zaa hA
 have HOK:=zaa hok
 have HX:=zaa hx
 have HL:=zaa hlen
 clear hA hok hx hlen
 obtain⟨W0,hW0⟩:∃W0,W0=w.alloc (.cells #[.int .i64 x.kind,.int .i64 x.h,.int .i64 x.b,.int .i64 x.n,.string x.text] 24):=⟨_,rfl⟩
 have HB0:Hid (Below w.heap.size w W0):=by rw[hW0];exact below1 _ _
 have KX0:Hid (W0.heap[w.heap.size]?=some (.cells #[.int .i64 x.kind,.int .i64 x.h,.int .i64 x.b,.int .i64 x.n,.string x.text] 24 (0,0))):=by rw[hW0];exact heap_alloc_new _ _
 have hs0:W0.heap.size=w.heap.size+1:=by rw[hW0];simp
 have HW0:=zaa hW0
 clear hW0
 go_enter Tryz.func3,Tryz.ntmps3
 go_wp2_with fail
 rw[←HW0.o]
 clear HW0
 refine(zm2 a c l W0 [] (HA.o.ext (Ext.of_below HB0.o)) HL.o HOK.o (by simp)).mono ?_
 rintro e w1 ⟨B,rfl,hB,hJB,hb1⟩
 have H1:=zaa (zad HB0.o hb1)
 have KX1:=zaa (zac hb1 (by omega) KX0.o)
 have HJB:=zaa hJB
 have hBl:B<w1.heap.size:=hJB.lt
 have hs1:W0.heap.size≤w1.heap.size:=hb1.size
 clear hb1 hJB
 go_wp2_with fail
 have HA1:Hid (SegA (zao w1 [B]) a l):=by
  rcases HA.o with h0|⟨b,off,rfl,hlt,hc⟩
  ·exact .inl h0
  ·refine .inr ⟨b,off,rfl,by rw[zbc];have:=H1.o.size;omega,fun i hi=>?_⟩
   have hn:b∉[B]:=by simp;omega
   obtain⟨g0,g1,g2,g3,g4⟩:=hc i hi
   exact⟨zbs hn (zab H1.o hlt g0),zbs hn (zab H1.o hlt g1),zbs hn (zab H1.o hlt g2),zbs hn (zab H1.o hlt g3),zbs hn (zab H1.o hlt g4)⟩
 refine(zm2 a c l w1 [B] HA1.o HL.o HOK.o (by simpa using hBl)).mono ?_
 rintro e w2 ⟨G,rfl,hG,hJG,hb2⟩
 have H2:=zaa (zad H1.o hb2)
 have KX2:=zaa (zac hb2 (by omega) KX1.o)
 have HJB2:=zaa (HJB.o.more hb2 hG)
 have HJG:=zaa hJG
 have hs2:w1.heap.size≤w2.heap.size:=hb2.size
 have hGl:G<w2.heap.size:=hJG.lt
 have HP:=zaa (z1u l (played l))
 clear hb2 hJG HJB KX1 KX0 HA1 HB0
 obtain⟨jn,hjn⟩:∃jn,jn=jOf l (played l):=⟨_,rfl⟩
 rw[←hjn] at HJB2 HJG HP
 have hacts:jn.acts=(played l:Int):=by rw[hjn];exact z2k l _ (by unfold played;omega) (by unfold played;omega)
 clear hjn
 have hpl:played l≤150:=by unfold played;omega
 have hmin:min (l.length:Int) 150=(played l:Int):=by unfold played;omega
 have HM:=zaa hmin
 have hfld:=zv6
 go_wp2_with fail
 have hK0:Hid (({jn with acts:=(played l:Int)}:Jn)=jn):=by rw[Hid,←hacts]
 go_loopw [9] (fun i wr=>∃k:Nat,played l≤k∧k≤400∧i=.int .i64 k∧Hid (JAt wr B [G,B] {jn with acts:=(k:Int)})∧Hid (JAt wr G [G,B] {jn with acts:=(k:Int)})∧Hid (Below w.heap.size w wr)∧Hid (wr.heap[w.heap.size]?=some (.cells #[.int .i64 x.kind,.int .i64 x.h,.int .i64 x.b,.int .i64 x.n,.string x.text] 24 (0,0)))∧w2.heap.size≤wr.heap.size) (fun i _=>400 - (intOf i).toNat)
 case atStart=>exact⟨played l,Nat.le_refl _,by omega,by go_num,by rw[hK0.o];exact HJB2,by rw[hK0.o];exact HJG,H2,KX2,Nat.le_refl _⟩
 case round=>
  obtain⟨k,hk0,hk,rfl,HJr,HGr,HBr,KXr,hsr⟩:=hrel
  clear HJB2 HJG H2 KX2 hK0
  have hPk:∀y:Nat,played l≤y→y≤400→PJ {jn with acts:=(y:Int)}:=by
   intro y h1 h2
   obtain⟨D,h3,h4,h5⟩:=HP.o
   exact⟨D,h3.bump (by omega),by show(0:Int)≤y;omega,by show(y:Int)≤400;omega⟩
  have HPK:=zaa hPk
  clear hPk
  by_cases hk4:k<400
  ·have hk4':(k:Int)<400:=by omega
   have hE:doJ {jn with acts:=(k:Int)} ac0=({jn with acts:=(k:Int)+1},zan 3):=z2i (by show¬(400:Int)≤k;omega)
   have HE:=zaa hE
   have hk1:((k+1:Nat):Int)=(k:Int)+1:=by omega
   have HK1:=zaa hk1
   clear hE hk1
   go_wp2_with fail
   refine(zgm B [G,B] _ wr HJr.o (by simp;omega) (HPK.o k hk0 hk).ready ac0 (by decide) (by decide)).mono ?_
   rintro e w3 ⟨rfl,hJ3,hB3⟩
   rw[HE.o] at hJ3⊢
   have HJ3:=zaa hJ3
   have HG3:=zaa (HGr.o.but hB3 (by simp) (by simp;omega))
   have HB3:Hid (Below w.heap.size w w3):=HBr.o.trans ⟨hB3.os,hB3.tape,hB3.output,hB3.size,fun q hq=>hB3.block q (by have:=HBr.o.size;omega) (by simp;omega)⟩
   have KX3:=zaa ((hB3.block _ (by omega) (by simp;omega)).trans KXr.o)
   have hs3:wr.heap.size≤w3.heap.size:=hB3.size
   rw[show vRp (zan 3)=.agg #[.int .i64 3,.int .i64 0,.string ⟨#[]⟩] from rfl]
   clear hJ3 hB3 HJr HGr HBr KXr
   go_wp2_with fail
   refine(zgm G [G,B] _ w3 HG3.o (by simp;omega) (HPK.o k hk0 hk).ready ac0 (by decide) (by decide)).mono ?_
   rintro e w4 ⟨rfl,hJ4,hB4⟩
   rw[HE.o] at hJ4⊢
   rw[←HK1.o] at hJ4 HJ3
   have HG4:=zaa hJ4
   have HJ4:=zaa (HJ3.o.but hB4 (by simp) (by simp;omega))
   have HB4:Hid (Below w.heap.size w w4):=HB3.o.trans ⟨hB4.os,hB4.tape,hB4.output,hB4.size,fun q hq=>hB4.block q (by have:=HB3.o.size;omega) (by simp;omega)⟩
   have KX4:=zaa ((hB4.block _ (by omega) (by simp;omega)).trans KX3.o)
   have hs4:w3.heap.size≤w4.heap.size:=hB4.size
   rw[show vRp (zan 3)=.agg #[.int .i64 3,.int .i64 0,.string ⟨#[]⟩] from rfl]
   clear hJ4 hB4 HG3 HB3 KX3 HJ3
   go_wp2
   go_roundw
   case rel=>exact⟨k+1,by omega,by omega,by go_num,HJ4,HG4,HB4,KX4,by omega⟩
   case measure=>first|(simp[intOf];omega)|simp[intOf]
  ·have e:k=400:=by omega
   subst e
   have HE:Hid (doJ {jn with acts:=((400:Nat):Int)} x=({jn with acts:=((400:Nat):Int)},zan 11)):=z2j (by show(400:Int)≤((400:Nat):Int);omega) x
   obtain⟨⟨z0,z1,z2,z3,z4⟩,_⟩:=zhx KXr.o
   go_wp2_with fail
   refine(zgm B [G,B] _ wr HJr.o (by simp;omega) (HPK.o 400 hk0 hk).ready x HX.o.n HX.o.text).mono ?_
   rintro e w3 ⟨rfl,hJ3,hB3⟩
   rw[HE.o] at hJ3⊢
   have HJ3:=zaa hJ3
   have HG3:=zaa (HGr.o.but hB3 (by simp) (by simp;omega))
   have HB3:Hid (Below w.heap.size w w3):=HBr.o.trans ⟨hB3.os,hB3.tape,hB3.output,hB3.size,fun q hq=>hB3.block q (by have:=HBr.o.size;omega) (by simp;omega)⟩
   rw[show vRp (zan 11)=.agg #[.int .i64 11,.int .i64 0,.string ⟨#[]⟩] from rfl]
   clear hJ3 hB3 HJr HGr HBr KXr z0 z1 z2 z3 z4
   go_wp2_with fail
   refine(z1e G [G,B] B [G,B] _ _ w3 HG3.o HJ3.o (HPK.o 400 hk0 hk) (HPK.o 400 hk0 hk) rfl rfl rfl rfl rfl rfl).mono ?_
   rintro e w4 ⟨rfl,hb4⟩
   have H4:=zaa (zad HB3.o hb4)
   clear hb4
   go_wp2
   go_ret
   exact⟨rfl,H4.o⟩
end Go.Proofs.YtjnpndfpajjihadGreat

