/- -/
import Derived.Test.YtjnpndfpajjihacGreatJOrderM
import Derived.Test.YtjnpndfpajjihacGreatGrTopOrdered50
import Derived.Test.YtjnpndfpajjihacGreatJRunning
namespace Go.Proofs.YtjnpndfpajjihacGreat
open Go.Proofs.Tryz
set_option maxRecDepth 100000
set_option maxHeartbeats 40000000
open Go.RowKit
theorem PJ.lastO{j:Jn}(h:PJ j):0≤j.last∧j.last≤402:=by
 obtain⟨D,A,h2,h3⟩:=h;refine⟨A.last0,?_⟩
 cases A with
 |idle p hs hz hD ht hq=>have:=p.seq;omega
 |commit P U k p hw hk hs hD ht he hse hrh hru hq hN=>have:=p.seq;omega
 |check k p hw hz hk hs hD ht hq=>have:=p.seq;omega
 |off l N P U p hs hf hD ht=>have:=p.lo;have:=p.seq;omega
 |back U k p hw hk hs hD ht=>have:=p.lo;have:=p.seq;omega
theorem PJ.diskO{j:Jn}(h:PJ j):j.disk.safe.length*16≤140737488355328∧j.disk.wr.length*24≤140737488355328:=by
 obtain⟨D,A,_,_⟩:=h;have hg:=zft A.disk;exact⟨by omega,by omega⟩
theorem SegA.hideO{w:World}{a:Option Addr}{l:List Ac}(h:SegA w a l){w':World}(hb:Below w.heap.size w w'){X:List Nat}(hX:∀x∈X,w.heap.size≤x):SegA (zau w' X) a l:=by
 rcases h with h0|⟨b,off,rfl,hlt,hc⟩
 ·exact .inl h0
 ·have A:b∉X:=fun hx=>by have:=hX b hx;omega
  refine .inr ⟨b,off,rfl,by rw[zbf];have:=hb.size;omega,fun i hi=>?_⟩;obtain⟨F,B,D,C,E⟩:=hc i hi;exact⟨zbz A (zac hb hlt F),zbz A (zac hb hlt B),zbz A (zac hb hlt D),zbz A (zac hb hlt C),zbz A (zac hb hlt E)⟩
theorem PJ.reachO{j:Jn}(h:PJ j):zsf j.now∧j.disk.safe.length*16≤140737488355328∧j.disk.wr.length*24≤140737488355328:=by
 have B:=h.ready;obtain⟨D,A,_,_⟩:=h;have hg:=zft A.disk
 have A0:j.now.rev.length≤12:=by
  by_cases hu:j.down=false
  ·exact(zaz (A.pow hu).good).2.2
  ·cases A with
   |idle p=>exact absurd p.up hu
   |commit P U k p=>exact absurd p.up hu
   |check k p=>exact absurd p.up hu
   |off l N P U p=>rw[p.now];exact Nat.zero_le _
   |back U k p=>rw[p.now];exact Nat.zero_le _
 exact⟨⟨by have:=B.info;omega,by have:=B.data;omega,by omega⟩,by omega,by omega⟩
def OrPost (B:Nat)(X:List Nat)(j:Jn)(L P:Nat)(d:Bool)(G:Nat→List (Int×ByteArray))(w w':World):Prop:=
 ∃vs X',OrAt w' P B vs G∧w'.heap[L]?=some (.cells #[.bool d] 4 (0,0))∧JAt w' B X' j∧(∀b q,b<12→(vs b).ownBlock=some q→q∈X')∧(∀y∈X',y∈X∨(w.heap.size≤y∧y<w'.heap.size))∧(∀y∈X,y∈X')∧ButL [L,P] (B+1) w w'∧w.heap.size≤w'.heap.size
theorem ButL.drewO{X:List Nat}{n:Nat}{w w':World}(h:ButL X n w w'):ButL X n w {w' with drawn:=w'.drawn+1}:=⟨h.os,h.tape,h.output,h.size,h.block⟩
theorem ButL.base{X:List Nat}{n m:Nat}{w w':World}(h:ButL X n w w')(hm:m≤n):ButL X m w w':=⟨h.os,h.tape,h.output,h.size,fun k hk hn=>h.block k (by omega) hn⟩
theorem OrPost.same{B:Nat}{X:List Nat}{j:Jn}{L P:Nat}{d:Bool}{G:Nat→List (Int×ByteArray)}{vs:Nat→Value}{w w':World}(hO:OrAt w' P B vs G)(hN:w'.heap[L]?=some (.cells #[.bool d] 4 (0,0)))(hJ:JAt w' B X j)(hY:∀b q,b<12→(vs b).ownBlock=some q→q∈X)(hb:ButL [L,P] (B+1) w w'):OrPost B X j L P d G w w':=
 ⟨vs,X,hO,hN,hJ,hY,fun _ h=>.inl h,fun _ h=>h,hb,hb.size⟩
theorem z1n(j:Jn)(ma:Option Addr)(mc:Nat)(mb:Option Addr)(md:Nat)(mr:Option Addr)(mf:Nat)(w:World):(Instr.field 40 (.agg #[.int .i64 j.now.seq,.slice ma j.now.info.length mc,.slice mb j.now.data.length md,.slice mr j.now.rev.length mf,.bool j.now.h0.on,.int .i64 j.now.h0.left,.bool j.now.h1.on,.int .i64 j.now.h1.left,.bool j.now.h2.on,.int .i64 j.now.h2.left]) 0).run prog w=.ok (.int .i64 j.now.seq) w:=by
 kernel_rfl
theorem z3m{x y:ByteArray}(h:¬x=y):(x.toList==y.toList)=false:=by
 rw[beq_eq_false_iff_ne];intro e;rw[ByteArray.toList_eq,ByteArray.toList_eq]at e;exact h (by cases x;cases y;simp only at e;congr 1;exact Array.toList_inj.1 e)
def zdd (B:Nat)(P:Nat)(A:Nat)(nb:Nat)(x:Ac)(v0:Value)(l:List (Int×ByteArray))(j:Jn)(W2:World):Nat→Value→World→Prop
 |0,v,_=>v=.pointer (some ⟨A,2,none⟩)
 |1,v,_=>v=.int .i64 (nb:Int)
 |2,v,_=>v=.pointer (some ⟨A,2,none⟩)
 |3,v,_=>v=.int .i64 (nb:Int)
 |4,v,_=>v=.pointer (some ⟨P,nb,none⟩)
 |5,v,_=>v=v0
 |6,v,_=>v=.pointer (some ⟨B,0,none⟩)
 |7,v,_=>∃ma mc mb md mr mf,v=.agg #[.int .i64 j.now.seq,.slice ma j.now.info.length mc,.slice mb j.now.data.length md,.slice mr j.now.rev.length mf,.bool j.now.h0.on,.int .i64 j.now.h0.left,.bool j.now.h1.on,.int .i64 j.now.h1.left,.bool j.now.h2.on,.int .i64 j.now.h2.left]
 |8,v,_=>v=.int .i64 j.now.seq
 |9,v,_=>v=.pointer (some ⟨A,4,none⟩)
 |10,v,_=>v=.string x.text
 |11,v,_=>v=.string (fitT x.text)
 |12,v,_=>v=.agg #[.int .i64 j.now.seq,.string (fitT x.text)]
 |13,v,w=>∃q,v=.slice (some ⟨q,0,none⟩) 1 1∧W2.heap.size≤q∧q<w.heap.size∧w.cell? ⟨q,0,none⟩=some (.int .i64 j.now.seq)∧w.cell? ⟨q,1,none⟩=some (.string (fitT x.text))
 |14,v,w=>w.ownsRow (B+1) 65 2 v (l++[(j.now.seq,fitT x.text)]).length (cellsC (l++[(j.now.seq,fitT x.text)]))∧(v.ownBlock=v0.ownBlock∨∃q,v.ownBlock=some q∧W2.heap.size≤q)
 |15,v,_=>v=.pointer (some ⟨P,nb,none⟩)
 |_,_,_=>True
theorem zhj{B:Nat}{P:Nat}{A:Nat}{nb:Nat}{x:Ac}{v0:Value}{l:List (Int×ByteArray)}{j:Jn}{W2:World}{w w':World}(hb:Below w.heap.size w w'){i:Nat}:∀kk uu,kk≠i→zdd B P A nb x v0 l j W2 kk uu w→zdd B P A nb x v0 l j W2 kk uu w':=by
 intro kk uu _ h
 match kk,h with
 |0,h|1,h|2,h|3,h|4,h|5,h|6,h|7,h|8,h|9,h|10,h|11,h|12,h=>exact h
 |13,⟨q,h1,h2,h3,h4,h5⟩=>exact⟨q,h1,h2,Nat.lt_of_lt_of_le h3 hb.size,zac hb h3 h4,zac hb h3 h5⟩
 |14,⟨h1,h2⟩=>exact⟨zah h1 hb,h2⟩
 |15,h=>exact h
 |_+16,_=>exact trivial
def rowL (v:Value):List Nat:=v.ownBlock.toList
structure OrR (B:Nat)(v0:Value)(l:List (Int×ByteArray))(W2:World)(b:Bool)(w:World):Prop where
 but:ButL (rowL v0) W2.heap.size W2 w
 own:b=false→w.ownsRow (B+1) 65 2 v0 l.length (cellsC l)
theorem OrR.below{B:Nat}{v0:Value}{l:List (Int×ByteArray)}{W2 w w':World}{b:Bool}(h:OrR B v0 l W2 b w)(hb:Below w.heap.size w w'):OrR B v0 l W2 b w':=
 ⟨h.but.trans (Y:=[]) (ButL.of_below hb) h.but.size (by simp),fun e=>zah (h.own e) hb⟩
theorem zya{B:Nat}{P:Nat}{A:Nat}{nb:Nat}{x:Ac}{v0:Value}{l:List (Int×ByteArray)}{j:Jn}{W2:World}{w w':World}(hg:w.grownBy w' v0.ownBlock)(hr:∀q,v0.ownBlock=some q→q<W2.heap.size):∀kk uu,kk≠14→zdd B P A nb x v0 l j W2 kk uu w→zdd B P A nb x v0 l j W2 kk uu w':=by
 intro kk uu D h
 match kk,h with
 |0,h|1,h|2,h|3,h|4,h|5,h|6,h|7,h|8,h|9,h|10,h|11,h|12,h=>exact h
 |13,⟨q,h1,h2,h3,h4,h5⟩=>
  have C:v0.ownBlock≠some q:=fun e=>by have:=hr q e;omega
  exact⟨q,h1,h2,Nat.lt_of_lt_of_le h3 hg.size,hg.cell h4 (fun e=>C e.symm),hg.cell h5 (fun e=>C e.symm)⟩
 |14,_=>exact absurd rfl D
 |15,h=>exact h
 |_+16,_=>exact trivial
theorem JAt.rows{w:World}{B:Nat}{X:List Nat}{j:Jn}(h:JAt w B X j){v:Value}(hv:∀q,v.ownBlock=some q→q∈X∨w.heap.size≤q):JAt w B (rowL v++X) j:=by
 cases hq:v.ownBlock with
 |none=>simpa[rowL,hq] using h
 |some q=>
  have e:rowL v++X=q::X:=by simp[rowL,hq]
  rw[e];rcases hv q hq with h1|h1
  ·exact h.sub (by simp[h1]) (by simp[h.1])
  ·exact h.more (Below.refl _ _) h1
theorem OrPost.told{B:Nat}{X:List Nat}{j:Jn}{L P:Nat}{d:Bool}{G:Nat→List (Int×ByteArray)}{vs:Nat→Value}{w W2 W:World}{nb:Nat}{v:Value}{y:Int×ByteArray}(hO:OrAt W2 P B vs G)(hN:W2.heap[L]?=some (.cells #[.bool d] 4 (0,0)))(hJ:JAt W2 B X j)(hYX:∀b q,b<12→(vs b).ownBlock=some q→q∈X)(hB2:ButL [L,P] w.heap.size w W2)(hnb:nb<12)(hR:ButL (rowL (vs nb)) W2.heap.size W2 W)
  (h1:W.ownsRow (B+1) 65 2 v ((G nb).reverse++[y]).length (cellsC ((G nb).reverse++[y]))) (h2:v.ownBlock=(vs nb).ownBlock∨∃q,v.ownBlock=some q∧W2.heap.size≤q) (hPB:P<B) (hLB:L<B) (hLP:L≠P) (hPX:P∈X) (hBw:B<w.heap.size):
  OrPost B X j L P d (fun z=>if z=nb then y::G z else G z) w (W.setCell ⟨P,nb,none⟩ v):=by
 have A:∀q∈rowL (vs nb),B+1≤q∧q<W2.heap.size∧q∈X:=fun q hq=>by
  have hq:(vs nb).ownBlock=some q:=by simpa[rowL] using hq
  have:=zch (hO.own nb hnb) hq;exact⟨this.1,this.2,hYX nb q hnb hq⟩
 have A0:B<W2.heap.size:=hJ.lt;have hs:=hB2.size;have A1:=hR.size;have C:P∉rowL (vs nb):=fun h=>by have:=(A P h).1;omega
 have E:L∉rowL (vs nb):=fun h=>by have:=(A L h).1;omega
 have I:B∉rowL (vs nb):=fun h=>by have:=(A B h).1;omega
 have F:∀q,v.ownBlock=some q→q∈X∨W2.heap.size≤q:=fun q hq=>by
  rcases h2 with h2|⟨q2,h2,h3⟩
  ·exact .inl (hYX nb q hnb (h2▸hq))
  ·rw[h2]at hq;cases hq;exact .inr h3
 have D:=((hJ.rows F).but hR (fun y hy=>List.mem_append_right _ (A y hy).2.2) I).set (List.mem_append_right _ hPX) (by omega) nb v
 have J:=hO.set (v:=v) (g:=y::G nb) (by omega) hR C (fun q hq=>.inr (by simpa[rowL] using hq)) hnb (by simpa using h1) (by
  rcases h2 with h2|h2
  ·exact .inl h2
  ·exact .inr (.inr h2))
 refine⟨zjr vs nb v,rowL v++X,?_,?_,D,?_,?_,fun y hy=>List.mem_append_right _ hy,?_,?_⟩
 ·have e:(fun z=>if z=nb then y::G z else G z)=(fun z=>if z=nb then y::G nb else G z):=by
   funext z
   by_cases e:z=nb
   ·rw[if_pos e,if_pos e,e]
   ·rw[if_neg e,if_neg e]
  rw[e];exact J
 ·refine(Below.heap_setCell _ _ _ _ hLP).trans ((hR.block L (by omega) E).trans hN)
 ·intro b q hb hq;by_cases e:b=nb
  ·simp only[zjr,if_pos e]at hq;exact List.mem_append_left _ (by simp[rowL,hq])
  ·simp only[zjr,if_neg e]at hq;exact List.mem_append_right _ (hYX b q hb hq)
 ·intro q hq;rcases List.mem_append.1 hq with hq|hq
  ·have hq:v.ownBlock=some q:=by simpa[rowL] using hq
   rcases F q hq with h|h
   ·exact .inl h
   ·have:=(zch h1 hq).2;exact .inr ⟨by omega,by simpa[World.setCell] using this⟩
  ·exact .inl hq
 ·refine ButL.set ?_ (.inl (by simp)) nb v;exact((hB2.base (m:=B+1) (by omega)).trans hR (by omega) (fun q hq=>.inr (A q hq).1))
 ·have:(W.setCell ⟨P,nb,none⟩ v).heap.size=W.heap.size:=by simp[World.setCell]
  omega
def zm8 (G:Nat→List (Int×ByteArray))(q:Nat):Nat→List (Int×ByteArray):=fun y=>if y<q then[] else G y
theorem OrAt.congr{W:World}{P B:Nat}{vs:Nat→Value}{G G':Nat→List (Int×ByteArray)}(h:OrAt W P B vs G)(e:∀b,b<12→G' b=G b):OrAt W P B vs G':=⟨h.box,fun b hb=>by rw[e b hb];exact h.own b hb,h.apart⟩
theorem OrAt.step{W:World}{P B q:Nat}{vs:Nat→Value}{G:Nat→List (Int×ByteArray)}(h:OrAt W P B vs (fun y=>if y=q then[] else zm8 G q y)):OrAt W P B vs (zm8 G (q+1)):=h.congr fun b _=>by
 by_cases e:b=q
 ·rw[if_pos e,zm8,if_pos (by omega)]
 ·rw[if_neg e,zm8,zm8];by_cases e2:b<q
  ·rw[if_pos e2,if_pos (by omega)]
  ·rw[if_neg e2,if_neg (by omega)]
def InG (n:Int)(s:ByteArray)(R:List (Int×ByteArray))(k:Nat)(must may:Bool):Prop:=(must=true→may=true)∧(must=false→zun n s may (R.drop k)=false)
theorem InG.step{n:Int}{s:ByteArray}{R:List (Int×ByteArray)}{k:Nat}{may:Bool}(h:InG n s R k false may)(hk:k<R.length){g:Int×ByteArray}(hg:R[k]?=some g)(must' may':Bool)(h1:may'=(may||decide (g.2=s)))(h2:must'=decide (g.1≤n)):InG n s R (k+1) must' may':=by
 have hd:R.drop k=g::R.drop (k+1):=by
  rw[List.drop_eq_getElem_cons hk]
  congr 1
  rw[List.getElem?_eq_getElem hk]at hg;exact Option.some.inj hg
 have hb:=h.2 rfl;rw[hd,zun]at hb;subst h1 h2;by_cases hl:g.1≤n
 ·rw[if_pos hl]at hb;refine⟨fun _=>?_,fun h=>?_⟩
  ·cases may with
   |true=>rfl
   |false=>simpa using hb
  ·simp[hl]at h
 ·rw[if_neg hl]at hb;exact⟨fun h=>by simp[hl]at h,fun _=>hb⟩
theorem z5y{R:List (Int×ByteArray)}{k ii:Nat}(hk:k<R.length)(hi:ii+1+k=R.length):R[k]?=some (R.reverse.getD ii (0,ByteArray.empty)):=by
 rw[List.getD,List.getElem?_reverse (by omega)];have e:R.length - 1 - ii=k:=by omega
 rw[e,List.getElem?_eq_getElem hk];rfl
theorem zuo(B:Nat)(X:List Nat)(j:Jn)(x:Ac)(r:Rp)(L P:Nat)(dn:Bool)(vs:Nat→Value)(G:Nat→List (Int×ByteArray))(w:World)(hJ:JAt w B X j)(hN:w.heap[L]?=some (.cells #[.bool dn] 4 (0,0)))(hO:OrAt w P B vs G)(hLX:L∈X)(hPX:P∈X)(hPB':P<B)(hLB':L<B)(hLP0:L≠P)(hYX:∀b q,b<12→(vs b).ownBlock=some q→q∈X)(hXl:∀y∈X,y<w.heap.size)(hlen:∀b,b<12→(G b).length≤400)(hxt:x.text.size≤maxLen)(hP:PJ j)(hl1:j.last≤1000)(h16:j.disk.safe.length*16≤140737488355328)(h24:j.disk.wr.length*24≤140737488355328)(hok:OrOk G dn x r j):
  Calls prog 24 #[.pointer (some ⟨B,0,none⟩),.agg #[.int .i64 x.kind,.int .i64 x.h,.int .i64 x.b,.int .i64 x.n,.string x.text],.agg #[.int .i64 r.code,.int .i64 r.n,.string r.text],.pointer (some ⟨L,0,none⟩),.pointer (some ⟨P,0,none⟩)] w fun e w'=>e=.returned (.bool true)∧OrPost B X j L P j.down (zka G dn x r j.now.seq j.down) w w':=by
 have B5:=zab hok;have T3:=zab hP.reachO;have I6:P≤B:=by omega
 have B0:L≠B:=by omega
 clear hok hP;have S2:L<w.heap.size:=(Array.getElem?_eq_some_iff.1 hN).1;have V2:P<w.heap.size:=hO.lt;have S8:B<w.heap.size:=hJ.lt;have HJ:=zab hJ;have HO:=zab hO;have HN:=zab hN;have C1:L≠P:=hLP0;have C5:P≠B:=by omega
 have A9:P∉[L]:=by simpa using Ne.symm C1
 have B2:∀z∈[L],z≤B:=by simp;omega
 clear hJ hO hN hLP0;obtain⟨W0,C8⟩:∃W0,W0=(w.alloc (.cells #[.int .i64 x.kind,.int .i64 x.h,.int .i64 x.b,.int .i64 x.n,.string x.text] 23)).alloc (.cells #[.int .i64 r.code,.int .i64 r.n,.string r.text] 31):=⟨_,rfl⟩;have G4:Hid (Below w.heap.size w W0):=by rw[C8];exact zae (zaa _ _) (zaa _ _)
 have Q4:(w.alloc (.cells #[.int .i64 x.kind,.int .i64 x.h,.int .i64 x.b,.int .i64 x.n,.string x.text] 23)).heap.size=w.heap.size+1:=by simp
 have KA:Hid (W0.heap[w.heap.size]?=some (.cells #[.int .i64 x.kind,.int .i64 x.h,.int .i64 x.b,.int .i64 x.n,.string x.text] 23 (0,0))):=by rw[C8];exact zad (zaa _ _) (by omega) (heap_alloc_new _ _)
 have KR:Hid (W0.heap[w.heap.size+1]?=some (.cells #[.int .i64 r.code,.int .i64 r.n,.string r.text] 31 (0,0))):=by rw[C8,←Q4];exact heap_alloc_new _ _
 have U5:W0.heap.size=w.heap.size+2:=by rw[C8];simp
 have N9:=zab C8;clear C8 Q4;go_enter func24,ntmps24;go_wp2_with fail;rw[←N9.o];clear N9;refine(z1l B X j W0 (HJ.o.below G4.o)).mono ?_;rintro e l ⟨rfl,D5⟩;have J:=zab (zae G4.o D5);have B1:=zab (zad D5 (by omega) KA.o);have B4:=zab (zad D5 (by omega) KR.o);have m:=zab (zad J.o S2 HN.o);have c:=zab (HO.o.below J.o);have A2:=zab (HJ.o.below J.o);have R5:W0.heap.size≤l.heap.size:=D5.size;have q0:w.heap.size<l.heap.size:=by omega
 have q1:w.heap.size+1<l.heap.size:=by omega
 have q2:L<l.heap.size:=by omega
 have q3:P<l.heap.size:=by omega
 have e0:¬L=w.heap.size:=by omega
 have e1:¬L=w.heap.size+1:=by omega
 have e2:¬w.heap.size=L:=by omega
 have e3:¬w.heap.size+1=L:=by omega
 have e4:¬w.heap.size=P:=by omega
 have e5:¬w.heap.size+1=P:=by omega
 have e6:¬P=L:=by omega
 clear D5 KA KR G4 HO HJ HN U5 R5;obtain⟨⟨z0,z1,z2,z3,z4⟩,_⟩:=zis B1.o;obtain⟨⟨y0,y1,y2⟩,_⟩:=zbn B4.o;have k0:l.cell? ⟨L,0,none⟩=some (.bool dn):=(cell_of_row l _ 0 _ _ _ m.o).trans rfl;have V7:l.frozen? ⟨L,0,none⟩=false:=frozen_of_row l _ _ _ _ m.o;by_cases hc:r.code=0
 ·rw[hc]at y0;have HC:=zab hc;clear hc;by_cases hk24:x.kind=2∨x.kind=4
  ·obtain⟨E,A7,E0⟩:∃E:Nat,E<12∧x.b=(E:Int):=by
    have:=B5.o.at' HC.o (by omega);exact⟨x.b.toNat,by omega,by omega⟩
   have hE:zka G dn x r j.now.seq j.down=(fun y=>if y=E then[] else G y):=by
    rw[zka,if_pos HC.o,if_pos hk24]
    funext y
    by_cases e:y=E
    ·rw[if_pos e,if_pos (by omega)]
    ·rw[if_neg e,if_neg (by omega)]
   have HE:=zab hE;rw[E0]at z2;have R2:(0:Int)≤(E:Int):=by omega
   have G9:(E:Int)<12:=by omega
   have cp:l.cell? ⟨P,E,none⟩=some (vs E):=c.o.cell A7;have fp:l.frozen? ⟨P,E,none⟩=false:=frozen_of_row l _ _ _ _ c.o.box;obtain⟨ra,rc,E4,_⟩:=SegGo.of_owns (c.o.own E A7);rw[E4]at cp
   have O1:∀b q,b<12→(zjr vs E (.slice none 0 0) b).ownBlock=some q→q∈X:=fun b q hb hq=>by
    by_cases e:b=E
    ·simp only[zjr,if_pos e]at hq;cases hq
    ·simp only[zjr,if_neg e]at hq;exact hYX b q hb hq
   clear hE E0 B5 E4;rcases hk24 with hk|hk
   all_goals
    rw[hk]at z0;clear hk;cases dn
    all_goals
     cases S:j.down
     ·have A5:=zab S;clear S;obtain⟨D,A⟩:∃D,D=((l.setCell ⟨L,0,none⟩ (.bool false)).setCell ⟨P,E,none⟩ (.slice none 0 0)).alloc (.cells #[.int .i64 j.rh,.int .i64 j.ru] 26):=⟨_,rfl⟩;have F:Hid (OrAt D P B (zjr vs E (.slice none 0 0)) (fun y=>if y=E then[] else G y)):=by rw[A];exact((c.o.low (Z:=[L]) ((ButL.refl _ _ _).set (.inl (by simp)) 0 _) A9 B2).set I6 (Z:=[]) (g:=[]) (ButL.refl _ _ _) (by simp) (by simp) A7 (World.ownsRow_nil _ _ _ _) (.inr (.inl rfl))).below (zaa _ _)
      have Q:Hid (D.heap[L]?=some (.cells #[.bool false] 4 (0,0))):=by rw[A];exact zad (zaa _ _) (by simpa[World.setCell] using q2) ((Below.heap_setCell _ _ _ _ C1).trans (heap_setCell_same _ _ 0 _ _ _ m.o))
      have M:Hid (JAt D B X j):=by rw[A];exact((A2.o.set hLX B0 0 _).set hPX C5 E _).below (zaa _ _)
      have O:Hid (ButL [L,P] w.heap.size w D):=by
       rw[A];exact(((ButL.of_below (X:=[L,P]) J.o).set (.inl (by simp)) 0 _).set (.inl (by simp)) E _).trans (Y:=[]) (ButL.of_below (zaa _ _)) (by have:=J.o.size;simpa[World.setCell] using this) (by simp)
      have A4:D.heap.size=l.heap.size+1:=by rw[A];simp[World.setCell]
      have K:=zab A;clear A;have HF:Hid (OrPost B X j L P false (fun y=>if y=E then[] else G y) w D):=OrPost.same F.o Q.o M.o O1 (O.o.base (by omega));rw[K.o]at HF;clear K F Q M O c A2 J B1 B4 m A4;go_wp2;go_ret;exact⟨rfl,by rw[HE.o,A5.o];exact HF.o⟩
     ·have A5:=zab S;clear S;obtain⟨D,A⟩:∃D,D=((l.setCell ⟨L,0,none⟩ (.bool true)).setCell ⟨P,E,none⟩ (.slice none 0 0)).alloc (.cells #[.int .i64 j.rh,.int .i64 j.ru] 26):=⟨_,rfl⟩;have F:Hid (OrAt D P B (zjr vs E (.slice none 0 0)) (fun y=>if y=E then[] else G y)):=by rw[A];exact((c.o.low (Z:=[L]) ((ButL.refl _ _ _).set (.inl (by simp)) 0 _) A9 B2).set I6 (Z:=[]) (g:=[]) (ButL.refl _ _ _) (by simp) (by simp) A7 (World.ownsRow_nil _ _ _ _) (.inr (.inl rfl))).below (zaa _ _)
      have Q:Hid (D.heap[L]?=some (.cells #[.bool true] 4 (0,0))):=by rw[A];exact zad (zaa _ _) (by simpa[World.setCell] using q2) ((Below.heap_setCell _ _ _ _ C1).trans (heap_setCell_same _ _ 0 _ _ _ m.o))
      have M:Hid (JAt D B X j):=by rw[A];exact((A2.o.set hLX B0 0 _).set hPX C5 E _).below (zaa _ _)
      have O:Hid (ButL [L,P] w.heap.size w D):=by
       rw[A];exact(((ButL.of_below (X:=[L,P]) J.o).set (.inl (by simp)) 0 _).set (.inl (by simp)) E _).trans (Y:=[]) (ButL.of_below (zaa _ _)) (by have:=J.o.size;simpa[World.setCell] using this) (by simp)
      have A4:D.heap.size=l.heap.size+1:=by rw[A];simp[World.setCell]
      have K:=zab A;clear A;have HF:Hid (OrPost B X j L P true (fun y=>if y=E then[] else G y) w D):=OrPost.same F.o Q.o M.o O1 (O.o.base (by omega));rw[K.o]at HF;clear K F Q M O c A2 J B1 B4 m A4;go_wp2;go_ret;exact⟨rfl,by rw[HE.o,A5.o];exact HF.o⟩
  ·by_cases hk3:x.kind=3
   ·obtain⟨E,A7,E0⟩:∃E:Nat,E<12∧x.b=(E:Int):=by
     have:=B5.o.at' HC.o (by omega);exact⟨x.b.toNat,by omega,by omega⟩
    have hE:zka G dn x r j.now.seq j.down=(fun z=>if z=E then(j.now.seq,fitT x.text)::G z else G z):=by
     rw[zka,if_pos HC.o,if_neg hk24,if_pos hk3]
     funext y
     by_cases e:y=E
     ·rw[if_pos e,if_pos (by omega)]
     ·rw[if_neg e,if_neg (by omega)]
    have HE:=zab hE;rw[E0]at z2;rw[hk3]at z0;have R2:(0:Int)≤(E:Int):=by omega
    have G9:(E:Int)<12:=by omega
    clear hE B5 hk24;obtain⟨D,A⟩:∃D,D=(l.setCell ⟨L,0,none⟩ (.bool j.down)).alloc (.cells #[.int .i64 j.rh,.int .i64 j.ru] 26):=⟨_,rfl⟩;have F:Hid (OrAt D P B vs G):=by rw[A];exact(c.o.low (Z:=[L]) ((ButL.refl _ _ _).set (.inl (by simp)) 0 _) A9 B2).below (zaa _ _)
    have Q:Hid (D.heap[L]?=some (.cells #[.bool j.down] 4 (0,0))):=by rw[A];exact zad (zaa _ _) (by simpa[World.setCell] using q2) (heap_setCell_same _ _ 0 _ _ _ m.o)
    have M:Hid (JAt D B X j):=by rw[A];exact(A2.o.set hLX B0 0 _).below (zaa _ _)
    have O:Hid (ButL [L,P] w.heap.size w D):=by
     rw[A];exact((ButL.of_below (X:=[L,P]) J.o).set (.inl (by simp)) 0 _).trans (Y:=[]) (ButL.of_below (zaa _ _)) (by have:=J.o.size;simpa[World.setCell] using this) (by simp)
    have A4:D.heap.size=l.heap.size+1:=by rw[A];simp[World.setCell]
    have K:=zab A
    have T5:Hid (D.heap[w.heap.size]?=some (.cells #[.int .i64 x.kind,.int .i64 x.h,.int .i64 x.b,.int .i64 x.n,.string x.text] 23 (0,0))):=by
     rw[A];exact zad (zaa _ _) (by simpa[World.setCell] using q0) ((Below.heap_setCell _ _ _ _ e2).trans B1.o)
    clear A;obtain⟨⟨a0,a1,a2,a3,a4⟩,_⟩:=zis T5.o;rw[E0]at a2;rw[hk3]at a0;have R3:=zab a0;have W5:=zab a1;have M8:=zab a2;have U9:=zab a3;have U6:=zab a4;clear a0 a1 a2 a3 a4
    have C3:∀q∈rowL (vs E),B+1≤q∧q<w.heap.size∧q∈X:=fun q hq=>by
     have hq:(vs E).ownBlock=some q:=by simpa[rowL] using hq
     have h1:=hYX E q A7 hq;exact⟨(zch (F.o.own E A7) hq).1,hXl q h1,h1⟩
    have T4:∀q,(vs E).ownBlock=some q→q<D.heap.size:=fun q hq=>(zch (F.o.own E A7) hq).2;have S7:∀q∈rowL (vs E),q∈X:=fun q hq=>(C3 q hq).2.2;have R8:B∉rowL (vs E):=fun h=>by have:=(C3 B h).1;omega
    have C9:P∉rowL (vs E):=fun h=>by have:=(C3 P h).1;omega
    have E5:w.heap.size∉rowL (vs E):=fun h=>by have:=(C3 _ h).2.1;omega
    have E3:w.heap.size<D.heap.size:=by omega
    have F2:P<D.heap.size:=by omega
    have CP:Hid (D.cell? ⟨P,E,none⟩=some (vs E)):=F.o.cell A7;have T6:=zab (SegGo.of_owns (F.o.own E A7));have W1:=hlen E A7;clear C3;go_wp2_with fail;rw[←K.o];clear K;rename_i KK F5
    have F3:∀(d1 d2:Bool) (g0 g1 g2 g3 g4 g5 g7 g8 g9 J6 I4 M3 H1 H5 Q7 J2 K8 L3 J8 L6 L5 O6 N0 P0 N8 K5 J5 O5 J7 J9 P5 Q3 I7 K7 J4 I1 P1 L4 M9 O9 Q5 H6 P4 H4 M2 Q1 N7 K2 Q8 P3 H7 P6 Q0 I3 M4 L8 N2 K0 O7 P8 O4 L0 J1 Q6 I8 L1 M6 P2 K1 I0 I9 M7 N6 K4 H9 N1 L2 K3 J0 N5 M5 N3 P9 Q9 Q2 H3 R0 O3 R1 N4 M0 O2 O0 H8 P7 H2 I2 G1 F9 F6 G0 E6 E8 G6:Value) (W3:World),W3.cell? ⟨w.heap.size,0,none⟩=some (.int .i64 3)→OrPost B X j L P j.down (fun z=>if z=E then(j.now.seq,fitT x.text)::G z else G z) w W3→KK ⟨#[g0,g1,g2,g3,g4,g5,.pointer (some ⟨w.heap.size,0,none⟩),g7,g8,g9,J6,.bool d1,.bool d2,I4,M3,H1,H5,Q7,J2,K8,L3,J8,L6,L5,O6,N0,P0,N8,K5,J5,O5,J7,J9,P5,Q3,I7,K7,J4,I1,P1,L4,M9,O9,Q5,H6,P4,H4,M2,Q1,N7,K2,Q8,P3,H7,P6,Q0,I3,M4,L8,N2,K0,O7,P8,O4,L0,J1,Q6,I8,L1,M6,P2,K1,I0,I9,M7,N6,K4,H9,N1,L2,K3,J0,N5,M5,N3,P9,Q9,Q2,H3,R0,O3,R1,N4,M0,O2,O0,H8,P7,H2,I2,G1,F9,F6,G0,E6,E8,G6],[]⟩ W3:=by
     intro d1 d2 g0 g1 g2 g3 g4 g5 g7 g8 g9 J6 I4 M3 H1 H5 Q7 J2 K8 L3 J8 L6 L5 O6 N0 P0 N8 K5 J5 O5 J7 J9 P5 Q3 I7 K7 J4 I1 P1 L4 M9 O9 Q5 H6 P4 H4 M2 Q1 N7 K2 Q8 P3 H7 P6 Q0 I3 M4 L8 N2 K0 O7 P8 O4 L0 J1 Q6 I8 L1 M6 P2 K1 I0 I9 M7 N6 K4 H9 N1 L2 K3 J0 N5 M5 N3 P9 Q9 Q2 H3 R0 O3 R1 N4 M0 O2 O0 H8 P7 H2 I2 G1 F9 F6 G0 E6 E8 G6 W3 hk hW;apply F5;clear F5;have HF:=zab hW;clear hW;cases d1<;>cases d2
     all_goals
      go_wp2;go_ret;exact⟨rfl,by rw[HE.o];exact HF.o⟩
    have H0:=zab F3;clear F3 F5;refine(show∀A0:Act,A0=_→Code.wp prog _ _ A0 _ from fun A0 hA0=>?_) _ rfl;have A3:A0.tmps.size=107:=by rw[hA0];rfl
    have U4:A0.defers=[]:=by rw[hA0]
    have v0:A0.eval (.tmp 0)=.pointer (some ⟨B,0,none⟩):=by rw[hA0];rfl
    have v4:A0.eval (.tmp 4)=.pointer (some ⟨P,0,none⟩):=by rw[hA0];rfl
    have v6:A0.eval (.tmp 6)=.pointer (some ⟨w.heap.size,0,none⟩):=by rw[hA0];rfl
    have S4:A0.eval (.tmp 11)=.bool j.down:=by rw[hA0];rfl
    have T7:A0.eval (.tmp 12)=.bool dn:=by rw[hA0];rfl
    clear hA0;refine zjq 16 14 (by decide) (OrR B (vs E) (G E).reverse D) [40,41,42,43,44,45,46,47,48,49,50,51,52,53,54,55] (zdd B P w.heap.size E x (vs E) (G E).reverse j D) (by kernel_rfl) (by kernel_rfl) (by kernel_rfl) (by kernel_rfl) (by decide) ⟨(ButL.refl _ _ _).drewO,fun _=>by rw[List.length_reverse];exact zah (F.o.own E A7) ((Below.refl _ _).drew)⟩ ⟨?_,?_,?_,?_,?_,?_,?_,?_,?_,?_,?_,?_,?_,?_,?_,?_,trivial⟩ ?_
    ·intro b a w' hb A6 N I U;have z6:=(N.other 6 rfl).trans v6;refine zar (.pointer (some ⟨w.heap.size,2,none⟩)) rfl rfl (by revert z6;generalize a.eval=ρ;intro z6;simp only[execOp];go_simp) ⟨_,rfl,(by simpa using I),?_,fun _ _ _ h=>h⟩;show zdd _ _ _ _ _ _ _ _ _ _ ((a.put (some 40) _).eval (.tmp 40)) w';rw[zan N A3 (by decide)];exact rfl
    ·intro b a w' hb A6 N I U;have p40:a.eval (.tmp 40)=.pointer (some ⟨w.heap.size,2,none⟩):=U ⟨0,.data⟩ (by simp) rfl;have c0:w'.cell? ⟨w.heap.size,2,none⟩=some (.int .i64 (E:Int)):=I.but.cell E3 E5 M8.o;refine zar (.int .i64 (E:Int)) rfl rfl (by revert p40;generalize a.eval=ρ;intro p40;simp only[execOp];go_simp) ⟨_,rfl,(by simpa using I),?_,fun _ _ _ h=>h⟩;show zdd _ _ _ _ _ _ _ _ _ _ ((a.put (some 41) _).eval (.tmp 41)) w';rw[zan N A3 (by decide)];exact rfl
    ·intro b a w' hb A6 N I U;have z6:=(N.other 6 rfl).trans v6;refine zar (.pointer (some ⟨w.heap.size,2,none⟩)) rfl rfl (by revert z6;generalize a.eval=ρ;intro z6;simp only[execOp];go_simp) ⟨_,rfl,(by simpa using I),?_,fun _ _ _ h=>h⟩;show zdd _ _ _ _ _ _ _ _ _ _ ((a.put (some 42) _).eval (.tmp 42)) w';rw[zan N A3 (by decide)];exact rfl
    ·intro b a w' hb A6 N I U;have p42:a.eval (.tmp 42)=.pointer (some ⟨w.heap.size,2,none⟩):=U ⟨2,.data⟩ (by simp) rfl;have c0:w'.cell? ⟨w.heap.size,2,none⟩=some (.int .i64 (E:Int)):=I.but.cell E3 E5 M8.o;refine zar (.int .i64 (E:Int)) rfl rfl (by revert p42;generalize a.eval=ρ;intro p42;simp only[execOp];go_simp) ⟨_,rfl,(by simpa using I),?_,fun _ _ _ h=>h⟩;show zdd _ _ _ _ _ _ _ _ _ _ ((a.put (some 43) _).eval (.tmp 43)) w';rw[zan N A3 (by decide)];exact rfl
    ·intro b a w' hb A6 N I U;have p43:a.eval (.tmp 43)=.int .i64 (E:Int):=U ⟨3,.data⟩ (by simp) rfl;have z4:=(N.other 4 rfl).trans v4;refine zar (.pointer (some ⟨P,E,none⟩)) rfl rfl (by revert p43 z4;generalize a.eval=ρ;intro p43 z4;simp only[execOp];go_simp) ⟨_,rfl,(by simpa using I),?_,fun _ _ _ h=>h⟩;show zdd _ _ _ _ _ _ _ _ _ _ ((a.put (some 44) _).eval (.tmp 44)) w';rw[zan N A3 (by decide)];exact rfl
    ·intro b a w' hb A6 N I U;have p44:a.eval (.tmp 44)=.pointer (some ⟨P,E,none⟩):=U ⟨4,.data⟩ (by simp) rfl;have c0:w'.cell? ⟨P,E,none⟩=some (vs E):=I.but.cell F2 C9 CP.o;obtain⟨ra,rc,E4,_⟩:=T6.o;refine zar (vs E) rfl rfl (by rw[E4]at c0⊢;revert p44;generalize a.eval=ρ;intro p44;simp only[execOp];go_simp) ⟨_,rfl,(by simpa using I),?_,fun _ _ _ h=>h⟩;show zdd _ _ _ _ _ _ _ _ _ _ ((a.put (some 45) _).eval (.tmp 45)) w';rw[zan N A3 (by decide)];exact rfl
    ·intro b a w' hb A6 N I U;have z0:=(N.other 0 rfl).trans v0;refine zar (.pointer (some ⟨B,0,none⟩)) rfl rfl (by revert z0;generalize a.eval=ρ;intro z0;simp only[execOp];go_simp) ⟨_,rfl,(by simpa using I),?_,fun _ _ _ h=>h⟩;show zdd _ _ _ _ _ _ _ _ _ _ ((a.put (some 46) _).eval (.tmp 46)) w';rw[zan N A3 (by decide)];exact rfl
    ·intro b a w' hb A6 N I U;have p46:a.eval (.tmp 46)=.pointer (some ⟨B,0,none⟩):=U ⟨6,.data⟩ (by simp) rfl;refine zbp 17 #[.pointer (some ⟨B,0,none⟩)] rfl rfl (by have pf:=Act.eval_func a 17;revert p46 pf;generalize a.eval=ρ;intro p46 pf;simp only[execOp];go_simp) _ (zsc B X j w' (M.o.but I.but S7 R8) T3.o.1) ?_;rintro e w2 ⟨v2,rfl,T1,D8⟩;refine⟨_,rfl,_,rfl,(by simpa using I.below D8),?_,zhj D8⟩;show zdd _ _ _ _ _ _ _ _ _ _ ((a.put (some 47) _).eval (.tmp 47)) w2;rw[zan N A3 (by decide)];obtain⟨ma,mc,mb,md,mr,mf,hv,_⟩:=T1;exact⟨ma,mc,mb,md,mr,mf,hv⟩
    ·intro b a w' hb A6 N I U;obtain⟨ma,mc,mb,md,mr,mf,p47⟩:∃ma mc mb md mr mf,a.eval (.tmp 47)=.agg #[.int .i64 j.now.seq,.slice ma j.now.info.length mc,.slice mb j.now.data.length md,.slice mr j.now.rev.length mf,.bool j.now.h0.on,.int .i64 j.now.h0.left,.bool j.now.h1.on,.int .i64 j.now.h1.left,.bool j.now.h2.on,.int .i64 j.now.h2.left]:=U ⟨7,.data⟩ (by simp) rfl;refine zar (.int .i64 j.now.seq) rfl rfl (by have U8:=z1n j ma mc mb md mr mf w';revert p47;generalize a.eval=ρ;intro p47;simp only[execOp];go_simp) ⟨_,rfl,(by simpa using I),?_,fun _ _ _ h=>h⟩;show zdd _ _ _ _ _ _ _ _ _ _ ((a.put (some 48) _).eval (.tmp 48)) w';rw[zan N A3 (by decide)];exact rfl
    ·intro b a w' hb A6 N I U;have z6:=(N.other 6 rfl).trans v6;refine zar (.pointer (some ⟨w.heap.size,4,none⟩)) rfl rfl (by revert z6;generalize a.eval=ρ;intro z6;simp only[execOp];go_simp) ⟨_,rfl,(by simpa using I),?_,fun _ _ _ h=>h⟩;show zdd _ _ _ _ _ _ _ _ _ _ ((a.put (some 49) _).eval (.tmp 49)) w';rw[zan N A3 (by decide)];exact rfl
    ·intro b a w' hb A6 N I U;have p49:a.eval (.tmp 49)=.pointer (some ⟨w.heap.size,4,none⟩):=U ⟨9,.data⟩ (by simp) rfl;have c0:w'.cell? ⟨w.heap.size,4,none⟩=some (.string x.text):=I.but.cell E3 E5 U6.o;refine zar (.string x.text) rfl rfl (by revert p49;generalize a.eval=ρ;intro p49;simp only[execOp];go_simp) ⟨_,rfl,(by simpa using I),?_,fun _ _ _ h=>h⟩;show zdd _ _ _ _ _ _ _ _ _ _ ((a.put (some 50) _).eval (.tmp 50)) w';rw[zan N A3 (by decide)];exact rfl
    ·intro b a w' hb A6 N I U;have p50:a.eval (.tmp 50)=.string x.text:=U ⟨10,.data⟩ (by simp) rfl;refine zbp 25 #[.string x.text] rfl rfl (by have pf:=Act.eval_func a 25;revert p50 pf;generalize a.eval=ρ;intro p50 pf;simp only[execOp];go_simp) _ (zgb x.text w' hxt) ?_;rintro e w2 ⟨rfl,D8⟩;refine⟨_,rfl,_,rfl,(by simpa using I.below D8),?_,zhj D8⟩;show zdd _ _ _ _ _ _ _ _ _ _ ((a.put (some 51) _).eval (.tmp 51)) w2;rw[zan N A3 (by decide)];exact rfl
    ·intro b a w' hb A6 N I U;have p48:a.eval (.tmp 48)=.int .i64 j.now.seq:=U ⟨8,.data⟩ (by simp) rfl;have p51:a.eval (.tmp 51)=.string (fitT x.text):=U ⟨11,.data⟩ (by simp) rfl;refine zar (.agg #[.int .i64 j.now.seq,.string (fitT x.text)]) rfl rfl (by revert p48 p51;generalize a.eval=ρ;intro p48 p51;simp only[execOp];go_simp) ⟨_,rfl,(by simpa using I),?_,fun _ _ _ h=>h⟩;show zdd _ _ _ _ _ _ _ _ _ _ ((a.put (some 52) _).eval (.tmp 52)) w';rw[zan N A3 (by decide)];exact rfl
    ·intro b a w' hb A6 N I U;have p52:a.eval (.tmp 52)=.agg #[.int .i64 j.now.seq,.string (fitT x.text)]:=U ⟨12,.data⟩ (by simp) rfl;refine zfl (.slice (some ⟨w'.heap.size,0,none⟩) 1 1) rfl rfl (w':=w'.alloc (.cells #[.int .i64 j.now.seq,.string (fitT x.text)] 65)) (by revert p52;generalize a.eval=ρ;intro p52;simp only[execOp];go_simp) ⟨_,rfl,(by simpa using I.below (zaa _ _)),?_,zhj (zaa _ _)⟩;show zdd _ _ _ _ _ _ _ _ _ _ ((a.put (some 53) _).eval (.tmp 53)) (w'.alloc (.cells #[.int .i64 j.now.seq,.string (fitT x.text)] 65));rw[zan N A3 (by decide)];have hz:=heap_alloc_new w' (.cells #[.int .i64 j.now.seq,.string (fitT x.text)] 65);exact⟨w'.heap.size,rfl,I.but.size,by simp,(cell_of_row _ _ 0 _ _ _ hz).trans rfl,(cell_of_row _ _ 1 _ _ _ hz).trans rfl⟩
    ·intro b a w' hb A6 N I U;have U2:b=false:=hb rfl;subst U2;have p45:a.eval (.tmp 45)=vs E:=U ⟨5,.data⟩ (by simp) rfl;obtain⟨q,p53,W9,V9,S9,T0⟩:∃q,a.eval (.tmp 53)=.slice (some ⟨q,0,none⟩) 1 1∧D.heap.size≤q∧q<w'.heap.size∧w'.cell? ⟨q,0,none⟩=some (.int .i64 j.now.seq)∧w'.cell? ⟨q,1,none⟩=some (.string (fitT x.text)):=U ⟨13,.data⟩ (by simp) rfl;have J3:=I.but.size;refine z4r rfl rfl (.tmp 45) (.tmp 53) rfl (B+1) (vs E) (G E).reverse p45 (I.own rfl) q (j.now.seq,fitT x.text) p53 S9 T0 (by rw[List.length_reverse];omega) (by omega) ?_;intro v' w3 g1 g2 g3;refine⟨_,rfl,⟨⟨g2.os.trans I.but.os,g2.tape.trans I.but.tape,g2.output.trans I.but.output,Nat.le_trans J3 g2.size,fun k hk hn=>(g2.block k (by omega) (fun e=>hn (by simp[rowL,e]))).trans (I.but.block k hk hn)⟩,(fun h=>by cases h)⟩,?_,zya g2 T4⟩;show zdd _ _ _ _ _ _ _ _ _ _ ((a.put (some 54) _).eval (.tmp 54)) w3;rw[zan N A3 (by decide)];exact⟨g1,g3.imp_right fun e=>⟨_,e,J3⟩⟩
    ·intro b a w' hb A6 N I U;have p41:a.eval (.tmp 41)=.int .i64 (E:Int):=U ⟨1,.data⟩ (by simp) rfl;have z4:=(N.other 4 rfl).trans v4;refine zar (.pointer (some ⟨P,E,none⟩)) rfl rfl (by revert p41 z4;generalize a.eval=ρ;intro p41 z4;simp only[execOp];go_simp) ⟨_,rfl,(by simpa using I),?_,fun _ _ _ h=>h⟩;show zdd _ _ _ _ _ _ _ _ _ _ ((a.put (some 55) _).eval (.tmp 55)) w';rw[zan N A3 (by decide)];exact rfl
    ·intro C W N I U;obtain⟨h1,h2⟩:=U 14 (by decide);have h1:W.ownsRow (B+1) 65 2 (C.eval (.tmp 54)) ((G E).reverse++[(j.now.seq,fitT x.text)]).length (cellsC ((G E).reverse++[(j.now.seq,fitT x.text)])):=h1;have h2:(C.eval (.tmp 54)).ownBlock=(vs E).ownBlock∨∃q,(C.eval (.tmp 54)).ownBlock=some q∧D.heap.size≤q:=h2;have p55:C.eval (.tmp 55)=.pointer (some ⟨P,E,none⟩):=U 15 (by decide);obtain⟨sa,sc,p54,_⟩:=SegGo.of_owns h1;rw[p54]at h1 h2;have U0:C.tmps.size=107:=N.size.trans A3;have f6:C.eval (.tmp 6)=.pointer (some ⟨w.heap.size,0,none⟩):=(N.other 6 rfl).trans v6;have S6:C.eval (.tmp 11)=.bool j.down:=(N.other 11 rfl).trans S4;have R7:C.eval (.tmp 12)=.bool dn:=(N.other 12 rfl).trans T7;have c0:W.cell? ⟨P,E,none⟩=some (vs E):=I.but.cell F2 C9 CP.o;have c1:W.frozen? ⟨P,E,none⟩=false:=frozen_of_row W _ _ _ _ ((I.but.block P F2 C9).trans F.o.box);have D1:=OrPost.told (d:=j.down) (y:=(j.now.seq,fitT x.text)) F.o Q.o M.o hYX O.o A7 I.but h1 h2 hPB' hLB' C1 hPX S8;have G7:=zeo (p:=⟨P,E,none⟩) (u:=.slice sa ((G E).reverse++[(j.now.seq,fitT x.text)]).length sc) (I.but.cell E3 E5 R3.o) e4;obtain⟨nn,T8⟩:∃nn,nn=((G E).reverse++[(j.now.seq,fitT x.text)]).length:=⟨_,rfl⟩;rw[←T8]at p54 D1 G7;show wpOps prog _ _ [16] C W;rw[wpOps_cons];refine zco rfl rfl (w':=W.setCell ⟨P,E,none⟩ (.slice sa nn sc)) (by clear D1 G7 I h1 h2;revert p54 p55;generalize C.eval=ρ;intro p54 p55;simp only[execOp];go_simp) ?_;show KK C _;have E2:C=⟨#[_,_,_,_,_,_,_,_,_,_,_,_,_,_,_,_,_,_,_,_,_,_,_,_,_,_,_,_,_,_,_,_,_,_,_,_,_,_,_,_,_,_,_,_,_,_,_,_,_,_,_,_,_,_,_,_,_,_,_,_,_,_,_,_,_,_,_,_,_,_,_,_,_,_,_,_,_,_,_,_,_,_,_,_,_,_,_,_,_,_,_,_,_,_,_,_,_,_,_,_,_,_,_,_,_,_,_],[]⟩:=zcn C 107 U0 (N.defers.trans U4);dsimp only at E2;rw[f6,S6,R7]at E2;exact(congrArg (fun y=>KK y _) E2).mpr (H0.o j.down dn (C.eval (.tmp 0)) (C.eval (.tmp 1)) (C.eval (.tmp 2)) (C.eval (.tmp 3)) (C.eval (.tmp 4)) (C.eval (.tmp 5)) (C.eval (.tmp 7)) (C.eval (.tmp 8)) (C.eval (.tmp 9)) (C.eval (.tmp 10)) (C.eval (.tmp 13)) (C.eval (.tmp 14)) (C.eval (.tmp 15)) (C.eval (.tmp 16)) (C.eval (.tmp 17)) (C.eval (.tmp 18)) (C.eval (.tmp 19)) (C.eval (.tmp 20)) (C.eval (.tmp 21)) (C.eval (.tmp 22)) (C.eval (.tmp 23)) (C.eval (.tmp 24)) (C.eval (.tmp 25)) (C.eval (.tmp 26)) (C.eval (.tmp 27)) (C.eval (.tmp 28)) (C.eval (.tmp 29)) (C.eval (.tmp 30)) (C.eval (.tmp 31)) (C.eval (.tmp 32)) (C.eval (.tmp 33)) (C.eval (.tmp 34)) (C.eval (.tmp 35)) (C.eval (.tmp 36)) (C.eval (.tmp 37)) (C.eval (.tmp 38)) (C.eval (.tmp 39)) (C.eval (.tmp 40)) (C.eval (.tmp 41)) (C.eval (.tmp 42)) (C.eval (.tmp 43)) (C.eval (.tmp 44)) (C.eval (.tmp 45)) (C.eval (.tmp 46)) (C.eval (.tmp 47)) (C.eval (.tmp 48)) (C.eval (.tmp 49)) (C.eval (.tmp 50)) (C.eval (.tmp 51)) (C.eval (.tmp 52)) (C.eval (.tmp 53)) (C.eval (.tmp 54)) (C.eval (.tmp 55)) (C.eval (.tmp 56)) (C.eval (.tmp 57)) (C.eval (.tmp 58)) (C.eval (.tmp 59)) (C.eval (.tmp 60)) (C.eval (.tmp 61)) (C.eval (.tmp 62)) (C.eval (.tmp 63)) (C.eval (.tmp 64)) (C.eval (.tmp 65)) (C.eval (.tmp 66)) (C.eval (.tmp 67)) (C.eval (.tmp 68)) (C.eval (.tmp 69)) (C.eval (.tmp 70)) (C.eval (.tmp 71)) (C.eval (.tmp 72)) (C.eval (.tmp 73)) (C.eval (.tmp 74)) (C.eval (.tmp 75)) (C.eval (.tmp 76)) (C.eval (.tmp 77)) (C.eval (.tmp 78)) (C.eval (.tmp 79)) (C.eval (.tmp 80)) (C.eval (.tmp 81)) (C.eval (.tmp 82)) (C.eval (.tmp 83)) (C.eval (.tmp 84)) (C.eval (.tmp 85)) (C.eval (.tmp 86)) (C.eval (.tmp 87)) (C.eval (.tmp 88)) (C.eval (.tmp 89)) (C.eval (.tmp 90)) (C.eval (.tmp 91)) (C.eval (.tmp 92)) (C.eval (.tmp 93)) (C.eval (.tmp 94)) (C.eval (.tmp 95)) (C.eval (.tmp 96)) (C.eval (.tmp 97)) (C.eval (.tmp 98)) (C.eval (.tmp 99)) (C.eval (.tmp 100)) (C.eval (.tmp 101)) (C.eval (.tmp 102)) (C.eval (.tmp 103)) (C.eval (.tmp 104)) (C.eval (.tmp 105)) (C.eval (.tmp 106)) _ G7 D1)
   ·by_cases hk8:x.kind=8
    ·rw[hk8]at z0;by_cases hb:dn=true∧j.down=false
     ·obtain⟨hd,S⟩:=hb;have O8:=B5.o.on HC.o hk8 hd S;have HE:Hid (zka G dn x r j.now.seq j.down=fun _=>[]):=by rw[Hid,zka,if_pos HC.o,if_neg hk24,if_neg hk3,if_pos ⟨hk8,hd,S⟩]
      subst hd;rw[S];have A5:=zab S;clear S B5 hk24 hk3 hk8;obtain⟨D,A⟩:∃D,D=(l.setCell ⟨L,0,none⟩ (.bool false)).alloc (.cells #[.int .i64 j.rh,.int .i64 j.ru] 26):=⟨_,rfl⟩;have F:Hid (OrAt D P B vs G):=by rw[A];exact(c.o.low (Z:=[L]) ((ButL.refl _ _ _).set (.inl (by simp)) 0 _) A9 B2).below (zaa _ _)
      have Q:Hid (D.heap[L]?=some (.cells #[.bool false] 4 (0,0))):=by rw[A];exact zad (zaa _ _) (by simpa[World.setCell] using q2) (heap_setCell_same _ _ 0 _ _ _ m.o)
      have M:Hid (JAt D B X j):=by rw[A];exact(A2.o.set hLX B0 0 _).below (zaa _ _)
      have O:Hid (ButL [L,P] w.heap.size w D):=by
       rw[A];exact((ButL.of_below (X:=[L,P]) J.o).set (.inl (by simp)) 0 _).trans (Y:=[]) (ButL.of_below (zaa _ _)) (by have:=J.o.size;simpa[World.setCell] using this) (by simp)
      have A4:D.heap.size=l.heap.size+1:=by rw[A];simp[World.setCell]
      have K:=zab A;clear A;have S5:=zab O8;clear O8;have V5:=hl1;go_wp2_with fail;rw[←K.o];clear K
      go_loopw [66] (fun i wr=>∃(q:Nat) (C2:Nat→Value),q≤12∧i=.int .i64 q∧Hid (OrAt wr P B C2 (zm8 G q))∧Hid (wr.heap[L]?=some (.cells #[.bool false] 4 (0,0)))∧Hid (JAt wr B X j)∧Hid (∀b z,b<12→(C2 b).ownBlock=some z→z∈X)∧Hid (ButL [L,P] w.heap.size w wr)) (fun i _=>12 - (intOf i).toNat)
      case atStart=>exact⟨0,vs,Nat.zero_le _,by go_num,F.o.congr (fun b _=>by rw[zm8,if_neg (by omega)]),Q,M,hYX,O⟩
      case round=>
       obtain⟨q,C2,hq,rfl,B3,C7,C4,D3,C0⟩:=hrel;clear F Q M O;by_cases hq12:q<12
       ·have G8:(q:Int)<12:=by omega
        have V4:(0:Int)≤(q:Int):=by omega
        have C9:P<wr.heap.size:=B3.o.lt;have F4:L<wr.heap.size:=(Array.getElem?_eq_some_iff.1 C7.o).1;have W7:B<wr.heap.size:=C4.o.lt;go_wp2_with fail;refine(z1k B X j q wr C4.o hq12 h16 h24).mono ?_;rintro e w4 ⟨rfl,C6⟩;have A8:=zab C6;have F0:=zab (S5.o q hq12);have K6:=hlen q hq12;have M1:zm8 G q q=G q:=by rw[zm8,if_neg (by omega)]
        have F1:=B3.o.own q hq12;rw[M1]at F1;obtain⟨ra,rc,hv,hS⟩:=SegGo.of_owns F1;have D2:w4.cell? ⟨P,q,none⟩=some (C2 q):=zac C6 C9 (B3.o.cell hq12);have R6:w4.frozen? ⟨P,q,none⟩=false:=za4 C6 C9 (frozen_of_row wr _ _ _ _ B3.o.box);have E7:=hS.below C6;rw[hv]at D2;obtain⟨R,I⟩:∃R,R=G q:=⟨_,rfl⟩;rw[←I]at D2 E7 K6 F0;obtain⟨n,hn⟩:∃n,n=R.reverse.length:=⟨_,rfl⟩;rw[←hn]at D2;have G3:n=R.length:=by rw[hn];simp
        rw[←G3]at K6;obtain⟨s,hs⟩:∃s,s=zal j.disk ((25+q:Nat):Int):=⟨_,rfl⟩;rw[←hs]at F0⊢;have V6:(n:Int)≤400:=by omega
        have W8:(0:Int)≤(n:Int):=by omega
        have D7:=zab G3;have T9:=zab E7;have U7:wr.heap.size≤w4.heap.size:=C6.size;have S3:=zab D2;clear C6 M1 F1 hv hS E7 I hn hs G3;go_wp2_with fail;clear D2
        go_loopw [15,16,17] (fun mu ma i wx=>∃(k:Nat) (m1 m2:Bool) (z:Int),k≤n∧mu=.bool m1∧ma=.bool m2∧i=.int .i64 z∧Hid (z=(n:Int) - 1 - k)∧Hid (InG j.last s R k m1 m2)∧Hid (Below w4.heap.size w4 wx)) (fun _ _ i _=>(intOf i+1).toNat)
        case atStart=>exact⟨0,false,false,_,Nat.zero_le _,rfl,rfl,rfl,(by show _=_;omega),⟨(fun h=>by cases h),fun _=>by simpa using F0.o⟩,Below.refl _ _⟩
        case round=>
         obtain⟨k,m1,m2,z,hk,rfl,rfl,rfl,HZ,B7,A1⟩:=hrel;have V3:w4.heap.size≤wr.heap.size:=A1.o.size;have W4:P<wr.heap.size:=by omega
         have T2:L<wr.heap.size:=by omega
         have ci:wr.cell? ⟨P,q,none⟩=some (.slice ra n rc):=zac A1.o (by omega) S3.o;have fi:wr.frozen? ⟨P,q,none⟩=false:=za4 A1.o (by omega) R6;by_cases hkn:k<n
         ·obtain⟨ii,U3⟩:∃ii:Nat,z=(ii:Int):=⟨n - 1 - k,by have:=HZ.o;omega⟩;subst U3;have F7:ii+1+k=n:=by have:=HZ.o;omega
          have V0:(0:Int)≤(ii:Int):=by omega
          have V1:(ii:Int)<(n:Int):=by omega
          have R4:¬R.reverse=[]:=fun e=>by
           have h1:R.reverse.length=0:=by rw[e];rfl
           rw[List.length_reverse,←D7.o]at h1;omega
          obtain⟨b,V8,rfl,L9,I5⟩:=T9.o.resolve_left R4;obtain⟨g0,g1⟩:=I5 ii (by rw[List.length_reverse,←D7.o];omega);have g0:=zac A1.o L9 g0;have g1:=zac A1.o L9 g1;have F8:=z5y (R:=R) (k:=k) (ii:=ii) (by rw[←D7.o];exact hkn) (by rw[←D7.o];exact F7);obtain⟨g,hg⟩:∃g,g=R.reverse.getD ii (0,ByteArray.empty):=⟨_,rfl⟩;rw[←hg]at g0 g1 F8;have R9:=zab F8;have E9:=zab F7;clear F8 hg F7 I5
          cases m1 with
          |true=>
           have G2:m2=true:=B7.o.1 rfl;subst G2;have E1:=zab ((B3.o.below (zae A8.o A1.o)).set (v:=.slice none 0 0) (g:=[]) (by omega) (Z:=[]) (b:=q) (ButL.refl _ _ _) (by simp) (by simp) hq12 (World.ownsRow_nil _ _ _ _) (.inr (.inl rfl)));have D4:=zab ((Below.heap_setCell wr ⟨P,q,none⟩ (.slice none 0 0) L C1).trans (zad (zae A8.o A1.o) F4 C7.o));have D6:=zab ((C4.o.below (zae A8.o A1.o)).set hPX C5 q (.slice none 0 0));have B6:=zab ((C0.o.trans (Y:=[]) (ButL.of_below (zae A8.o A1.o)) C0.o.size (by simp)).set (b:=P) (.inl (by simp)) q (.slice none 0 0));have D9:(wr.setCell ⟨P,q,none⟩ (.slice none 0 0)).heap.size=wr.heap.size:=by simp[World.setCell]
           have K9:Hid (w.heap.size≤(wr.setCell ⟨P,q,none⟩ (.slice none 0 0)).heap.size):=by have:=B6.o.size;exact this
           clear D9;clear B7;go_wp2
           go_roundw
           case rel=>exact⟨q+1,zjr C2 q (.slice none 0 0),by omega,by go_num,(E1.o.below (zaa _ _)).step,zad (zaa _ _) (by simpa[World.setCell] using T2) D4.o,D6.o.below (zaa _ _),(fun b z hb hz=>by
            by_cases e:b=q
            ·simp only[zjr,if_pos e]at hz;cases hz
            ·simp only[zjr,if_neg e]at hz;exact D3.o b z hb hz),B6.o.trans (Y:=[]) (ButL.of_below (zaa _ _)) B6.o.size (by simp)⟩
           case measure=>first|(simp[intOf];omega)|simp[intOf]
          |false=>
           have B8:=zab fun(must' may':Bool) (h1:may'=(m2||decide (g.2=s))) (h2:must'=decide (g.1≤j.last))=>B7.o.step (by rw[←D7.o];exact hkn) R9.o must' may' h1 h2;by_cases hle:g.1≤j.last
           all_goals
            cases m2
            case true=>
             have B9:=zab (B8.o _ true (by simp) rfl);clear B8 B7
             first|(have hd:decide (g.1≤j.last)=true:=decide_eq_true hle)|(have hd:decide (g.1≤j.last)=false:=decide_eq_false hle)
             rw[hd]at B9;clear hd;go_wp2
             go_roundw
             case rel=>exact⟨k+1,_,true,_,by omega,rfl,rfl,rfl,(by show _=_;have:=E9.o;omega),B9,zae A1.o (zaa _ _)⟩
             case measure=>first|(simp[intOf];omega)|simp[intOf]
            case false=>
             by_cases hgs:g.2=s
             ·have B9:=zab (B8.o _ true (by simp[hgs]) rfl);clear B8 B7
              first|(have hd:decide (g.1≤j.last)=true:=decide_eq_true hle)|(have hd:decide (g.1≤j.last)=false:=decide_eq_false hle)
              rw[hd]at B9;clear hd;rw[hgs]at g1;clear hgs;go_wp2
              go_roundw
              case rel=>exact⟨k+1,_,true,_,by omega,rfl,rfl,rfl,(by show _=_;have:=E9.o;omega),B9,zae A1.o (zaa _ _)⟩
              case measure=>first|(simp[intOf];omega)|simp[intOf]
             ·have B9:=zab (B8.o _ false (by simp[hgs]) rfl);have W6:=z3m hgs;clear B8 B7 hgs
              first|(have hd:decide (g.1≤j.last)=true:=decide_eq_true hle)|(have hd:decide (g.1≤j.last)=false:=decide_eq_false hle)
              rw[hd]at B9;clear hd;go_wp2
              go_roundw
              case rel=>exact⟨k+1,_,false,_,by omega,rfl,rfl,rfl,(by show _=_;have:=E9.o;omega),B9,zae A1.o (zaa _ _)⟩
              case measure=>first|(simp[intOf];omega)|simp[intOf]
         ·have hz:¬(0:Int)≤z:=by have:=HZ.o;omega
          cases m1 with
          |true=>
           have G2:m2=true:=B7.o.1 rfl;subst G2;have E1:=zab ((B3.o.below (zae A8.o A1.o)).set (v:=.slice none 0 0) (g:=[]) (by omega) (Z:=[]) (b:=q) (ButL.refl _ _ _) (by simp) (by simp) hq12 (World.ownsRow_nil _ _ _ _) (.inr (.inl rfl)));have D4:=zab ((Below.heap_setCell wr ⟨P,q,none⟩ (.slice none 0 0) L C1).trans (zad (zae A8.o A1.o) F4 C7.o));have D6:=zab ((C4.o.below (zae A8.o A1.o)).set hPX C5 q (.slice none 0 0));have B6:=zab ((C0.o.trans (Y:=[]) (ButL.of_below (zae A8.o A1.o)) C0.o.size (by simp)).set (b:=P) (.inl (by simp)) q (.slice none 0 0));have D9:(wr.setCell ⟨P,q,none⟩ (.slice none 0 0)).heap.size=wr.heap.size:=by simp[World.setCell]
           have K9:Hid (w.heap.size≤(wr.setCell ⟨P,q,none⟩ (.slice none 0 0)).heap.size):=by have:=B6.o.size;exact this
           clear D9;clear B7;go_wp2
           go_roundw
           case rel=>exact⟨q+1,zjr C2 q (.slice none 0 0),by omega,by go_num,E1.o.step,D4.o,D6.o,(fun b z hb hz=>by
            by_cases e:b=q
            ·simp only[zjr,if_pos e]at hz;cases hz
            ·simp only[zjr,if_neg e]at hz;exact D3.o b z hb hz),B6.o⟩
           case measure=>first|(simp[intOf];omega)|simp[intOf]
          |false=>
           have E1:=zab ((B3.o.below (zae A8.o A1.o)).set (v:=.slice none 0 0) (g:=[]) (by omega) (Z:=[]) (b:=q) (ButL.refl _ _ _) (by simp) (by simp) hq12 (World.ownsRow_nil _ _ _ _) (.inr (.inl rfl)));have D4:=zab ((Below.heap_setCell wr ⟨P,q,none⟩ (.slice none 0 0) L C1).trans (zad (zae A8.o A1.o) F4 C7.o));have D6:=zab ((C4.o.below (zae A8.o A1.o)).set hPX C5 q (.slice none 0 0));have B6:=zab ((C0.o.trans (Y:=[]) (ButL.of_below (zae A8.o A1.o)) C0.o.size (by simp)).set (b:=P) (.inl (by simp)) q (.slice none 0 0));have D9:(wr.setCell ⟨P,q,none⟩ (.slice none 0 0)).heap.size=wr.heap.size:=by simp[World.setCell]
           have K9:Hid (w.heap.size≤(wr.setCell ⟨P,q,none⟩ (.slice none 0 0)).heap.size):=by have:=B6.o.size;exact this
           clear D9;clear B7;go_wp2
           go_roundw
           case rel=>exact⟨q+1,zjr C2 q (.slice none 0 0),by omega,by go_num,E1.o.step,D4.o,D6.o,(fun b z hb hz=>by
            by_cases e:b=q
            ·simp only[zjr,if_pos e]at hz;cases hz
            ·simp only[zjr,if_neg e]at hz;exact D3.o b z hb hz),B6.o⟩
           case measure=>first|(simp[intOf];omega)|simp[intOf]
       ·have G8:¬(q:Int)<12:=by omega
        have U1:q=12:=by omega
        have HF:Hid (OrPost B X j L P false (fun _=>[]) w wr):=OrPost.same (B3.o.congr fun b hb=>by rw[zm8,if_pos (by omega)]) C7.o C4.o D3.o (C0.o.base (by omega));clear B3 C7 C4 D3 C0 U1;go_wp2;go_ret;exact⟨rfl,by rw[HE.o,A5.o];exact HF.o⟩
     ·have HE:Hid (zka G dn x r j.now.seq j.down=G):=by rw[Hid,zka,if_pos HC.o,if_neg hk24,if_neg hk3,if_neg (fun h=>hb h.2)]
      have G5:=zab hb;clear B5 hk24 hk3 hk8 hb;cases dn
      case false=>
       clear G5;cases S:j.down
       ·have A5:=zab S;clear S;obtain⟨D,A⟩:∃D,D=(l.setCell ⟨L,0,none⟩ (.bool false)).alloc (.cells #[.int .i64 j.rh,.int .i64 j.ru] 26):=⟨_,rfl⟩;have F:Hid (OrAt D P B vs G):=by rw[A];exact(c.o.low (Z:=[L]) ((ButL.refl _ _ _).set (.inl (by simp)) 0 _) A9 B2).below (zaa _ _)
        have Q:Hid (D.heap[L]?=some (.cells #[.bool false] 4 (0,0))):=by rw[A];exact zad (zaa _ _) (by simpa[World.setCell] using q2) (heap_setCell_same _ _ 0 _ _ _ m.o)
        have M:Hid (JAt D B X j):=by rw[A];exact(A2.o.set hLX B0 0 _).below (zaa _ _)
        have O:Hid (ButL [L,P] w.heap.size w D):=by
         rw[A];exact((ButL.of_below (X:=[L,P]) J.o).set (.inl (by simp)) 0 _).trans (Y:=[]) (ButL.of_below (zaa _ _)) (by have:=J.o.size;simpa[World.setCell] using this) (by simp)
        have A4:D.heap.size=l.heap.size+1:=by rw[A];simp[World.setCell]
        have K:=zab A;clear A;have HF:Hid (OrPost B X j L P false G w D):=OrPost.same F.o Q.o M.o hYX (O.o.base (by omega));rw[K.o]at HF;clear K F Q M O c A2 J B1 B4 m A4;go_wp2;go_ret;exact⟨rfl,by rw[HE.o,A5.o];exact HF.o⟩
       ·have A5:=zab S;clear S;obtain⟨D,A⟩:∃D,D=(l.setCell ⟨L,0,none⟩ (.bool true)).alloc (.cells #[.int .i64 j.rh,.int .i64 j.ru] 26):=⟨_,rfl⟩;have F:Hid (OrAt D P B vs G):=by rw[A];exact(c.o.low (Z:=[L]) ((ButL.refl _ _ _).set (.inl (by simp)) 0 _) A9 B2).below (zaa _ _)
        have Q:Hid (D.heap[L]?=some (.cells #[.bool true] 4 (0,0))):=by rw[A];exact zad (zaa _ _) (by simpa[World.setCell] using q2) (heap_setCell_same _ _ 0 _ _ _ m.o)
        have M:Hid (JAt D B X j):=by rw[A];exact(A2.o.set hLX B0 0 _).below (zaa _ _)
        have O:Hid (ButL [L,P] w.heap.size w D):=by
         rw[A];exact((ButL.of_below (X:=[L,P]) J.o).set (.inl (by simp)) 0 _).trans (Y:=[]) (ButL.of_below (zaa _ _)) (by have:=J.o.size;simpa[World.setCell] using this) (by simp)
        have A4:D.heap.size=l.heap.size+1:=by rw[A];simp[World.setCell]
        have K:=zab A;clear A;have HF:Hid (OrPost B X j L P true G w D):=OrPost.same F.o Q.o M.o hYX (O.o.base (by omega));rw[K.o]at HF;clear K F Q M O c A2 J B1 B4 m A4;go_wp2;go_ret;exact⟨rfl,by rw[HE.o,A5.o];exact HF.o⟩
      case true=>
       have S:j.down=true:=by
        cases h:j.down with
        |true=>rfl
        |false=>exact absurd ⟨rfl,h⟩ G5.o
       rw[S];have A5:=zab S;clear S G5;obtain⟨D,A⟩:∃D,D=(l.setCell ⟨L,0,none⟩ (.bool true)).alloc (.cells #[.int .i64 j.rh,.int .i64 j.ru] 26):=⟨_,rfl⟩;have F:Hid (OrAt D P B vs G):=by rw[A];exact(c.o.low (Z:=[L]) ((ButL.refl _ _ _).set (.inl (by simp)) 0 _) A9 B2).below (zaa _ _)
       have Q:Hid (D.heap[L]?=some (.cells #[.bool true] 4 (0,0))):=by rw[A];exact zad (zaa _ _) (by simpa[World.setCell] using q2) (heap_setCell_same _ _ 0 _ _ _ m.o)
       have M:Hid (JAt D B X j):=by rw[A];exact(A2.o.set hLX B0 0 _).below (zaa _ _)
       have O:Hid (ButL [L,P] w.heap.size w D):=by
        rw[A];exact((ButL.of_below (X:=[L,P]) J.o).set (.inl (by simp)) 0 _).trans (Y:=[]) (ButL.of_below (zaa _ _)) (by have:=J.o.size;simpa[World.setCell] using this) (by simp)
       have A4:D.heap.size=l.heap.size+1:=by rw[A];simp[World.setCell]
       have K:=zab A;clear A;have HF:Hid (OrPost B X j L P true G w D):=OrPost.same F.o Q.o M.o hYX (O.o.base (by omega));rw[K.o]at HF;clear K F Q M O c A2 J B1 B4 m A4;go_wp2;go_ret;exact⟨rfl,by rw[HE.o,A5.o];exact HF.o⟩
    ·have HE:Hid (zka G dn x r j.now.seq j.down=G):=by rw[Hid,zka,if_pos HC.o,if_neg hk24,if_neg hk3,if_neg (fun h=>hk8 h.1)]
     have b2:(x.kind==2)=false:=by simpa using fun h=>hk24 (.inl h)
     have b4:(x.kind==4)=false:=by simpa using fun h=>hk24 (.inr h)
     have b3:(x.kind==3)=false:=by simpa using hk3
     have b8:(x.kind==8)=false:=by simpa using hk8
     have c8:(x.kind !=8)=true:=by simpa using hk8
     clear B5 hk24 hk3 hk8;cases dn
     all_goals
      cases S:j.down
      ·have A5:=zab S;clear S;obtain⟨D,A⟩:∃D,D=(l.setCell ⟨L,0,none⟩ (.bool false)).alloc (.cells #[.int .i64 j.rh,.int .i64 j.ru] 26):=⟨_,rfl⟩;have F:Hid (OrAt D P B vs G):=by rw[A];exact(c.o.low (Z:=[L]) ((ButL.refl _ _ _).set (.inl (by simp)) 0 _) A9 B2).below (zaa _ _)
       have Q:Hid (D.heap[L]?=some (.cells #[.bool false] 4 (0,0))):=by rw[A];exact zad (zaa _ _) (by simpa[World.setCell] using q2) (heap_setCell_same _ _ 0 _ _ _ m.o)
       have M:Hid (JAt D B X j):=by rw[A];exact(A2.o.set hLX B0 0 _).below (zaa _ _)
       have O:Hid (ButL [L,P] w.heap.size w D):=by
        rw[A];exact((ButL.of_below (X:=[L,P]) J.o).set (.inl (by simp)) 0 _).trans (Y:=[]) (ButL.of_below (zaa _ _)) (by have:=J.o.size;simpa[World.setCell] using this) (by simp)
       have A4:D.heap.size=l.heap.size+1:=by rw[A];simp[World.setCell]
       have K:=zab A;clear A;have HF:Hid (OrPost B X j L P false G w D):=OrPost.same F.o Q.o M.o hYX (O.o.base (by omega));rw[K.o]at HF;clear K F Q M O c A2 J B1 B4 m A4;go_wp2;go_ret;exact⟨rfl,by rw[HE.o,A5.o];exact HF.o⟩
      ·have A5:=zab S;clear S;obtain⟨D,A⟩:∃D,D=(l.setCell ⟨L,0,none⟩ (.bool true)).alloc (.cells #[.int .i64 j.rh,.int .i64 j.ru] 26):=⟨_,rfl⟩;have F:Hid (OrAt D P B vs G):=by rw[A];exact(c.o.low (Z:=[L]) ((ButL.refl _ _ _).set (.inl (by simp)) 0 _) A9 B2).below (zaa _ _)
       have Q:Hid (D.heap[L]?=some (.cells #[.bool true] 4 (0,0))):=by rw[A];exact zad (zaa _ _) (by simpa[World.setCell] using q2) (heap_setCell_same _ _ 0 _ _ _ m.o)
       have M:Hid (JAt D B X j):=by rw[A];exact(A2.o.set hLX B0 0 _).below (zaa _ _)
       have O:Hid (ButL [L,P] w.heap.size w D):=by
        rw[A];exact((ButL.of_below (X:=[L,P]) J.o).set (.inl (by simp)) 0 _).trans (Y:=[]) (ButL.of_below (zaa _ _)) (by have:=J.o.size;simpa[World.setCell] using this) (by simp)
       have A4:D.heap.size=l.heap.size+1:=by rw[A];simp[World.setCell]
       have K:=zab A;clear A;have HF:Hid (OrPost B X j L P true G w D):=OrPost.same F.o Q.o M.o hYX (O.o.base (by omega));rw[K.o]at HF;clear K F Q M O c A2 J B1 B4 m A4;go_wp2;go_ret;exact⟨rfl,by rw[HE.o,A5.o];exact HF.o⟩
 ·have X0:(r.code !=0)=true:=by simpa using hc
  have HE:Hid (zka G dn x r j.now.seq j.down=G):=by rw[Hid,zka,if_neg hc]
  clear B5 hc;obtain⟨D,A⟩:∃D,D=(l.setCell ⟨L,0,none⟩ (.bool j.down)).alloc (.cells #[.int .i64 j.rh,.int .i64 j.ru] 26):=⟨_,rfl⟩;have F:Hid (OrAt D P B vs G):=by rw[A];exact(c.o.low (Z:=[L]) ((ButL.refl _ _ _).set (.inl (by simp)) 0 _) A9 B2).below (zaa _ _)
  have Q:Hid (D.heap[L]?=some (.cells #[.bool j.down] 4 (0,0))):=by rw[A];exact zad (zaa _ _) (by simpa[World.setCell] using q2) (heap_setCell_same _ _ 0 _ _ _ m.o)
  have M:Hid (JAt D B X j):=by rw[A];exact(A2.o.set hLX B0 0 _).below (zaa _ _)
  have O:Hid (ButL [L,P] w.heap.size w D):=by
   rw[A];exact((ButL.of_below (X:=[L,P]) J.o).set (.inl (by simp)) 0 _).trans (Y:=[]) (ButL.of_below (zaa _ _)) (by have:=J.o.size;simpa[World.setCell] using this) (by simp)
  have A4:D.heap.size=l.heap.size+1:=by rw[A];simp[World.setCell]
  have K:=zab A;clear A;have HF:Hid (OrPost B X j L P j.down G w D):=OrPost.same F.o Q.o M.o hYX (O.o.base (by omega));rw[K.o]at HF;clear K F Q M O c A2 J B1 B4 m A4;go_wp2;go_ret;exact⟨rfl,by rw[HE.o];exact HF.o⟩
def gOf (l:List Ac):Nat→Nat→List (Int×ByteArray)
 |0=>fun _=>[]
 |k+1=>zka (gOf l k) (jOf l k).down (l.getD k ac0) (rOf l k) (jOf l (k+1)).now.seq (jOf l (k+1)).down
theorem OrI.new:OrI zwr z1b (fun _=>[]) false:=by
 refine⟨z3y,by decide,by decide,rfl,fun _ b _=>⟨RB.new rfl rfl rfl (by exact(by decide:(0:Int)≠2)),OrdB.nil (by exact(by decide:(0:Int)≠2))⟩,fun hd=>by cases hd⟩
theorem z6j(l:List Ac)(k:Nat)(hk:k≤l.length):∃D,OrI (jOf l k) D (gOf l k) (jOf l k).down:=by
 induction k with
 |zero=>rw[zpt];exact⟨z1b,OrI.new⟩
 |succ k ih=>
  obtain⟨D,h⟩:=ih (by omega);have:=(h.do (l.getD k ac0)).1;rw[gOf,zpu (by omega)];exact this
theorem z3n(G:Nat→List (Int×ByteArray))(was:Bool)(a:Ac)(r:Rp)(seq:Int)(down:Bool)(b:Nat):(zka G was a r seq down b).length≤(G b).length+1:=by
 unfold zka;split
 ·split
  ·dsimp only;split<;>simp
  ·split
   ·dsimp only;split<;>simp
   ·split<;>simp
 ·simp
theorem z4s(l:List Ac)(k b:Nat):(gOf l k b).length≤k:=by
 induction k with
 |zero=>simp[gOf]
 |succ k ih=>rw[gOf];have:=z3n (gOf l k) (jOf l k).down (l.getD k ac0) (rOf l k) (jOf l (k+1)).now.seq (jOf l (k+1)).down b;omega
theorem zm9(L P:Nat)(o:Oper)(ρ:Operand→Value)(w:World)(x y z:Value)(ts:Array TypeId)(ho:o.op=Op.call {callee:=.value (.tmp 28),args:=#[.tmp 29,.tmp 33,.tmp 34],argTypes:=ts})(h1:ρ (.tmp 28)=.func (.func 24) #[] #[.pointer (some ⟨L,0,none⟩),.pointer (some ⟨P,0,none⟩)])(h2:ρ (.tmp 29)=x)(h3:ρ (.tmp 33)=y)(h4:ρ (.tmp 34)=z):
  (execOp ρ o).run prog w=.ok (.enter 24 #[x,y,z,.pointer (some ⟨L,0,none⟩),.pointer (some ⟨P,0,none⟩)]) w:=by
 simp only[execOp,ho]
 go_simp
def OrS (l:List Ac)(L P B:Nat)(Y:List Nat)(k:Nat)(W:World):Prop:=
 ∃vs,OrAt W P B vs (gOf l k)∧W.heap[L]?=some (.cells #[.bool (jOf l k).down] 4 (0,0))∧(∀b q,b<12→(vs b).ownBlock=some q→q∈Y)∧∀y∈Y,B<y∧y<W.heap.size
theorem zsd(a:Option Addr)(c:Nat)(l:List Ac)(w:World)(hA:SegA w a l)(hlen:l.length≤maxLen)(hok:∀y∈l,OkA y):
  Calls prog 6 #[.slice a l.length c] w fun e w'=>e=.returned (.bool true)∧Below w.heap.size w w':=by
 have HA:=zab hA;have X:=zab hok;have HL:=zab hlen;clear hA hok hlen;have O:zgm (fun _=>.slice none 0 0)=#[.slice none 0 0,.slice none 0 0,.slice none 0 0,.slice none 0 0,.slice none 0 0,.slice none 0 0,.slice none 0 0,.slice none 0 0,.slice none 0 0,.slice none 0 0,.slice none 0 0,.slice none 0 0]:=by rfl
 obtain⟨F,A⟩:∃F,F=(w.alloc (.cells #[.slice none 0 0,.slice none 0 0,.slice none 0 0,.slice none 0 0,.slice none 0 0,.slice none 0 0,.slice none 0 0,.slice none 0 0,.slice none 0 0,.slice none 0 0,.slice none 0 0,.slice none 0 0] 62)).alloc (.cells #[.bool false] 4):=⟨_,rfl⟩;have R:Hid (Below w.heap.size w F):=by rw[A];exact zae (zaa _ _) (zaa _ _)
 have Z:(w.alloc (.cells #[.slice none 0 0,.slice none 0 0,.slice none 0 0,.slice none 0 0,.slice none 0 0,.slice none 0 0,.slice none 0 0,.slice none 0 0,.slice none 0 0,.slice none 0 0,.slice none 0 0,.slice none 0 0] 62)).heap.size=w.heap.size+1:=by simp
 have KP:Hid (F.heap[w.heap.size]?=some (.cells (zgm (fun _=>.slice none 0 0)) 62 (0,0))):=by rw[A,O];exact zad (zaa _ _) (by omega) (heap_alloc_new _ _)
 have KL:Hid (F.heap[w.heap.size+1]?=some (.cells #[.bool false] 4 (0,0))):=by rw[A,←Z];exact heap_alloc_new _ _
 have L:F.heap.size=w.heap.size+2:=by rw[A];simp
 have S:=zab A;have r:=zab L;clear A Z O L;go_enter func6,ntmps6;go_wp2_with fail;rw[←S.o];clear S;have L:=r.o
 refine(z1h _ 24 (fun x y z=>#[x,y,z,.pointer (some ⟨w.heap.size+1,0,none⟩),.pointer (some ⟨w.heap.size,0,none⟩)]) (zm9 _ _) a c l F [w.heap.size+1,w.heap.size] (HA.o.hideO R.o (by simp)) HL.o X.o (by simp;omega)
  (OrS l (w.heap.size+1) w.heap.size) ?s0 ?sb ?sy ?look).mono ?fin
 case s0=>
  intro W B i hW _;refine⟨fun _=>.slice none 0 0,⟨zad hW (by omega) KP.o,fun b _=>World.ownsRow_nil _ _ _ _,(fun b c _ _ _ q hq=>by cases hq)⟩,?_,(fun b q _ hq=>by cases hq),by simp⟩;rw[zpt];exact zad hW (by omega) KL.o
 case sb=>
  rintro k W W' B Y ⟨N,I,J,M,E⟩ i hs hb;have hL:=(Array.getElem?_eq_some_iff.1 J).1;refine⟨N,I.but hb (by simp;omega) (fun b q hb2 hq=>by have:=(zch (I.own b hb2) hq).1;simp;omega),(hb.block _ hL (by simp;omega)).trans J,M,fun y hy=>⟨(E y hy).1,Nat.lt_of_lt_of_le (E y hy).2 hb.size⟩⟩
 case sy=>
  rintro k W B Y ⟨N,I,J,M,E⟩ y hy;exact(E y hy).2
 case look=>
  rintro k W B Y n i ⟨N,I,J,M,E⟩ hJ j;have K:k<l.length:=by unfold played at n;omega
  have A1:k<150:=by unfold played at n;omega
  obtain⟨D,hI⟩:=z6j l k (by omega);have hd:=(hI.do (l.getD k ac0)).2;have d:OkA (l.getD k ac0):=X.o _ (by rw[List.getD,List.getElem?_eq_getElem K];exact List.getElem_mem K);have A2:=j B (by simp);have hl:=(zvm l (k+1)).lastO;have Q:=(zvm l (k+1)).diskO;rw[←zpu K]at hd;refine(zuo B _ (jOf l (k+1)) (l.getD k ac0) (rOf l k) (w.heap.size+1) w.heap.size (jOf l k).down N (gOf l k) W hJ J I (by simp) (by simp) (by omega) (by omega) (by omega) (fun b q hb hq=>List.mem_cons_of_mem _ (List.mem_append_left _ (M b q hb hq))) j (fun b _=>by have:=z4s l k b;omega) d.text (zvm l (k+1)) (by omega) Q.1 Q.2 hd).mono ?_;rintro e W' ⟨rfl,A0,X',g1,g2,g3,g4,g5,m,g7,p⟩;refine⟨rfl,⟨Y++X'.filter (fun y=>decide (W.heap.size≤y)),⟨A0,g1,g2,fun b q hb hq=>?_,fun y hy=>?_⟩,g3.sub (fun y hy=>?_) (by simp)⟩,trivial,g7.base (by omega),p⟩
  ·have A3:=(zch (g1.own b hb) hq).1;have U:=g4 b q hb hq;rcases g5 q U with h|h
   ·refine List.mem_append_left _ ?_;rcases List.mem_cons.1 h with h|h
    ·omega
    ·rcases List.mem_append.1 h with h|h
     ·exact h
     ·simp at h;omega
   ·exact List.mem_append_right _ (List.mem_filter.2 ⟨U,by simpa using h.1⟩)
  ·rcases List.mem_append.1 hy with h|h
   ·exact⟨(E y h).1,Nat.lt_of_lt_of_le (E y h).2 p⟩
   ·obtain⟨m1,s⟩:=List.mem_filter.1 h;have s:W.heap.size≤y:=by simpa using s
    rcases g5 y m1 with h|h
    ·have:=j y h;omega
    ·exact⟨by omega,h.2⟩
  ·rcases List.mem_cons.1 hy with rfl|hy
   ·exact m _ (by simp)
   ·rcases List.mem_append.1 hy with hy|hy
    ·rcases List.mem_append.1 hy with hy|hy
     ·exact m y (List.mem_cons_of_mem _ (List.mem_append_left _ hy))
     ·exact(List.mem_filter.1 hy).1
    ·exact m y (List.mem_cons_of_mem _ (List.mem_append_right _ hy))
 case fin=>
  rintro e w2 ⟨B,rfl,i,_,C⟩;have u:Hid (Below w.heap.size w w2):=R.o.trans ⟨C.os,C.tape,C.output,C.size,fun q hq=>C.block q (by omega) (by simp;omega)⟩;clear C;go_wp2;go_ret;exact⟨rfl,u.o⟩
