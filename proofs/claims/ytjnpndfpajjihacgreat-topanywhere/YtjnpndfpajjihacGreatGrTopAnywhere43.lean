/-
  
-/
import Derived.Test.YtjnpndfpajjihacGreatGrTopAnywhere41
import Derived.Great.BuildSlice
import Derived.Test.YtjnpndfpajjihacGreatXConcat
set_option maxRecDepth 100000
set_option maxHeartbeats 40000000
namespace Go.Proofs.YtjnpndfpajjihacGreat
open Go.Proofs.Tryz
open Go.RowKit
theorem z0j:∃f,prog.underlying 93=some (.struct f):=by
 have h:(match prog.underlying 93 with|some (.struct _)=>true|_=>false)=true:=by kernel_rfl
 cases hq:prog.underlying 93 with
 |none=>rw[hq]at h;cases h
 |some d=>cases d<;>first|exact⟨_,rfl⟩|(rw[hq]at h;cases h)
theorem zrw(d:Dk)(da:Option Addr)(dc:Nat)(db:Option Addr)(dd:Nat)(p q:Int)(w:World)(hq:IntKind.i64.wrap (q - 1)=q - 1):
  Calls prog 71 #[.agg #[.slice da d.safe.length dc,.slice db d.wr.length dd],.int .i64 p,.int .i64 q] w fun e w'=>e=.returned (.agg (zbs (zfe d p q) da dc db dd none 0 none 0 none 0 none 0 none 0 none 0 none 0 none 0 none 0))∧Below w.heap.size w w':=by
 generalize hn1:d.safe.length=n1;generalize hn2:d.wr.length=n2;obtain⟨C,B⟩:∃C,C=zbs (zfe d p q) da dc db dd none 0 none 0 none 0 none 0 none 0 none 0 none 0 none 0 none 0:=⟨_,rfl⟩;rw[←B];have A:=zaa B;have I:=zaa hn1;have J:=zaa hn2;clear B hn1 hn2;have E:∀o,(w.alloc o).heap.size=w.heap.size+1:=fun o=>by simp
 have F:=zaa E;clear E;go_enter func71,ntmps71
 repeat (first|(refine wpList_store_rowTo rfl _ _ _ rfl rfl (w.heap.size+1) C rfl (by rw[A.o,←I.o,←J.o];rfl) _ _ (by rw[←F.o _];exact heap_alloc_new _ _) (by rw[A.o];kernel_rfl) (by rw[A.o];kernel_rfl) (by rw[A.o];kernel_rfl) ?_)|go_step)
 obtain⟨fs,D⟩:=z0j;refine bodyPost_ret (results_cell_row rfl _ _ (w.heap.size+1) _ C _ _ rfl (setRow_heap _ _ _ _ _ _ (by rw[←F.o _];exact heap_alloc_new _ _)) D rfl (by rw[A.o];kernel_rfl)) rfl ⟨rfl,?_⟩;exact((ButL.of_below (X:=[]) (zae (zab _ _) (zab _ _))).setRow (.inr (by omega)) C).below
theorem JAt.but{w w':World}{B:Nat}{X Y:List Nat}{j:Jn}(h:JAt w B X j)(hb:ButL Y w.heap.size w w')(hY:∀y∈Y,y∈X)(hn:B∉Y):JAt w' B X j:=by
 obtain⟨M,R,d,U,N,I,a,b,C,ne,L,Z,c,Q,D,E,i,J,k,S,F,K,O,A,e⟩:=h;exact⟨M,R,d,U,N,I,a,b,C,ne,L,Z,c,Q,D,E,i,J,k,S,F,K,O,(hb.block B (Array.getElem?_eq_some_iff.1 A).1 hn).trans A,e.ext (Ext.butL (hb.wider hY))⟩
theorem JAt.roleEq{w:World}{B:Nat}{X:List Nat}{j:Jn}(h:JAt w B X j)(f:Nat→Int)(hf:∀k,k<12→j.role k=f k):JAt w B X {j with role:=f}:=by
 obtain⟨d,O,a,R,L,F,U,Y,A,ne,K,S,Z,N,C,D,b,I,c,Q,E,J,M,l,i⟩:=h;refine⟨d,O,a,R,L,F,U,Y,A,ne,K,S,Z,N,C,D,b,I,c,Q,E,J,M,?_,i⟩
 have e:zbs {j with role:=f} O a R L F U Y A ne K S Z N C D b I c Q E J M=zbs j O a R L F U Y A ne K S Z N C D b I c Q E J M:=by
  simp only[zbs,hf 0 (by decide),hf 1 (by decide),hf 2 (by decide),hf 3 (by decide),hf 4 (by decide),hf 5 (by decide),hf 6 (by decide),hf 7 (by decide),hf 8 (by decide),hf 9 (by decide),hf 10 (by decide),hf 11 (by decide)]
 rw[e];exact l
def zrx (B:Nat)(bs:Nat)(j:Jn)(da:Option Addr)(dc:Nat)(db:Option Addr)(dd:Nat):Nat→Value→World→Prop
 |0,v,_=>v=.pointer (some ⟨B,0,none⟩)
 |1,v,_=>v=.pointer (some ⟨B,0,none⟩)
 |2,v,_=>v=.pointer (some ⟨B,1,none⟩)
 |3,v,_=>v=.agg #[.slice da j.disk.safe.length dc,.slice db j.disk.wr.length dd]
 |4,v,_=>v=.pointer (some ⟨B,0,none⟩)
 |5,v,_=>v=.pointer (some ⟨B,0,none⟩)
 |6,v,_=>v=.pointer (some ⟨B,52,none⟩)
 |7,v,_=>v=.pointer (some ⟨B,54,none⟩)
 |8,v,_=>v=.int .i64 j.fP
 |9,v,_=>v=.pointer (some ⟨B,0,none⟩)
 |10,v,_=>v=.pointer (some ⟨B,0,none⟩)
 |11,v,_=>v=.pointer (some ⟨B,52,none⟩)
 |12,v,_=>v=.pointer (some ⟨B,53,none⟩)
 |13,v,_=>v=.int .i64 j.fN
 |14,v,_=>v=.agg (zbs (zfe j.disk j.fP j.fN) da dc db dd none 0 none 0 none 0 none 0 none 0 none 0 none 0 none 0 none 0)
 |15,v,w=>∃(T:Nat) (cs:Array Value),v=.pointer (some ⟨T,0,none⟩)∧bs≤T∧cs.size=57∧w.heap[T]?=some (.cells cs 93 (0,0))
 |_,_,_=>True
theorem zkr{B:Nat}{bs:Nat}{j:Jn}{da:Option Addr}{dc:Nat}{db:Option Addr}{dd:Nat}{w w':World}(hb:Below w.heap.size w w'){i:Nat}:∀kk uu,kk≠i→zrx B bs j da dc db dd kk uu w→zrx B bs j da dc db dd kk uu w':=by
 intro kk uu _ h
 match kk,h with
 |0,h|1,h|2,h|3,h|4,h|5,h|6,h|7,h|8,h|9,h|10,h|11,h|12,h|13,h|14,h=>exact h
 |15,⟨T,cs,h1,h2,h3,h4⟩=>exact⟨T,cs,h1,h2,h3,zad hb (Array.getElem?_eq_some_iff.1 h4).1 h4⟩
 |_+16,_=>exact trivial
theorem zxp(B:Nat)(X:List Nat)(j:Jn)(w:World)(h:JAt w B X j)(hX:∀x∈X,x<w.heap.size)(hn:j.fL.length≤maxLen)(hq:IntKind.i64.wrap (j.fN - 1)=j.fN - 1):
  Calls prog 111 #[.pointer (some ⟨B,0,none⟩)] w fun e w'=>(∃v,e=.returned v)∧JAt w' B X (zjb j)∧ButL [B] w.heap.size w w':=by
 have HJ:=zaa h;have A4:=h.lt;have D2:=h.1;have HX:=zaa hX;have HQ:=zaa hq;have HN:=zaa hn;obtain⟨_,O,N,M,L,na,nc,nb,nd,ne,nf,sa,sc,sb,sd,se,sf,ca,cc,fa,fc,ta,tc,h1,hr⟩:=id h;have c1:w.cell? ⟨B,1,none⟩=some (.slice O j.disk.safe.length N):=zak h1 1;have c2:w.cell? ⟨B,2,none⟩=some (.slice M j.disk.wr.length L):=zak h1 2;have E5:w.cell? ⟨B,53,none⟩=some (.int .i64 j.fN):=zak h1 53;have D1:w.cell? ⟨B,54,none⟩=some (.int .i64 j.fP):=zak h1 54;have C1:=zaa c1;have C2:=zaa c2;have G0:=zaa E5;have I4:=zaa D1;have I2:=zaa hr.1;clear h hX hq hn h1 hr c1 c2 E5 D1;go_enter func111,ntmps111;go_wp2;rename_i KK C0
 have C6:∀(g:Nat→Value) (E:World) (T:Nat) (U:Array Value) (W2:World),W2.heap[T]?=some (.cells U 93 (0,0))→E=W2.setRow T (zbs (zfe j.disk j.fP j.fN) O N M L none 0 none 0 none 0 none 0 none 0 none 0 none 0 none 0 none 0)→w.heap.size≤T→Below w.heap.size w W2→KK ⟨#[.pointer (some ⟨B,0,none⟩),g 1,.pointer (some ⟨T,0,none⟩),g 3,g 4,g 5,g 6,g 7,g 8,g 9,g 10,g 11,g 12,g 13,g 14,g 15,g 16,g 17,g 18,g 19,g 20,g 21,g 22,g 23,g 24,g 25,g 26,g 27,g 28,g 29,g 30,g 31,g 32,g 33,g 34,g 35,g 36,g 37,g 38,g 39,g 40,g 41],[]⟩ E:=by
  intro g E T U W2 S A8 D F;apply C0;clear C0;have D9:¬T=B:=by omega
  have I5:¬B=T:=by omega
  have D8:Hid (Below w.heap.size w E):=by rw[A8];exact((ButL.of_below (X:=[]) F).setRow (.inr D) _).below
  have C3:Hid (JAt E B (T::X) j):=by
   have h0:=HJ.o.more F D;refine h0.but (Y:=[T]) ?_ (by simp) (by simpa using I5);rw[A8];exact(ButL.refl _ _ _).setRow (.inl (by simp)) _
  have C4:Hid (JAt E T (T::X) (zfe j.disk j.fP j.fN)):=by
   rw[A8];exact JAt.putAll (by simp) S _ _ _ _ _ _ _ _ _ _ _ _ _ _ _ _ _ _ _ _ _ _ ⟨I2.o.ext (Ext.newL F D),zre _ _,zre _ _,.inl rfl,.inl rfl,.inl rfl,z3j _,Nat.le_refl _,Nat.le_refl _,Nat.le_refl _⟩
  clear A8 F S
  have a0:E.cell? ⟨B,0,none⟩=some (.int .i64 j.acts):=by
   obtain⟨_,n,A6,A7,B4,r,s,A5,q,A3,B7,B6,B5,B1,A1,y,A9,A2,B3,J,K,B2,B8,I,_⟩:=C3.o;exact(zak I 0).trans rfl
  have b0:(∃v,E.cell? ⟨T,0,none⟩=some v)∧E.frozen? ⟨T,0,none⟩=false:=by
   obtain⟨_,n,A6,A7,B4,r,s,A5,q,A3,B7,B6,B5,B1,A1,y,A9,A2,B3,J,K,B2,B8,I,_⟩:=C4.o;exact⟨⟨_,(zak I 0).trans rfl⟩,frozen_of_row E _ _ _ _ I⟩
  obtain⟨⟨v0,t0⟩,tf⟩:=b0;go_wp2;clear a0 t0 tf;obtain⟨W4,R⟩:∃W4,W4=E.setCell ⟨T,0,none⟩ (.int .i64 j.acts):=⟨_,rfl⟩;rw[←R];have E1:Hid (Below w.heap.size w W4):=by rw[R];exact D8.o.setCell (p:=⟨T,0,none⟩) D _
  have D5:Hid (JAt W4 B (T::X) j):=by rw[R];exact C3.o.set (by simp) D9 0 _
  have E3:Hid (JAt W4 T (T::X) {zfe j.disk j.fP j.fN with acts:=j.acts}):=by rw[R];exact C4.o.putActs _
  clear R D8 C3 C4;obtain⟨Z,u⟩:∃Z:Nat→Nat→Int,Z=fun(k b:Nat)=>if b<k then zb4 j.fL.reverse (b:Int) else 0:=⟨_,rfl⟩
  have H1:Hid (Z 0=fun _=>0):=by rw[Hid,u];funext b;simp
  have H8:Hid (∀k,k<12→∀b,upd (Z k) (k:Int) (zb4 j.fL.reverse k) b=Z (k+1) b):=by
   intro k hk b;rw[u];simp only[upd];by_cases e:b=k
   ·subst e;simp
   ·rw[if_neg (by omega)];by_cases h2:b<k
    ·rw[if_pos h2,if_pos (by omega)]
    ·rw[if_neg h2,if_neg (by omega)]
  have E6:Hid (∀k,k<12→Z 12 k=zb4 j.fL.reverse k):=by intro k hk;rw[u];simp[hk]
  clear u
  go_loopw [24] (fun i wr=>∃k:Nat,k≤12∧i=.int .i64 k∧Hid (JAt wr B (T::X) j)∧Hid (JAt wr T (T::X) ({zfe j.disk j.fP j.fN with acts:=j.acts,role:=Z k}:Jn))∧Hid (Below w.heap.size w wr)) (fun i _=>12 - (intOf i).toNat)
  case atStart=>exact⟨0,by omega,rfl,D5,by rw[H1.o];exact E3,E1⟩
  case round=>
   obtain⟨k,hk,rfl,B9,C5,C7⟩:=hrel;clear D5 E3 E1;by_cases hk12:k<12
   ·have I8:(k:Int)<12:=by omega
    obtain⟨_,n,A6,A7,B4,r,s,A5,q,A3,B7,B6,B5,B1,A1,y,A9,A2,B3,J,K,B2,B8,I,kr⟩:=id B9.o;have E9:wr.cell? ⟨B,52,none⟩=some (.slice J j.fL.length K):=(zak I 52).trans rfl;have D6:=zaa (kr.2.2.2.2.1.ext (Ext.seenL wr _));clear I kr;go_wp2_with fail;refine(zm7 J K j.fL k _ D6.o HN.o).mono ?_;rintro e wq ⟨rfl,B0⟩;have H3:=zaa (B9.o.below B0);have C9:=zaa (C5.o.below B0);have H2:=zaa (zae C7.o B0);obtain⟨e1,e2,e3,e4⟩:=C9.o.role k hk12;have I9:(0:Int)≤(k:Int):=by omega
    clear B0 E9 D6 B9 C5 C7 e2 e4;go_wp2
    go_roundw
    case rel=>
     refine⟨k+1,by omega,by go_num,H3.o.set (by simp) D9 _ _,?_,H2.o.setCell (p:=⟨T,7+k*2,none⟩) D _⟩;have h9:=C9.o.putRole k hk12 (zb4 j.fL.reverse k);exact h9.roleEq _ (fun b hb=>H8.o k hk12 b)
    case measure=>first|(simp[intOf];omega)|simp[intOf]
   ·have e:k=12:=by omega
    subst e;obtain⟨_,n,A6,A7,B4,r,s,A5,q,A3,B7,B6,B5,B1,A1,y,A9,A2,B3,J,K,B2,B8,I,kr⟩:=C5.o;obtain⟨_,G9,F8,I6,G6,G3,H9,F4,F7,G8,F9,I1,H6,E8,H4,E7,G4,G1,H7,F2,G7,F5,I7,m1,mr⟩:=B9.o;obtain⟨Q,E0⟩:∃Q,Q=zbs (({zfe j.disk j.fP j.fN with acts:=j.acts,role:=Z 12}:Jn)) n A6 A7 B4 r s A5 q A3 B7 B6 B5 B1 A1 y A9 A2 B3 J K B2 B8:=⟨_,rfl⟩;have c:=zaa E0;have H0:=zaa I;have F6:=zaa kr;have D7:=zaa m1;clear I kr m1 mr E0;obtain⟨fs,D3⟩:=z0j;have G2:=zaa D3;clear D3;have E2:Hid ((prog.info? 93).map (·.size)=some Q.size):=by rw[Hid,c.o];exact z3k _ _ _ _ _ _ _ _ _ _ _ _ _ _ _ _ _ _ _ _ _ _ _
    have F0:Hid (Q.all (·.oneCell')=true):=by rw[Hid,c.o];exact zh2 _ _ _ _ _ _ _ _ _ _ _ _ _ _ _ _ _ _ _ _ _ _ _
    have H5:Hid (wr.heap[T]?=some (.cells Q 93 (0,0))):=by rw[Hid,c.o];exact H0.o
    have I3:Hid ((zbs j G9 F8 I6 G6 G3 H9 F4 F7 G8 F9 I1 H6 E8 H4 E7 G4 G1 H7 F2 G7 F5 I7).size=Q.size):=by rw[Hid,c.o];kernel_rfl
    repeat (first|(refine wpList_load_row rfl _ _ rfl T rfl _ Q _ _ H5.o G2.o rfl E2.o ?_)|(refine wpList_store_rowTo rfl _ _ _ rfl rfl B Q rfl rfl _ _ D7.o E2.o I3.o F0.o ?_)|go_step)
    refine bodyPost_end (results_none rfl _ _ _) rfl ⟨⟨_,rfl⟩,?_,(ButL.of_below C7.o).setRow (.inl (by simp)) Q⟩;have h9:=(JAt.putAll (B:=B) (X:=T::X) (by simp[D2]) D7.o _ _ _ _ _ _ _ _ _ _ _ _ _ _ _ _ _ _ _ _ _ _ F6.o).less D2;rw[←c.o]at h9;exact h9.roleEq (fun k=>zb4 j.fL.reverse k) E6.o
 have C8:=zaa C6;clear C6 C0;refine(show∀A0:Act,A0=_→Code.wp prog _ _ A0 _ from fun A0 hA0=>?_) _ rfl;have A:A0.tmps.size=42:=by rw[hA0];rfl
 have I0:A0.defers=[]:=by rw[hA0]
 have v0:A0.eval (.tmp 0)=.pointer (some ⟨B,0,none⟩):=by rw[hA0];rfl
 clear hA0;refine zbb 16 (fun w'=>Below w.heap.size w w') [4,5,6,7,8,9,10,11,12,13,14,15,16,17,18,2] (zrx B w.heap.size j O N M L) (by kernel_rfl) (by kernel_rfl) (by kernel_rfl) (by kernel_rfl) (by decide) ((Below.refl _ _).drew) ⟨?_,?_,?_,?_,?_,?_,?_,?_,?_,?_,?_,?_,?_,?_,?_,?_,trivial⟩ ?_
 ·exact zbd v0 A (fun _=>rfl) fun ρ w' C z=>by simp only[execOp];go_simp
 ·exact zal 0 4 A (fun _ _ h=>h) (fun _=>rfl) fun ρ w' C p=>by simp only[execOp];go_simp
 ·exact zal 1 5 A (fun _ _ h=>h) (fun _=>rfl) fun ρ w' C p=>by simp only[execOp];go_simp
 ·exact zal 2 6 A (fun _ _ h=>h) (fun _=>rfl) fun ρ w' C p=>by have c0:w'.cell? ⟨B,1,none⟩=some (.slice O j.disk.safe.length N):=zac C A4 C1.o;have c1:w'.cell? ⟨B,2,none⟩=some (.slice M j.disk.wr.length L):=zac C A4 C2.o;simp only[execOp];go_simp
 ·exact zbd v0 A (fun _=>rfl) fun ρ w' C z=>by simp only[execOp];go_simp
 ·exact zal 4 8 A (fun _ _ h=>h) (fun _=>rfl) fun ρ w' C p=>by simp only[execOp];go_simp
 ·exact zal 5 9 A (fun _ _ h=>h) (fun _=>rfl) fun ρ w' C p=>by simp only[execOp];go_simp
 ·exact zal 6 10 A (fun _ _ h=>h) (fun _=>rfl) fun ρ w' C p=>by simp only[execOp];go_simp
 ·exact zal 7 11 A (fun _ _ h=>h) (fun _=>rfl) fun ρ w' C p=>by have c0:w'.cell? ⟨B,54,none⟩=some (.int .i64 j.fP):=zac C A4 I4.o;simp only[execOp];go_simp
 ·exact zbd v0 A (fun _=>rfl) fun ρ w' C z=>by simp only[execOp];go_simp
 ·exact zal 9 13 A (fun _ _ h=>h) (fun _=>rfl) fun ρ w' C p=>by simp only[execOp];go_simp
 ·exact zal 10 14 A (fun _ _ h=>h) (fun _=>rfl) fun ρ w' C p=>by simp only[execOp];go_simp
 ·exact zal 11 15 A (fun _ _ h=>h) (fun _=>rfl) fun ρ w' C p=>by simp only[execOp];go_simp
 ·exact zal 12 16 A (fun _ _ h=>h) (fun _=>rfl) fun ρ w' C p=>by have c0:w'.cell? ⟨B,53,none⟩=some (.int .i64 j.fN):=zac C A4 G0.o;simp only[execOp];go_simp
 ·intro a w' m C l;have p7:a.eval (.tmp 7)=.agg #[.slice O j.disk.safe.length N,.slice M j.disk.wr.length L]:=l ⟨3,.data⟩ (by simp) rfl;have E4:a.eval (.tmp 12)=.int .i64 j.fP:=l ⟨8,.data⟩ (by simp) rfl;have D4:a.eval (.tmp 17)=.int .i64 j.fN:=l ⟨13,.data⟩ (by simp) rfl;refine zbo 71 #[.agg #[.slice O j.disk.safe.length N,.slice M j.disk.wr.length L],.int .i64 j.fP,.int .i64 j.fN] rfl rfl (by have pf:=Act.eval_func a 71;revert p7 E4 D4 pf;generalize a.eval=ρ;intro p7 E4 D4 pf;simp only[execOp];go_simp) _ (zrw j.disk O N M L j.fP j.fN _ HQ.o) ?_;rintro e w2 ⟨rfl,F⟩;refine⟨_,rfl,_,rfl,zae C F,?_,zkr F⟩;show zrx _ _ _ _ _ _ _ _ ((a.put (some 18) _).eval (.tmp 18)) w2;rw[zaq m A (by decide)];exact rfl
 ·intro a w' m C l;refine zfk (.pointer (some ⟨w'.heap.size,0,none⟩)) rfl rfl (w':=w'.alloc (.cells #[.int .i64 0,.slice none 0 0,.slice none 0 0,.int .i64 0,.int .i64 0,.int .i64 0,.bool false,.int .i64 0,.int .i64 0,.int .i64 0,.int .i64 0,.int .i64 0,.int .i64 0,.int .i64 0,.int .i64 0,.int .i64 0,.int .i64 0,.int .i64 0,.int .i64 0,.int .i64 0,.int .i64 0,.int .i64 0,.int .i64 0,.int .i64 0,.int .i64 0,.int .i64 0,.int .i64 0,.int .i64 0,.int .i64 0,.int .i64 0,.int .i64 0,.int .i64 0,.slice none 0 0,.slice none 0 0,.slice none 0 0,.bool false,.int .i64 0,.bool false,.int .i64 0,.bool false,.int .i64 0,.int .i64 0,.slice none 0 0,.slice none 0 0,.slice none 0 0,.bool false,.int .i64 0,.bool false,.int .i64 0,.bool false,.int .i64 0,.slice none 0 0,.slice none 0 0,.int .i64 0,.int .i64 0,.int .i64 0,.slice none 0 0] 93)) (by simp only[execOp];go_simp) ⟨_,rfl,C.alloc C.size _,?_,zkr (zab _ _)⟩;show zrx _ _ _ _ _ _ _ _ ((a.put (some 2) _).eval (.tmp 2)) _;rw[zaq m A (by decide)];exact⟨_,_,rfl,C.size,rfl,heap_alloc_new _ _⟩
 ·intro a W m C l;have G5:a.eval (.tmp 18)=.agg (zbs (zfe j.disk j.fP j.fN) O N M L none 0 none 0 none 0 none 0 none 0 none 0 none 0 none 0 none 0):=l 14 (by decide);obtain⟨T,U,p2,D,F1,S⟩:∃(T:Nat) (U:Array Value),a.eval (.tmp 2)=.pointer (some ⟨T,0,none⟩)∧w.heap.size≤T∧U.size=57∧W.heap[T]?=some (.cells U 93 (0,0)):=l 15 (by decide);show wpOps prog _ _ [16] a W;rw[wpOps_cons];refine zko _ (.tmp 2) (.tmp 18) T (zbs (zfe j.disk j.fP j.fN) O N M L none 0 none 0 none 0 none 0 none 0 none 0 none 0 none 0 none 0) rfl rfl rfl p2 G5 _ U S (z3k _ _ _ _ _ _ _ _ _ _ _ _ _ _ _ _ _ _ _ _ _ _ _) F1 (zh2 _ _ _ _ _ _ _ _ _ _ _ _ _ _ _ _ _ _ _ _ _ _ _) ?_;have F3:a.tmps.size=42:=m.size.trans A;have f0:a.eval (.tmp 0)=.pointer (some ⟨B,0,none⟩):=(m.other 0 rfl).trans v0;have d:a=⟨#[_,_,_,_,_,_,_,_,_,_,_,_,_,_,_,_,_,_,_,_,_,_,_,_,_,_,_,_,_,_,_,_,_,_,_,_,_,_,_,_,_,_],[]⟩:=zb9 a 42 F3 (m.defers.trans I0);dsimp only at d;rw[f0,p2]at d;show KK a _;exact(congrArg (fun x=>KK x _) d).mpr (C8.o (fun k=>a.eval (.tmp k)) _ T U W S rfl D C)
theorem SegZ.ext{w w':World}{a:Option Addr}{l:List RZ}(h:SegZ w a l)(e:Ext w w'):SegZ w' a l:=by
 rcases h with h|⟨b,off,rfl,hlt,hc⟩
 ·exact .inl h
 ·exact .inr ⟨b,off,rfl,Nat.lt_of_lt_of_le hlt e.size,fun j u hj=>e.cell _ _ _ (hc j u hj)⟩
def zoa (B:Nat)(bs:Nat)(j:Jn)(sa:Option Addr)(sc:Nat)(sb:Option Addr)(sd:Nat)(se:Option Addr)(sf:Nat)(ca:Option Addr)(cc:Nat)(q:List RZ):Nat→Value→World→Prop
 |0,v,_=>v=.pointer (some ⟨B,0,none⟩)
 |1,v,_=>v=.pointer (some ⟨B,0,none⟩)
 |2,v,_=>v=.pointer (some ⟨B,0,none⟩)
 |3,v,_=>v=.pointer (some ⟨B,51,none⟩)
 |4,v,_=>v=.slice ca j.done.length cc
 |5,v,_=>v=.agg #[.int .i64 j.sealed.seq,.slice sa j.sealed.info.length sc,.slice sb j.sealed.data.length sd,.slice se j.sealed.rev.length sf,.bool j.sealed.h0.on,.int .i64 j.sealed.h0.left,.bool j.sealed.h1.on,.int .i64 j.sealed.h1.left,.bool j.sealed.h2.on,.int .i64 j.sealed.h2.left]
 |6,v,w=>∃b1:Nat,v=.slice (some ⟨b1,0,none⟩) 1 1∧bs≤b1∧w.heap[b1]?=some (.cells #[.int .i64 j.sealed.seq,.slice sa j.sealed.info.length sc,.slice sb j.sealed.data.length sd,.slice se j.sealed.rev.length sf,.bool j.sealed.h0.on,.int .i64 j.sealed.h0.left,.bool j.sealed.h1.on,.int .i64 j.sealed.h1.left,.bool j.sealed.h2.on,.int .i64 j.sealed.h2.left] 40 (0,0))
 |7,v,w=>∃b1 b2:Nat,v=.slice (some ⟨b2,0,none⟩) 2 2∧bs≤b2∧w.heap[b2]?=some (.cells #[.slice ca j.done.length cc,.slice (some ⟨b1,0,none⟩) 1 1] 88 (0,0))∧w.heap[b1]?=some (.cells #[.int .i64 j.sealed.seq,.slice sa j.sealed.info.length sc,.slice sb j.sealed.data.length sd,.slice se j.sealed.rev.length sf,.bool j.sealed.h0.on,.int .i64 j.sealed.h0.left,.bool j.sealed.h1.on,.int .i64 j.sealed.h1.left,.bool j.sealed.h2.on,.int .i64 j.sealed.h2.left] 40 (0,0))
 |8,v,w=>w.ownsRow bs 40 10 v (q.length+1) (cellsZ (q++[(⟨sa,sc,sb,sd,se,sf,j.sealed⟩:RZ)]))
 |9,v,_=>v=.pointer (some ⟨B,0,none⟩)
 |10,v,_=>v=.pointer (some ⟨B,51,none⟩)
 |_,_,_=>True
theorem zhg{B:Nat}{bs:Nat}{j:Jn}{sa:Option Addr}{sc:Nat}{sb:Option Addr}{sd:Nat}{se:Option Addr}{sf:Nat}{ca:Option Addr}{cc:Nat}{q:List RZ}{w w':World}(hb:Below w.heap.size w w'){i:Nat}:∀kk uu,kk≠i→zoa B bs j sa sc sb sd se sf ca cc q kk uu w→zoa B bs j sa sc sb sd se sf ca cc q kk uu w':=by
 intro kk uu _ h
 match kk,h with
 |0,h|1,h|2,h|3,h|4,h|5,h=>exact h
 |6,⟨b1,h1,h2,h3⟩=>exact⟨b1,h1,h2,zad hb (Array.getElem?_eq_some_iff.1 h3).1 h3⟩
 |7,⟨b1,b2,h1,h2,h3,h4⟩=>exact⟨b1,b2,h1,h2,zad hb (Array.getElem?_eq_some_iff.1 h3).1 h3,zad hb (Array.getElem?_eq_some_iff.1 h4).1 h4⟩
 |8,h=>exact zah h hb
 |9,h|10,h=>exact h
 |_+11,_=>exact trivial
theorem zr0(B:Nat)(X:List Nat)(j:Jn)(w:World)(h:JAt w B X j)(hX:∀x∈X,x<w.heap.size)(hn:j.done.length≤900):
  Calls prog 110 #[.pointer (some ⟨B,0,none⟩)] w (zdg w B X (zgf j)):=by
 have HJ:=zaa h;have K6:=h.lt;have B7:=h.1;have HX:=zaa hX;have HN:=zaa hn;have HE:Hid (zgf j=({j with sealed:=zct 0,done:=j.done++[j.sealed],last:=j.sealed.seq},⟨0,j.sealed.seq,⟨#[]⟩⟩)):=rfl;obtain⟨_,da,dc,db,dd,na,nc,nb,nd,ne,nf,N,J,K,M,I,L,Z,U,fa,fc,ta,tc,D,hr⟩:=id h;have F3:w.cell? ⟨B,41,none⟩=some (.int .i64 j.sealed.seq):=zak D 41;have E2:w.frozen? ⟨B,41,none⟩=false:=frozen_of_row w _ _ _ _ D;have J2:w.cell? ⟨B,42,none⟩=some (.slice N j.sealed.info.length J):=zak D 42;have E3:w.frozen? ⟨B,42,none⟩=false:=frozen_of_row w _ _ _ _ D;have I9:w.cell? ⟨B,43,none⟩=some (.slice K j.sealed.data.length M):=zak D 43;have E6:w.frozen? ⟨B,43,none⟩=false:=frozen_of_row w _ _ _ _ D;have G9:w.cell? ⟨B,44,none⟩=some (.slice I j.sealed.rev.length L):=zak D 44;have D9:w.frozen? ⟨B,44,none⟩=false:=frozen_of_row w _ _ _ _ D;have H9:w.cell? ⟨B,45,none⟩=some (.bool j.sealed.h0.on):=zak D 45;have D6:w.frozen? ⟨B,45,none⟩=false:=frozen_of_row w _ _ _ _ D;have H1:w.cell? ⟨B,46,none⟩=some (.int .i64 j.sealed.h0.left):=zak D 46;have D5:w.frozen? ⟨B,46,none⟩=false:=frozen_of_row w _ _ _ _ D;have G5:w.cell? ⟨B,47,none⟩=some (.bool j.sealed.h1.on):=zak D 47;have D8:w.frozen? ⟨B,47,none⟩=false:=frozen_of_row w _ _ _ _ D;have I6:w.cell? ⟨B,48,none⟩=some (.int .i64 j.sealed.h1.left):=zak D 48;have E4:w.frozen? ⟨B,48,none⟩=false:=frozen_of_row w _ _ _ _ D;have G1:w.cell? ⟨B,49,none⟩=some (.bool j.sealed.h2.on):=zak D 49;have E1:w.frozen? ⟨B,49,none⟩=false:=frozen_of_row w _ _ _ _ D;have G0:w.cell? ⟨B,50,none⟩=some (.int .i64 j.sealed.h2.left):=zak D 50;have D7:w.frozen? ⟨B,50,none⟩=false:=frozen_of_row w _ _ _ _ D;have A8:=zaa hr.2.2.1;clear h hX hn D hr;have K7:¬w.heap.size=B:=by omega
 have E5:¬w.heap.size+1=B:=by omega
 have B2:w.heap.size≠B:=by omega
 go_enter func110,ntmps110;go_wp2;rename_i KK A7;clear F3 E2 J2 E3 I9 E6 G9 D9 H9 D6 H1 D5 G5 D8 I6 E4 G1 E1 G0 D7;obtain⟨m,n⟩:∃m,m=((((((((((w.setCell ⟨B,41,none⟩ (.int .i64 0)).setCell ⟨B,42,none⟩ (.slice none 0 0)).setCell ⟨B,43,none⟩ (.slice none 0 0)).setCell ⟨B,44,none⟩ (.slice none 0 0)).setCell ⟨B,45,none⟩ (.bool false)).setCell ⟨B,46,none⟩ (.int .i64 0)).setCell ⟨B,47,none⟩ (.bool false)).setCell ⟨B,48,none⟩ (.int .i64 0)).setCell ⟨B,49,none⟩ (.bool false)).setCell ⟨B,50,none⟩ (.int .i64 0)):=⟨_,rfl⟩;rw[←n];have A5:m.heap.size=w.heap.size:=by rw[n];simp[World.setCell]
 have B1:ButL [B] w.heap.size w m:=by rw[n];exact((((((((((ButL.refl _ _ w).set (.inl (by simp)) 41 _).set (.inl (by simp)) 42 _).set (.inl (by simp)) 43 _).set (.inl (by simp)) 44 _).set (.inl (by simp)) 45 _).set (.inl (by simp)) 46 _).set (.inl (by simp)) 47 _).set (.inl (by simp)) 48 _).set (.inl (by simp)) 49 _).set (.inl (by simp)) 50 _
 have B6:Hid (JAt m B X ({j with sealed:=zct 0}:Jn)):=by rw[n];exact HJ.o.putSealed (t:=zct 0) (zre _ _)
 have B0:=zaa (A8.o.ext (Ext.butL (B1.wider (Y:=X) (by simp[B7]))));obtain⟨C,b⟩:∃C,C=(m.alloc (.cells #[.int .i64 0,.int .i64 0,.string ⟨#[]⟩] 31)).alloc (.cells #[.int .i64 j.sealed.seq,.slice N j.sealed.info.length J,.slice K j.sealed.data.length M,.slice I j.sealed.rev.length L,.bool j.sealed.h0.on,.int .i64 j.sealed.h0.left,.bool j.sealed.h1.on,.int .i64 j.sealed.h1.left,.bool j.sealed.h2.on,.int .i64 j.sealed.h2.left] 40):=⟨_,rfl⟩;rw[←b];have d:Below m.heap.size m C:=by rw[b];exact zae (zab _ _) (zab _ _)
 have A1:Hid (JAt C B (w.heap.size::X) ({j with sealed:=zct 0}:Jn)):=B6.o.more d (by omega);have I4:Hid (IsTx (zas C (w.heap.size::X)) (.agg #[.int .i64 j.sealed.seq,.slice N j.sealed.info.length J,.slice K j.sealed.data.length M,.slice I j.sealed.rev.length L,.bool j.sealed.h0.on,.int .i64 j.sealed.h0.left,.bool j.sealed.h1.on,.int .i64 j.sealed.h1.left,.bool j.sealed.h2.on,.int .i64 j.sealed.h2.left]) j.sealed):=B0.o.ext (Ext.newL d (by omega));have A3:Hid (ButL [B] w.heap.size w C):=B1.trans (Y:=[]) (ButL.of_below d) (by omega) (by simp);have D1:(m.alloc (.cells #[.int .i64 0,.int .i64 0,.string ⟨#[]⟩] 31)).heap.size=w.heap.size+1:=by simp[A5]
 have L5:C.heap.size=w.heap.size+2:=by rw[b];simp[A5]
 have A9:Hid (C.heap[w.heap.size]?=some (.cells #[.int .i64 0,.int .i64 0,.string ⟨#[]⟩] 31 (0,0))):=by rw[b];exact zad (zab _ _) (by omega) (by rw[←A5];exact heap_alloc_new _ _)
 have C9:Hid (C.heap[w.heap.size+1]?=some (.cells #[.int .i64 j.sealed.seq,.slice N j.sealed.info.length J,.slice K j.sealed.data.length M,.slice I j.sealed.rev.length L,.bool j.sealed.h0.on,.int .i64 j.sealed.h0.left,.bool j.sealed.h1.on,.int .i64 j.sealed.h1.left,.bool j.sealed.h2.on,.int .i64 j.sealed.h2.left] 40 (0,0))):=by rw[b,←D1];exact heap_alloc_new _ _
 clear n B1 B6 B0 b d D1 A5 A8
 have I8:Hid (∀x∈(w.heap.size::X),x<C.heap.size):=fun x hx=>by
  rcases List.mem_cons.1 hx with rfl|hx
  ·omega
  ·have:=HX.o x hx;omega
 obtain⟨_,L6,K3,M2,L1,K8,M0,J9,K2,L4,K5,M1,L9,J6,L8,J5,K9,Z,U,J7,L3,K0,M5,m1,mr⟩:=id A1.o;have H5:Hid (C.cell? ⟨B,51,none⟩=some (.slice Z j.done.length U)):=(zak m1 51).trans rfl;obtain⟨q,C1,D2,C0⟩:=mr.2.2.2.1.rz;have A6:=zaa C1;have I2:=zaa D2;have H7:=zaa C0;have C7:Hid (q.length=j.done.length):=by rw[Hid,←A6.o,List.length_map]
 have I7:Hid (q.length≤900):=by rw[Hid,C7.o];exact HN.o
 clear m1 mr C1 D2 C0;obtain⟨⟨y0,y1,y2,y3,y4,y5,y6,y7,y8,y9⟩,_⟩:=zaj C9.o;have Q0:=zaa y0;have Q1:=zaa y1;have Q2:=zaa y2;have Q3:=zaa y3;have Q4:=zaa y4;have Q5:=zaa y5;have Q6:=zaa y6;have Q7:=zaa y7;have Q8:=zaa y8;have Q9:=zaa y9;clear y0 y1 y2 y3 y4 y5 y6 y7 y8 y9;have F4:B<C.heap.size:=by omega
 have O:w.heap.size+1<C.heap.size:=by omega
 have J3:Hid (∀{w':World} {F S:Nat},Below C.heap.size C w'→w'.heap[S]?=some (.cells #[.slice Z j.done.length U,.slice (some ⟨F,0,none⟩) 1 1] 88 (0,0))→w'.heap[F]?=some (.cells #[.int .i64 j.sealed.seq,.slice N j.sealed.info.length J,.slice K j.sealed.data.length M,.slice I j.sealed.rev.length L,.bool j.sealed.h0.on,.int .i64 j.sealed.h0.left,.bool j.sealed.h1.on,.int .i64 j.sealed.h1.left,.bool j.sealed.h2.on,.int .i64 j.sealed.h2.left] 40 (0,0))→z58 w' S [(Z,U,q),(some ⟨F,0,none⟩,1,[(⟨N,J,K,M,I,L,j.sealed⟩:RZ)])]):=by
  intro w' F S hb h2 h3;refine⟨(Array.getElem?_eq_some_iff.1 h2).1,fun i x hx=>?_⟩
  match i,hx with
  |0,hx=>
   cases hx;refine⟨?_,(I2.o.ext (Ext.seenL C _)).below hb⟩;rw[C7.o];exact(cell_of_row w' _ 0 _ _ _ h2).trans rfl
  |1,hx=>
   cases hx;refine⟨(cell_of_row w' _ 1 _ _ _ h2).trans rfl,.inr ⟨F,0,rfl,(Array.getElem?_eq_some_iff.1 h3).1,fun k u hu=>?_⟩⟩;rw[Nat.zero_add,cell_of_row w' _ k _ _ _ h3];rw[←hu];simp[cellsZ,RZ.cells]
  |i+2,hx=>simp at hx
 have B3:∀(g:Nat→Value) (Q:World),JAt Q B (w.heap.size::X) ({j with sealed:=zct 0,done:=j.done++[j.sealed]}:Jn)→ButL [B] C.heap.size C Q→KK ⟨#[.pointer (some ⟨B,0,none⟩),g 1,.pointer (some ⟨w.heap.size,0,none⟩),.pointer (some ⟨w.heap.size+1,0,none⟩),g 4,g 5,g 6,g 7,g 8,g 9,g 10,g 11,g 12,g 13,g 14,g 15,g 16,g 17,g 18,g 19,g 20,g 21,g 22,g 23,g 24,g 25,g 26,g 27,g 28,g 29,g 30],[]⟩ Q:=by
  intro g Q B5 r;apply A7;clear A7;have C5:=zaa B5;have H0:Hid (ButL [B] w.heap.size w Q):=A3.o.trans r A3.o.size (by simp);have C3:Hid (Q.heap[w.heap.size]?=some (.cells #[.int .i64 0,.int .i64 0,.string ⟨#[]⟩] 31 (0,0))):=(r.block _ (by omega) (by simpa using B2)).trans A9.o;have F6:Hid (Q.heap[w.heap.size+1]?=some (.cells #[.int .i64 j.sealed.seq,.slice N j.sealed.info.length J,.slice K j.sealed.data.length M,.slice I j.sealed.rev.length L,.bool j.sealed.h0.on,.int .i64 j.sealed.h0.left,.bool j.sealed.h1.on,.int .i64 j.sealed.h1.left,.bool j.sealed.h2.on,.int .i64 j.sealed.h2.left] 40 (0,0))):=(r.block _ (by omega) (by simpa using E5)).trans C9.o;have K4:C.heap.size≤Q.heap.size:=r.size;have M3:B<Q.heap.size:=by omega
  clear B5 r;obtain⟨_,E7,G6,G7,H6,F1,F2,G4,F0,G3,I5,I3,I1,H2,F9,F7,G8,G2,H4,E8,H8,H3,J1,y,_⟩:=id C5.o;obtain⟨v5,c5⟩:∃v,Q.cell? ⟨B,5,none⟩=some v:=⟨_,(zak y 5).trans rfl⟩;have K1:Q.frozen? ⟨B,5,none⟩=false:=frozen_of_row Q _ _ _ _ y;clear y;obtain⟨⟨q0,_⟩,_⟩:=zaj F6.o;obtain⟨⟨y0,y1,y2⟩,yf⟩:=zbl C3.o;go_wp2;obtain⟨W7,A4⟩:∃W7,W7=Q.setCell ⟨B,5,none⟩ (.int .i64 j.sealed.seq):=⟨_,rfl⟩;rw[←A4];have A9:Hid (W7.heap[w.heap.size]?=some (.cells #[.int .i64 0,.int .i64 0,.string ⟨#[]⟩] 31 (0,0))):=by rw[A4];exact(Below.heap_setCell _ _ _ _ B2).trans C3.o
  have A1:Hid (JAt W7 B (w.heap.size::X) {j with sealed:=zct 0,done:=j.done++[j.sealed],last:=j.sealed.seq}):=by rw[A4];exact C5.o.putLast _
  have A3:Hid (ButL [B] w.heap.size w W7):=by rw[A4];exact H0.o.set (.inl (by simp)) 5 _
  obtain⟨W,hW⟩:∃W,W=(((W7.setCell ⟨w.heap.size,0,none⟩ (.int .i64 0)).setCell ⟨w.heap.size,1,none⟩ (.int .i64 j.sealed.seq)).setCell ⟨w.heap.size,2,none⟩ (.string ⟨#[]⟩)):=⟨_,rfl⟩;have hX:=zgc A9.o (.int .i64 0) (.int .i64 j.sealed.seq) (.string ⟨#[]⟩);rw[←hW]at hX⊢;obtain⟨⟨u0,u1,u2⟩,_⟩:=zbl hX;refine bodyPost_ret (v:=.agg #[.int .i64 0,.int .i64 j.sealed.seq,.string ⟨#[]⟩]) (by simp[results,results110,go_sem,u0,u1,u2]) rfl ⟨by rw[HE.o];rfl,?_,?_⟩
  ·rw[HE.o,hW];exact zw5 A1.o B2 B7 _ _ _
  ·rw[hW];exact((A3.o.set (.inr (by omega)) 0 _).set (.inr (by omega)) 1 _).set (.inr (by omega)) 2 _
 have B4:=zaa B3;clear B3 A7;refine(show∀A0:Act,A0=_→Code.wp prog _ _ A0 _ from fun A0 hA0=>?_) _ rfl;have E:A0.tmps.size=31:=by rw[hA0];rfl
 have I0:A0.defers=[]:=by rw[hA0]
 have v0:A0.eval (.tmp 0)=.pointer (some ⟨B,0,none⟩):=by rw[hA0];rfl
 have v2:A0.eval (.tmp 2)=.pointer (some ⟨w.heap.size,0,none⟩):=by rw[hA0];rfl
 have v3:A0.eval (.tmp 3)=.pointer (some ⟨w.heap.size+1,0,none⟩):=by rw[hA0];rfl
 clear hA0;refine zbb 11 (fun w'=>Below C.heap.size C w') [12,13,14,15,16,17,18,19,20,21,22] (zoa B C.heap.size j N J K M I L Z U q) (by kernel_rfl) (by kernel_rfl) (by kernel_rfl) (by kernel_rfl) (by decide) ((Below.refl _ _).drew) ⟨?_,?_,?_,?_,?_,?_,?_,?_,?_,?_,?_,trivial⟩ ?_
 ·exact zbd v0 E (fun _=>rfl) fun ρ w' A z=>by simp only[execOp];go_simp
 ·exact zbd v0 E (fun _=>rfl) fun ρ w' A z=>by simp only[execOp];go_simp
 ·exact zal 1 13 E (fun _ _ h=>h) (fun _=>rfl) fun ρ w' A p=>by simp only[execOp];go_simp
 ·exact zal 2 14 E (fun _ _ h=>h) (fun _=>rfl) fun ρ w' A p=>by simp only[execOp];go_simp
 ·exact zal 3 15 E (fun _ _ h=>h) (fun _=>rfl) fun ρ w' A p=>by have c0:w'.cell? ⟨B,51,none⟩=some (.slice Z j.done.length U):=zac A F4 H5.o;simp only[execOp];go_simp
 ·exact zbd v3 E (fun _=>rfl) fun ρ w' A z=>by have c0:w'.cell? ⟨w.heap.size+1,0,none⟩=some (.int .i64 j.sealed.seq):=zac A O Q0.o;have c1:w'.cell? ⟨w.heap.size+1,1,none⟩=some (.slice N j.sealed.info.length J):=zac A O Q1.o;have c2:w'.cell? ⟨w.heap.size+1,2,none⟩=some (.slice K j.sealed.data.length M):=zac A O Q2.o;have c3:w'.cell? ⟨w.heap.size+1,3,none⟩=some (.slice I j.sealed.rev.length L):=zac A O Q3.o;have c4:w'.cell? ⟨w.heap.size+1,4,none⟩=some (.bool j.sealed.h0.on):=zac A O Q4.o;have c5:w'.cell? ⟨w.heap.size+1,5,none⟩=some (.int .i64 j.sealed.h0.left):=zac A O Q5.o;have c6:w'.cell? ⟨w.heap.size+1,6,none⟩=some (.bool j.sealed.h1.on):=zac A O Q6.o;have c7:w'.cell? ⟨w.heap.size+1,7,none⟩=some (.int .i64 j.sealed.h1.left):=zac A O Q7.o;have c8:w'.cell? ⟨w.heap.size+1,8,none⟩=some (.bool j.sealed.h2.on):=zac A O Q8.o;have c9:w'.cell? ⟨w.heap.size+1,9,none⟩=some (.int .i64 j.sealed.h2.left):=zac A O Q9.o;simp only[execOp];go_simp
 ·intro a w' R A c;have B8:a.eval (.tmp 17)=.agg #[.int .i64 j.sealed.seq,.slice N j.sealed.info.length J,.slice K j.sealed.data.length M,.slice I j.sealed.rev.length L,.bool j.sealed.h0.on,.int .i64 j.sealed.h0.left,.bool j.sealed.h1.on,.int .i64 j.sealed.h1.left,.bool j.sealed.h2.on,.int .i64 j.sealed.h2.left]:=c ⟨5,.data⟩ (by simp) rfl;refine zfk (.slice (some ⟨w'.heap.size,0,none⟩) 1 1) rfl rfl (w':=w'.alloc (.cells #[.int .i64 j.sealed.seq,.slice N j.sealed.info.length J,.slice K j.sealed.data.length M,.slice I j.sealed.rev.length L,.bool j.sealed.h0.on,.int .i64 j.sealed.h0.left,.bool j.sealed.h1.on,.int .i64 j.sealed.h1.left,.bool j.sealed.h2.on,.int .i64 j.sealed.h2.left] 40)) (by revert B8;generalize a.eval=ρ;intro B8;simp only[execOp];go_simp) ⟨_,rfl,A.alloc A.size _,?_,zhg (zab _ _)⟩;show zoa _ _ _ _ _ _ _ _ _ _ _ _ _ ((a.put (some 18) _).eval (.tmp 18)) _;rw[zaq R E (by decide)];exact⟨_,rfl,A.size,heap_alloc_new _ _⟩
 ·intro a w' R A c;have D3:a.eval (.tmp 16)=.slice Z j.done.length U:=c ⟨4,.data⟩ (by simp) rfl;obtain⟨F,C6,M4,A2⟩:∃F:Nat,a.eval (.tmp 18)=.slice (some ⟨F,0,none⟩) 1 1∧C.heap.size≤F∧w'.heap[F]?=some (.cells #[.int .i64 j.sealed.seq,.slice N j.sealed.info.length J,.slice K j.sealed.data.length M,.slice I j.sealed.rev.length L,.bool j.sealed.h0.on,.int .i64 j.sealed.h0.left,.bool j.sealed.h1.on,.int .i64 j.sealed.h1.left,.bool j.sealed.h2.on,.int .i64 j.sealed.h2.left] 40 (0,0)):=c ⟨6,.data⟩ (by simp) rfl;refine zfk (.slice (some ⟨w'.heap.size,0,none⟩) 2 2) rfl rfl (w':=w'.alloc (.cells #[.slice Z j.done.length U,.slice (some ⟨F,0,none⟩) 1 1] 88)) (by revert D3 C6;generalize a.eval=ρ;intro D3 C6;simp only[execOp];go_simp) ⟨_,rfl,A.alloc A.size _,?_,zhg (zab _ _)⟩;show zoa _ _ _ _ _ _ _ _ _ _ _ _ _ ((a.put (some 19) _).eval (.tmp 19)) _;rw[zaq R E (by decide)];exact⟨F,_,rfl,A.size,heap_alloc_new _ _,zad (zab _ _) (Array.getElem?_eq_some_iff.1 A2).1 A2⟩
 ·intro a w' R A c;obtain⟨F,S,C4,L2,F8,A2⟩:∃F S:Nat,a.eval (.tmp 19)=.slice (some ⟨S,0,none⟩) 2 2∧C.heap.size≤S∧w'.heap[S]?=some (.cells #[.slice Z j.done.length U,.slice (some ⟨F,0,none⟩) 1 1] 88 (0,0))∧w'.heap[F]?=some (.cells #[.int .i64 j.sealed.seq,.slice N j.sealed.info.length J,.slice K j.sealed.data.length M,.slice I j.sealed.rev.length L,.bool j.sealed.h0.on,.int .i64 j.sealed.h0.left,.bool j.sealed.h1.on,.int .i64 j.sealed.h1.left,.bool j.sealed.h2.on,.int .i64 j.sealed.h2.left] 40 (0,0)):=c ⟨7,.data⟩ (by simp) rfl;refine zbo 141 #[.slice (some ⟨S,0,none⟩) 2 2] rfl rfl (by have pf:=Act.eval_func a 141;revert C4 pf;generalize a.eval=ρ;intro C4 pf;simp only[execOp];go_simp) _ (ztx S 2 2 [(Z,U,q),(some ⟨F,0,none⟩,1,[(⟨N,J,K,M,I,L,j.sealed⟩:RZ)])] w' rfl (by decide) (J3.o A F8 A2) (by have:=I7.o;simp[flatZ];omega)) ?_;rintro e w2 ⟨v',rfl,hO,hb⟩;refine⟨_,rfl,_,rfl,zae A hb,?_,zhg hb⟩;show zoa _ _ _ _ _ _ _ _ _ _ _ _ _ ((a.put (some 20) _).eval (.tmp 20)) _;rw[zaq R E (by decide)];have C2:=zba hO A.size;simp only[flatZ,List.map_cons,List.map_nil,List.flatten_cons,List.flatten_nil,List.append_nil,List.length_append,List.length_cons,List.length_nil,Nat.zero_add]at C2;exact C2
 ·exact zal 0 12 E (fun _ _ h=>h) (fun _=>rfl) fun ρ w' A p=>by simp only[execOp];go_simp
 ·exact zal 9 21 E (fun _ _ h=>h) (fun _=>rfl) fun ρ w' A p=>by simp only[execOp];go_simp
 ·intro a W R A c;have E9:W.ownsRow C.heap.size 40 10 (a.eval (.tmp 20)) (q.length+1) (cellsZ (q++[(⟨N,J,K,M,I,L,j.sealed⟩:RZ)])):=c 8 (by decide);have B9:a.eval (.tmp 22)=.pointer (some ⟨B,51,none⟩):=c 10 (by decide);have F5:a.tmps.size=31:=R.size.trans E;have J0:=zhf (X:=(w.heap.size::X)) E9 I8.o
  obtain⟨ya,yc,hy,C8,_⟩:=SegTx.of_rz J0 (fun x hx=>by
   rcases List.mem_append.1 hx with h|h
   ·exact(H7.o x h).ext (Ext.freshL A)
   ·rw[List.mem_singleton.1 h];exact I4.o.ext (Ext.freshL A))
  rw[List.map_append,A6.o]at C8;have E0:(q++[(⟨N,J,K,M,I,L,j.sealed⟩:RZ)]).length=(j.done++[j.sealed]).length:=by rw[←A6.o];simp
  rw[E0]at hy;have D4:=A1.o.below A;obtain⟨_,E7,G6,G7,H6,F1,F2,G4,F0,G3,I5,I3,I1,H2,F9,F7,G8,G2,H4,E8,H8,H3,J1,y,_⟩:=id D4;obtain⟨L0,J8⟩:∃v,W.cell? ⟨B,51,none⟩=some v:=⟨_,(zak y 51).trans rfl⟩;have J4:W.frozen? ⟨B,51,none⟩=false:=frozen_of_row W _ _ _ _ y;clear y;show wpOps prog _ _ [11] a W;rw[wpOps_cons];refine zce rfl rfl (w':=W.setCell ⟨B,51,none⟩ (.slice ya (j.done++[j.sealed]).length yc)) (by generalize (j.done++[j.sealed]).length=nn at *;revert hy B9;generalize a.eval=ρ;intro hy B9;simp only[execOp];go_simp) ?_;have f0:a.eval (.tmp 0)=.pointer (some ⟨B,0,none⟩):=(R.other 0 rfl).trans v0;have f2:a.eval (.tmp 2)=.pointer (some ⟨w.heap.size,0,none⟩):=(R.other 2 rfl).trans v2;have f3:a.eval (.tmp 3)=.pointer (some ⟨w.heap.size+1,0,none⟩):=(R.other 3 rfl).trans v3;have s:a=⟨#[_,_,_,_,_,_,_,_,_,_,_,_,_,_,_,_,_,_,_,_,_,_,_,_,_,_,_,_,_,_,_],[]⟩:=zb9 a 31 F5 (R.defers.trans I0);dsimp only at s;rw[f0,f2,f3]at s;show KK a _;exact(congrArg (fun x=>KK x _) s).mpr (B4.o (fun k=>a.eval (.tmp k)) _ (D4.putDone (l:=j.done++[j.sealed]) C8) ((ButL.of_below A).set (.inl (by simp)) 51 _))
theorem ztz(B:Nat)(X:List Nat)(j:Jn)(w:World)(h:JAt w B X j)(hX:∀x∈X,x<w.heap.size)(hn:j.done.length≤900)(hf:j.fL.length≤maxLen)(hq:IntKind.i64.wrap (j.fN - 1)=j.fN - 1):
  Calls prog 74 #[.pointer (some ⟨B,0,none⟩)] w (zdg w B X (zbp j)):=by
 have d:=zaa h;have A8:=h.lt;have Z:=h.1;have n:=zaa hX;have HN:=zaa hn;have HF:=zaa hf;have HQ:=zaa hq;obtain⟨_,da,dc,db,dd,na,nc,nb,nd,ne,nf,sa,sc,sb,sd,se,sf,ca,cc,fa,fc,ta,tc,h1,hr⟩:=id h;have a:w.cell? ⟨B,55,none⟩=some (.int .i64 j.work):=zak h1 55;clear h hX hn hf hq h1 hr;have A5:¬w.heap.size=B:=by omega
 by_cases h6:j.work=6
 ·have U:Hid (zbp j=zgf j):=by rw[Hid,zbp,if_pos h6]
  rw[h6]at a;clear h6;go_enter func74,ntmps74;go_wp2_with fail;obtain⟨C,A⟩:∃C,C=w.alloc (.cells #[.int .i64 0,.int .i64 0,.string ⟨#[]⟩] 31):=⟨_,rfl⟩;have L:Hid (JAt C B (w.heap.size::X) j):=by rw[A];exact d.o.more (zab _ _) (Nat.le_refl _)
  have D:Hid (ButL [B] w.heap.size w C):=by rw[A];exact ButL.of_below (zab _ _)
  have Q:Hid (C.heap[w.heap.size]?=some (.cells #[.int .i64 0,.int .i64 0,.string ⟨#[]⟩] 31 (0,0))):=by rw[A];exact heap_alloc_new _ _
  have k:C.heap.size=w.heap.size+1:=by rw[A];simp
  have I:w.heap.size<C.heap.size:=by omega
  have M:w.heap.size≠B:=by omega
  have b:Hid (∀x∈(w.heap.size::X),x<C.heap.size):=fun x hx=>by
   rcases List.mem_cons.1 hx with rfl|hx
   ·exact I
   ·have:=n.o x hx;omega
  rw[←A];clear A;refine(zr0 B (w.heap.size::X) j C L.o b.o HN.o).mono ?_;rintro e O ⟨rfl,R,N⟩;have F:Hid (O.heap[w.heap.size]?=some (.cells #[.int .i64 0,.int .i64 0,.string ⟨#[]⟩] 31 (0,0))):=(N.block _ (by omega) (by simpa using M)).trans Q.o;have J:=zaa R;have K:Hid (ButL [B] w.heap.size w O):=D.o.trans N D.o.size (by simp);have A2:C.heap.size≤O.heap.size:=N.size;clear R N;have y:Hid (zbp j=((zgf j).1,⟨0,j.sealed.seq,⟨#[]⟩⟩)):=U.o;rw[show vRp (zgf j).2=.agg #[.int .i64 0,.int .i64 j.sealed.seq,.string ⟨#[]⟩] from rfl];obtain⟨⟨s,p,r⟩,q⟩:=zbl F.o;go_wp2;exact zbg y.o F.o J.o K.o M Z fun W u0 u1 u2=>by simp[results,results74,go_sem,u0,u1,u2]
 ·have z:(j.work==6)=false:=by simpa using h6
  by_cases h7:j.work=7
  ·have U:Hid (zbp j=({j with done:=[],ru:=0},zat 0)):=by rw[Hid,zbp,if_neg h6,if_pos h7]
   rw[h7]at a;clear h6 h7 z
   have A0:(∃v,w.cell? ⟨B,51,none⟩=some v)∧(∃v,w.cell? ⟨B,4,none⟩=some v)∧w.frozen? ⟨B,51,none⟩=false∧w.frozen? ⟨B,4,none⟩=false:=by
    obtain⟨_,da,dc,db,dd,na,nc,nb,nd,ne,nf,sa,sc,sb,sd,se,sf,ca,cc,fa,fc,ta,tc,i,_⟩:=d.o;exact⟨⟨_,(zak i 51).trans rfl⟩,⟨_,(zak i 4).trans rfl⟩,frozen_of_row w _ _ _ _ i,frozen_of_row w _ _ _ _ i⟩
   obtain⟨⟨A6,A1⟩,⟨v4,c4⟩,A3,f4⟩:=A0;go_enter func74,ntmps74;go_wp2_with fail;obtain⟨c,S⟩:∃c,c=(w.setCell ⟨B,51,none⟩ (.slice none 0 0)).setCell ⟨B,4,none⟩ (.int .i64 0):=⟨_,rfl⟩;rw[←S];have m:c.heap.size=w.heap.size:=by rw[S];simp[World.setCell]
   have u:Hid (JAt c B X {j with done:=[],ru:=0}):=by rw[S];exact(d.o.putDone (l:=[]) (.inl rfl)).putUsed 0
   have A4:Hid (ButL [B] w.heap.size w c):=by rw[S];exact((ButL.refl _ _ _).set (.inl (by simp)) 51 _).set (.inl (by simp)) 4 _
   clear S A1 c4 A3 f4 a;obtain⟨C,A⟩:∃C,C=c.alloc (.cells #[.int .i64 0,.int .i64 0,.string ⟨#[]⟩] 31):=⟨_,rfl⟩;have L:Hid (JAt C B (w.heap.size::X) {j with done:=[],ru:=0}):=by rw[A];exact u.o.more (zab _ _) (by omega)
   have D:Hid (ButL [B] w.heap.size w C):=by rw[A];exact A4.o.trans (Y:=[]) (ButL.of_below (zab _ _)) (by omega) (by simp)
   have Q:Hid (C.heap[w.heap.size]?=some (.cells #[.int .i64 0,.int .i64 0,.string ⟨#[]⟩] 31 (0,0))):=by rw[A,←m];exact heap_alloc_new _ _
   have I:w.heap.size<C.heap.size:=by rw[A];simp[m]
   have M:w.heap.size≠B:=by omega
   rw[←A];clear A;refine(zau 0 _).mono ?_;rintro e O ⟨rfl,E⟩;have F:=zaa (zad E I Q.o);have J:=zaa (L.o.below E);have K:=zaa (D.o.trans (Y:=[]) (ButL.of_below E) D.o.size (by simp));clear E;obtain⟨⟨s,p,r⟩,q⟩:=zbl F.o;go_wp2;exact zbg U.o F.o J.o K.o M Z fun W u0 u1 u2=>by simp[results,results74,go_sem,u0,u1,u2]
  ·have b7:(j.work==7)=false:=by simpa using h7
   by_cases h11:j.work=11
   ·have U:Hid (zbp j=(zjb j,zat 0)):=by rw[Hid,zbp,if_neg h6,if_neg h7,if_pos h11]
    rw[h11]at a;clear h6 h7 h11 z b7;go_enter func74,ntmps74;go_wp2_with fail;obtain⟨C,A⟩:∃C,C=w.alloc (.cells #[.int .i64 0,.int .i64 0,.string ⟨#[]⟩] 31):=⟨_,rfl⟩;have L:Hid (JAt C B (w.heap.size::X) j):=by rw[A];exact d.o.more (zab _ _) (Nat.le_refl _)
    have D:Hid (ButL [B] w.heap.size w C):=by rw[A];exact ButL.of_below (zab _ _)
    have Q:Hid (C.heap[w.heap.size]?=some (.cells #[.int .i64 0,.int .i64 0,.string ⟨#[]⟩] 31 (0,0))):=by rw[A];exact heap_alloc_new _ _
    have k:C.heap.size=w.heap.size+1:=by rw[A];simp
    have I:w.heap.size<C.heap.size:=by omega
    have M:w.heap.size≠B:=by omega
    have b:Hid (∀x∈(w.heap.size::X),x<C.heap.size):=fun x hx=>by
     rcases List.mem_cons.1 hx with rfl|hx
     ·exact I
     ·have:=n.o x hx;omega
    rw[←A];clear A;refine(zxp B (w.heap.size::X) j C L.o b.o HF.o HQ.o).mono ?_;rintro e O ⟨⟨v,rfl⟩,R,N⟩;have F:Hid (O.heap[w.heap.size]?=some (.cells #[.int .i64 0,.int .i64 0,.string ⟨#[]⟩] 31 (0,0))):=(N.block _ (by omega) (by simpa using M)).trans Q.o;have J:=zaa R;have K:Hid (ButL [B] w.heap.size w O):=D.o.trans N D.o.size (by simp);have A2:C.heap.size≤O.heap.size:=N.size;clear R N;have L:=J;have D:=K;have Q:=F;have I:w.heap.size<O.heap.size:=by omega
    go_wp2_with fail;refine(zau 0 _).mono ?_;rintro e w3 ⟨rfl,E⟩;have F:=zaa (zad E I Q.o);have J:=zaa (L.o.below E);have K:=zaa (D.o.trans (Y:=[]) (ButL.of_below E) D.o.size (by simp));clear E;obtain⟨⟨s,p,r⟩,q⟩:=zbl F.o;go_wp2;exact zbg U.o F.o J.o K.o M Z fun W u0 u1 u2=>by simp[results,results74,go_sem,u0,u1,u2]
   ·have U:Hid (zbp j=(j,zat 0)):=by rw[Hid,zbp,if_neg h6,if_neg h7,if_neg h11]
    have A7:(j.work==11)=false:=by simpa using h11
    clear h6 h7 h11;go_enter func74,ntmps74;go_wp2_with fail;obtain⟨C,A⟩:∃C,C=w.alloc (.cells #[.int .i64 0,.int .i64 0,.string ⟨#[]⟩] 31):=⟨_,rfl⟩;have L:Hid (JAt C B (w.heap.size::X) j):=by rw[A];exact d.o.more (zab _ _) (Nat.le_refl _)
    have D:Hid (ButL [B] w.heap.size w C):=by rw[A];exact ButL.of_below (zab _ _)
    have Q:Hid (C.heap[w.heap.size]?=some (.cells #[.int .i64 0,.int .i64 0,.string ⟨#[]⟩] 31 (0,0))):=by rw[A];exact heap_alloc_new _ _
    have k:C.heap.size=w.heap.size+1:=by rw[A];simp
    have I:w.heap.size<C.heap.size:=by omega
    have M:w.heap.size≠B:=by omega
    have b:Hid (∀x∈(w.heap.size::X),x<C.heap.size):=fun x hx=>by
     rcases List.mem_cons.1 hx with rfl|hx
     ·exact I
     ·have:=n.o x hx;omega
    rw[←A];clear A;refine(zau 0 _).mono ?_;rintro e O ⟨rfl,E⟩;have F:=zaa (zad E I Q.o);have J:=zaa (L.o.below E);have K:=zaa (D.o.trans (Y:=[]) (ButL.of_below E) D.o.size (by simp));clear E;obtain⟨⟨s,p,r⟩,q⟩:=zbl F.o;go_wp2;exact zbg U.o F.o J.o K.o M Z fun W u0 u1 u2=>by simp[results,results74,go_sem,u0,u1,u2]
