/-
  
-/
import Derived.Test.YtjnpndfpajjihacGreatGrTopSettles40
import Derived.Great.BuildSlice
import Derived.Test.YtjnpndfpajjihacGreatXConcat
set_option maxRecDepth 100000
set_option maxHeartbeats 40000000
namespace Go.Proofs.YtjnpndfpajjihacGreat
open Go.Proofs.Tryz
open Go.RowKit
theorem z0d:∃f,prog.underlying 93=some (.struct f):=by
 have h:(match prog.underlying 93 with|some (.struct _)=>true|_=>false)=true:=by kernel_rfl
 cases hq:prog.underlying 93 with
 |none=>rw[hq]at h;cases h
 |some d=>cases d<;>first|exact⟨_,rfl⟩|(rw[hq]at h;cases h)
theorem zro(d:Dk)(da:Option Addr)(dc:Nat)(db:Option Addr)(dd:Nat)(p q:Int)(w:World)(hq:IntKind.i64.wrap (q - 1)=q - 1):
  Calls prog 71 #[.agg #[.slice da d.safe.length dc,.slice db d.wr.length dd],.int .i64 p,.int .i64 q] w fun e w'=>e=.returned (.agg (zbu (zfj d p q) da dc db dd none 0 none 0 none 0 none 0 none 0 none 0 none 0 none 0 none 0))∧Below w.heap.size w w':=by
 generalize hn1:d.safe.length=n1;generalize hn2:d.wr.length=n2;obtain⟨C,B⟩:∃C,C=zbu (zfj d p q) da dc db dd none 0 none 0 none 0 none 0 none 0 none 0 none 0 none 0 none 0:=⟨_,rfl⟩;rw[←B];have A:=zaa B;have J:=zaa hn1;have I:=zaa hn2;clear B hn1 hn2;have D:∀o,(w.alloc o).heap.size=w.heap.size+1:=fun o=>by simp
 have F:=zaa D;clear D;go_enter func71,ntmps71
 repeat (first|(refine wpList_store_rowTo rfl _ _ _ rfl rfl (w.heap.size+1) C rfl (by rw[A.o,←J.o,←I.o];rfl) _ _ (by rw[←F.o _];exact heap_alloc_new _ _) (by rw[A.o];kernel_rfl) (by rw[A.o];kernel_rfl) (by rw[A.o];kernel_rfl) ?_)|go_step)
 obtain⟨fs,E⟩:=z0d;refine bodyPost_ret (results_cell_row rfl _ _ (w.heap.size+1) _ C _ _ rfl (setRow_heap _ _ _ _ _ _ (by rw[←F.o _];exact heap_alloc_new _ _)) E rfl (by rw[A.o];kernel_rfl)) rfl ⟨rfl,?_⟩;exact((ButL.of_below (X:=[]) (zae (zab _ _) (zab _ _))).setRow (.inr (by omega)) C).below
theorem JAt.but{w w':World}{B:Nat}{X Y:List Nat}{j:Jn}(h:JAt w B X j)(hb:ButL Y w.heap.size w w')(hY:∀y∈Y,y∈X)(hn:B∉Y):JAt w' B X j:=by
 obtain⟨U,C,Q,b,c,M,D,F,E,ne,R,N,i,I,a,J,Z,S,d,K,L,O,e,A,k⟩:=h;exact⟨U,C,Q,b,c,M,D,F,E,ne,R,N,i,I,a,J,Z,S,d,K,L,O,e,(hb.block B (Array.getElem?_eq_some_iff.1 A).1 hn).trans A,k.ext (Ext.butL (hb.wider hY))⟩
theorem JAt.roleEq{w:World}{B:Nat}{X:List Nat}{j:Jn}(h:JAt w B X j)(f:Nat→Int)(hf:∀k,k<12→j.role k=f k):JAt w B X {j with role:=f}:=by
 obtain⟨d,A,O,Y,Z,L,C,E,D,ne,Q,M,c,F,U,I,S,R,a,J,K,N,b,i,l⟩:=h;refine⟨d,A,O,Y,Z,L,C,E,D,ne,Q,M,c,F,U,I,S,R,a,J,K,N,b,?_,l⟩
 have e:zbu {j with role:=f} A O Y Z L C E D ne Q M c F U I S R a J K N b=zbu j A O Y Z L C E D ne Q M c F U I S R a J K N b:=by
  simp only[zbu,hf 0 (by decide),hf 1 (by decide),hf 2 (by decide),hf 3 (by decide),hf 4 (by decide),hf 5 (by decide),hf 6 (by decide),hf 7 (by decide),hf 8 (by decide),hf 9 (by decide),hf 10 (by decide),hf 11 (by decide)]
 rw[e];exact i
def zrp (B:Nat)(bs:Nat)(j:Jn)(da:Option Addr)(dc:Nat)(db:Option Addr)(dd:Nat):Nat→Value→World→Prop
 |0,v,_=>v=.pointer (some ⟨B,0,none⟩)
 |1,v,_=>v=.pointer (some ⟨B,0,none⟩)
 |2,v,_=>v=.pointer (some ⟨B,1,none⟩)
 |3,v,_=>v=.agg #[.slice da j.disk.safe.length dc,.slice db j.disk.wr.length dd]
 |4,v,_=>v=.pointer (some ⟨B,0,none⟩)
 |5,v,_=>v=.pointer (some ⟨B,0,none⟩)
 |6,v,_=>v=.pointer (some ⟨B,52,none⟩)
 |7,v,_=>v=.pointer (some ⟨B,54,none⟩)
 |8,v,_=>v=.int .i64 j.fP
 |9,v,_=>v=.pointer (some ⟨B,0,none⟩)
 |10,v,_=>v=.pointer (some ⟨B,0,none⟩)
 |11,v,_=>v=.pointer (some ⟨B,52,none⟩)
 |12,v,_=>v=.pointer (some ⟨B,53,none⟩)
 |13,v,_=>v=.int .i64 j.fN
 |14,v,_=>v=.agg (zbu (zfj j.disk j.fP j.fN) da dc db dd none 0 none 0 none 0 none 0 none 0 none 0 none 0 none 0 none 0)
 |15,v,w=>∃(T:Nat) (cs:Array Value),v=.pointer (some ⟨T,0,none⟩)∧bs≤T∧cs.size=57∧w.heap[T]?=some (.cells cs 93 (0,0))
 |_,_,_=>True
theorem zkn{B:Nat}{bs:Nat}{j:Jn}{da:Option Addr}{dc:Nat}{db:Option Addr}{dd:Nat}{w w':World}(hb:Below w.heap.size w w'){i:Nat}:∀kk uu,kk≠i→zrp B bs j da dc db dd kk uu w→zrp B bs j da dc db dd kk uu w':=by
 intro kk uu _ h
 match kk,h with
 |0,h|1,h|2,h|3,h|4,h|5,h|6,h|7,h|8,h|9,h|10,h|11,h|12,h|13,h|14,h=>exact h
 |15,⟨T,cs,h1,h2,h3,h4⟩=>exact⟨T,cs,h1,h2,h3,zad hb (Array.getElem?_eq_some_iff.1 h4).1 h4⟩
 |_+16,_=>exact trivial
theorem zxo(B:Nat)(X:List Nat)(j:Jn)(w:World)(h:JAt w B X j)(hX:∀x∈X,x<w.heap.size)(hn:j.fL.length≤maxLen)(hq:IntKind.i64.wrap (j.fN - 1)=j.fN - 1):
  Calls prog 111 #[.pointer (some ⟨B,0,none⟩)] w fun e w'=>(∃v,e=.returned v)∧JAt w' B X (zja j)∧ButL [B] w.heap.size w w':=by
 have HJ:=zaa h;have A9:=h.lt;have E5:=h.1;have HX:=zaa hX;have HQ:=zaa hq;have HN:=zaa hn;obtain⟨_,Q,O,M,L,na,nc,nb,nd,ne,nf,sa,sc,sb,sd,se,sf,ca,cc,fa,fc,ta,tc,h1,hr⟩:=id h;have c1:w.cell? ⟨B,1,none⟩=some (.slice Q j.disk.safe.length O):=zak h1 1;have c2:w.cell? ⟨B,2,none⟩=some (.slice M j.disk.wr.length L):=zak h1 2;have C9:w.cell? ⟨B,53,none⟩=some (.int .i64 j.fN):=zak h1 53;have E4:w.cell? ⟨B,54,none⟩=some (.int .i64 j.fP):=zak h1 54;have C1:=zaa c1;have C2:=zaa c2;have E6:=zaa C9;have I1:=zaa E4;have I2:=zaa hr.1;clear h hX hq hn h1 hr c1 c2 C9 E4;go_enter func111,ntmps111;go_wp2;rename_i KK C3
 have C4:∀(g:Nat→Value) (F:World) (T:Nat) (Z:Array Value) (W2:World),W2.heap[T]?=some (.cells Z 93 (0,0))→F=W2.setRow T (zbu (zfj j.disk j.fP j.fN) Q O M L none 0 none 0 none 0 none 0 none 0 none 0 none 0 none 0 none 0)→w.heap.size≤T→Below w.heap.size w W2→KK ⟨#[.pointer (some ⟨B,0,none⟩),g 1,.pointer (some ⟨T,0,none⟩),g 3,g 4,g 5,g 6,g 7,g 8,g 9,g 10,g 11,g 12,g 13,g 14,g 15,g 16,g 17,g 18,g 19,g 20,g 21,g 22,g 23,g 24,g 25,g 26,g 27,g 28,g 29,g 30,g 31,g 32,g 33,g 34,g 35,g 36,g 37,g 38,g 39,g 40,g 41],[]⟩ F:=by
  intro g F T Z W2 R B2 E D;apply C3;clear C3;have D9:¬T=B:=by omega
  have G6:¬B=T:=by omega
  have D6:Hid (Below w.heap.size w F):=by rw[B2];exact((ButL.of_below (X:=[]) D).setRow (.inr E) _).below
  have C0:Hid (JAt F B (T::X) j):=by
   have h0:=HJ.o.more D E;refine h0.but (Y:=[T]) ?_ (by simp) (by simpa using G6);rw[B2];exact(ButL.refl _ _ _).setRow (.inl (by simp)) _
  have C7:Hid (JAt F T (T::X) (zfj j.disk j.fP j.fN)):=by
   rw[B2];exact JAt.putAll (by simp) R _ _ _ _ _ _ _ _ _ _ _ _ _ _ _ _ _ _ _ _ _ _ ⟨I2.o.ext (Ext.newL D E),zq6 _ _,zq6 _ _,.inl rfl,.inl rfl,.inl rfl,z24 _,Nat.le_refl _,Nat.le_refl _,Nat.le_refl _⟩
  clear B2 D R
  have a0:F.cell? ⟨B,0,none⟩=some (.int .i64 j.acts):=by
   obtain⟨_,A3,y,B9,B8,B7,u,B0,A7,A4,A2,A6,B3,q,B1,A1,r,B4,A5,J,K,B6,s,I,_⟩:=C0.o;exact(zak I 0).trans rfl
  have b0:(∃v,F.cell? ⟨T,0,none⟩=some v)∧F.frozen? ⟨T,0,none⟩=false:=by
   obtain⟨_,A3,y,B9,B8,B7,u,B0,A7,A4,A2,A6,B3,q,B1,A1,r,B4,A5,J,K,B6,s,I,_⟩:=C7.o;exact⟨⟨_,(zak I 0).trans rfl⟩,frozen_of_row F _ _ _ _ I⟩
  obtain⟨⟨v0,t0⟩,tf⟩:=b0;go_wp2;clear a0 t0 tf;obtain⟨W4,c⟩:∃W4,W4=F.setCell ⟨T,0,none⟩ (.int .i64 j.acts):=⟨_,rfl⟩;rw[←c];have D8:Hid (Below w.heap.size w W4):=by rw[c];exact D6.o.setCell (p:=⟨T,0,none⟩) E _
  have D5:Hid (JAt W4 B (T::X) j):=by rw[c];exact C0.o.set (by simp) D9 0 _
  have E1:Hid (JAt W4 T (T::X) {zfj j.disk j.fP j.fN with acts:=j.acts}):=by rw[c];exact C7.o.putActs _
  clear c D6 C0 C7;obtain⟨U,n⟩:∃U:Nat→Nat→Int,U=fun(k b:Nat)=>if b<k then zcr j.fL.reverse (b:Int) else 0:=⟨_,rfl⟩
  have F0:Hid (U 0=fun _=>0):=by rw[Hid,n];funext b;simp
  have H1:Hid (∀k,k<12→∀b,upd (U k) (k:Int) (zcr j.fL.reverse k) b=U (k+1) b):=by
   intro k hk b;rw[n];simp only[upd];by_cases e:b=k
   ·subst e;simp
   ·rw[if_neg (by omega)];by_cases h2:b<k
    ·rw[if_pos h2,if_pos (by omega)]
    ·rw[if_neg h2,if_neg (by omega)]
  have G2:Hid (∀k,k<12→U 12 k=zcr j.fL.reverse k):=by intro k hk;rw[n];simp[hk]
  clear n
  go_loopw [24] (fun i wr=>∃k:Nat,k≤12∧i=.int .i64 k∧Hid (JAt wr B (T::X) j)∧Hid (JAt wr T (T::X) ({zfj j.disk j.fP j.fN with acts:=j.acts,role:=U k}:Jn))∧Hid (Below w.heap.size w wr)) (fun i _=>12 - (intOf i).toNat)
  case atStart=>exact⟨0,by omega,rfl,D5,by rw[F0.o];exact E1,D8⟩
  case round=>
   obtain⟨k,hk,rfl,A8,C5,C6⟩:=hrel;clear D5 E1 D8;by_cases hk12:k<12
   ·have I9:(k:Int)<12:=by omega
    obtain⟨_,A3,y,B9,B8,B7,u,B0,A7,A4,A2,A6,B3,q,B1,A1,r,B4,A5,J,K,B6,s,I,kr⟩:=id A8.o;have F7:wr.cell? ⟨B,52,none⟩=some (.slice J j.fL.length K):=(zak I 52).trans rfl;have D2:=zaa (kr.2.2.2.2.1.ext (Ext.seenL wr _));clear I kr;go_wp2_with fail;refine(zmv J K j.fL k _ D2.o HN.o).mono ?_;rintro e wq ⟨rfl,B5⟩;have F1:=zaa (A8.o.below B5);have E2:=zaa (C5.o.below B5);have I7:=zaa (zae C6.o B5);obtain⟨e1,e2,e3,e4⟩:=E2.o.role k hk12;have I8:(0:Int)≤(k:Int):=by omega
    clear B5 F7 D2 A8 C5 C6 e2 e4;go_wp2
    go_roundw
    case rel=>
     refine⟨k+1,by omega,by go_num,F1.o.set (by simp) D9 _ _,?_,I7.o.setCell (p:=⟨T,7+k*2,none⟩) E _⟩;have h9:=E2.o.putRole k hk12 (zcr j.fL.reverse k);exact h9.roleEq _ (fun b hb=>H1.o k hk12 b)
    case measure=>first|(simp[intOf];omega)|simp[intOf]
   ·have e:k=12:=by omega
    subst e;obtain⟨_,A3,y,B9,B8,B7,u,B0,A7,A4,A2,A6,B3,q,B1,A1,r,B4,A5,J,K,B6,s,I,kr⟩:=C5.o;obtain⟨_,G8,H6,F4,G7,F3,G1,G4,F5,G3,H7,H4,E8,H0,H9,F8,I3,I6,I4,F9,G0,F2,H2,m1,mr⟩:=A8.o;obtain⟨N,E0⟩:∃N,N=zbu (({zfj j.disk j.fP j.fN with acts:=j.acts,role:=U 12}:Jn)) A3 y B9 B8 B7 u B0 A7 A4 A2 A6 B3 q B1 A1 r B4 A5 J K B6 s:=⟨_,rfl⟩;have S:=zaa E0;have I5:=zaa I;have I0:=zaa kr;have E3:=zaa m1;clear I kr m1 mr E0;obtain⟨fs,D4⟩:=z0d;have H3:=zaa D4;clear D4;have D1:Hid ((prog.info? 93).map (·.size)=some N.size):=by rw[Hid,S.o];exact z25 _ _ _ _ _ _ _ _ _ _ _ _ _ _ _ _ _ _ _ _ _ _ _
    have E9:Hid (N.all (·.oneCell')=true):=by rw[Hid,S.o];exact zh1 _ _ _ _ _ _ _ _ _ _ _ _ _ _ _ _ _ _ _ _ _ _ _
    have F6:Hid (wr.heap[T]?=some (.cells N 93 (0,0))):=by rw[Hid,S.o];exact I5.o
    have G9:Hid ((zbu j G8 H6 F4 G7 F3 G1 G4 F5 G3 H7 H4 E8 H0 H9 F8 I3 I6 I4 F9 G0 F2 H2).size=N.size):=by rw[Hid,S.o];kernel_rfl
    repeat (first|(refine wpList_load_row rfl _ _ rfl T rfl _ N _ _ F6.o H3.o rfl D1.o ?_)|(refine wpList_store_rowTo rfl _ _ _ rfl rfl B N rfl rfl _ _ E3.o D1.o G9.o E9.o ?_)|go_step)
    refine bodyPost_end (results_none rfl _ _ _) rfl ⟨⟨_,rfl⟩,?_,(ButL.of_below C6.o).setRow (.inl (by simp)) N⟩;have h9:=(JAt.putAll (B:=B) (X:=T::X) (by simp[E5]) E3.o _ _ _ _ _ _ _ _ _ _ _ _ _ _ _ _ _ _ _ _ _ _ I0.o).less E5;rw[←S.o]at h9;exact h9.roleEq (fun k=>zcr j.fL.reverse k) G2.o
 have C8:=zaa C4;clear C4 C3;refine(show∀A0:Act,A0=_→Code.wp prog _ _ A0 _ from fun A0 hA0=>?_) _ rfl;have A:A0.tmps.size=42:=by rw[hA0];rfl
 have E7:A0.defers=[]:=by rw[hA0]
 have v0:A0.eval (.tmp 0)=.pointer (some ⟨B,0,none⟩):=by rw[hA0];rfl
 clear hA0;refine zbi 16 (fun w'=>Below w.heap.size w w') [4,5,6,7,8,9,10,11,12,13,14,15,16,17,18,2] (zrp B w.heap.size j Q O M L) (by kernel_rfl) (by kernel_rfl) (by kernel_rfl) (by kernel_rfl) (by decide) ((Below.refl _ _).drew) ⟨?_,?_,?_,?_,?_,?_,?_,?_,?_,?_,?_,?_,?_,?_,?_,?_,trivial⟩ ?_
 ·exact zbh v0 A (fun _=>rfl) fun ρ w' C z=>by simp only[execOp];go_simp
 ·exact zam 0 4 A (fun _ _ h=>h) (fun _=>rfl) fun ρ w' C p=>by simp only[execOp];go_simp
 ·exact zam 1 5 A (fun _ _ h=>h) (fun _=>rfl) fun ρ w' C p=>by simp only[execOp];go_simp
 ·exact zam 2 6 A (fun _ _ h=>h) (fun _=>rfl) fun ρ w' C p=>by have c0:w'.cell? ⟨B,1,none⟩=some (.slice Q j.disk.safe.length O):=zac C A9 C1.o;have c1:w'.cell? ⟨B,2,none⟩=some (.slice M j.disk.wr.length L):=zac C A9 C2.o;simp only[execOp];go_simp
 ·exact zbh v0 A (fun _=>rfl) fun ρ w' C z=>by simp only[execOp];go_simp
 ·exact zam 4 8 A (fun _ _ h=>h) (fun _=>rfl) fun ρ w' C p=>by simp only[execOp];go_simp
 ·exact zam 5 9 A (fun _ _ h=>h) (fun _=>rfl) fun ρ w' C p=>by simp only[execOp];go_simp
 ·exact zam 6 10 A (fun _ _ h=>h) (fun _=>rfl) fun ρ w' C p=>by simp only[execOp];go_simp
 ·exact zam 7 11 A (fun _ _ h=>h) (fun _=>rfl) fun ρ w' C p=>by have c0:w'.cell? ⟨B,54,none⟩=some (.int .i64 j.fP):=zac C A9 I1.o;simp only[execOp];go_simp
 ·exact zbh v0 A (fun _=>rfl) fun ρ w' C z=>by simp only[execOp];go_simp
 ·exact zam 9 13 A (fun _ _ h=>h) (fun _=>rfl) fun ρ w' C p=>by simp only[execOp];go_simp
 ·exact zam 10 14 A (fun _ _ h=>h) (fun _=>rfl) fun ρ w' C p=>by simp only[execOp];go_simp
 ·exact zam 11 15 A (fun _ _ h=>h) (fun _=>rfl) fun ρ w' C p=>by simp only[execOp];go_simp
 ·exact zam 12 16 A (fun _ _ h=>h) (fun _=>rfl) fun ρ w' C p=>by have c0:w'.cell? ⟨B,53,none⟩=some (.int .i64 j.fN):=zac C A9 E6.o;simp only[execOp];go_simp
 ·intro a w' m C d;have p7:a.eval (.tmp 7)=.agg #[.slice Q j.disk.safe.length O,.slice M j.disk.wr.length L]:=d ⟨3,.data⟩ (by simp) rfl;have D7:a.eval (.tmp 12)=.int .i64 j.fP:=d ⟨8,.data⟩ (by simp) rfl;have D3:a.eval (.tmp 17)=.int .i64 j.fN:=d ⟨13,.data⟩ (by simp) rfl;refine zby 71 #[.agg #[.slice Q j.disk.safe.length O,.slice M j.disk.wr.length L],.int .i64 j.fP,.int .i64 j.fN] rfl rfl (by have pf:=Act.eval_func a 71;revert p7 D7 D3 pf;generalize a.eval=ρ;intro p7 D7 D3 pf;simp only[execOp];go_simp) _ (zro j.disk Q O M L j.fP j.fN _ HQ.o) ?_;rintro e w2 ⟨rfl,D⟩;refine⟨_,rfl,_,rfl,zae C D,?_,zkn D⟩;show zrp _ _ _ _ _ _ _ _ ((a.put (some 18) _).eval (.tmp 18)) w2;rw[zax m A (by decide)];exact rfl
 ·intro a w' m C d;refine zgj (.pointer (some ⟨w'.heap.size,0,none⟩)) rfl rfl (w':=w'.alloc (.cells #[.int .i64 0,.slice none 0 0,.slice none 0 0,.int .i64 0,.int .i64 0,.int .i64 0,.bool false,.int .i64 0,.int .i64 0,.int .i64 0,.int .i64 0,.int .i64 0,.int .i64 0,.int .i64 0,.int .i64 0,.int .i64 0,.int .i64 0,.int .i64 0,.int .i64 0,.int .i64 0,.int .i64 0,.int .i64 0,.int .i64 0,.int .i64 0,.int .i64 0,.int .i64 0,.int .i64 0,.int .i64 0,.int .i64 0,.int .i64 0,.int .i64 0,.int .i64 0,.slice none 0 0,.slice none 0 0,.slice none 0 0,.bool false,.int .i64 0,.bool false,.int .i64 0,.bool false,.int .i64 0,.int .i64 0,.slice none 0 0,.slice none 0 0,.slice none 0 0,.bool false,.int .i64 0,.bool false,.int .i64 0,.bool false,.int .i64 0,.slice none 0 0,.slice none 0 0,.int .i64 0,.int .i64 0,.int .i64 0,.slice none 0 0] 93)) (by simp only[execOp];go_simp) ⟨_,rfl,C.alloc C.size _,?_,zkn (zab _ _)⟩;show zrp _ _ _ _ _ _ _ _ ((a.put (some 2) _).eval (.tmp 2)) _;rw[zax m A (by decide)];exact⟨_,_,rfl,C.size,rfl,heap_alloc_new _ _⟩
 ·intro a W m C d;have H5:a.eval (.tmp 18)=.agg (zbu (zfj j.disk j.fP j.fN) Q O M L none 0 none 0 none 0 none 0 none 0 none 0 none 0 none 0 none 0):=d 14 (by decide);obtain⟨T,Z,p2,E,H8,R⟩:∃(T:Nat) (Z:Array Value),a.eval (.tmp 2)=.pointer (some ⟨T,0,none⟩)∧w.heap.size≤T∧Z.size=57∧W.heap[T]?=some (.cells Z 93 (0,0)):=d 15 (by decide);show wpOps prog _ _ [16] a W;rw[wpOps_cons];refine zkk _ (.tmp 2) (.tmp 18) T (zbu (zfj j.disk j.fP j.fN) Q O M L none 0 none 0 none 0 none 0 none 0 none 0 none 0 none 0 none 0) rfl rfl rfl p2 H5 _ Z R (z25 _ _ _ _ _ _ _ _ _ _ _ _ _ _ _ _ _ _ _ _ _ _ _) H8 (zh1 _ _ _ _ _ _ _ _ _ _ _ _ _ _ _ _ _ _ _ _ _ _ _) ?_;have G5:a.tmps.size=42:=m.size.trans A;have f0:a.eval (.tmp 0)=.pointer (some ⟨B,0,none⟩):=(m.other 0 rfl).trans v0;have l:a=⟨#[_,_,_,_,_,_,_,_,_,_,_,_,_,_,_,_,_,_,_,_,_,_,_,_,_,_,_,_,_,_,_,_,_,_,_,_,_,_,_,_,_,_],[]⟩:=zci a 42 G5 (m.defers.trans E7);dsimp only at l;rw[f0,p2]at l;show KK a _;exact(congrArg (fun x=>KK x _) l).mpr (C8.o (fun k=>a.eval (.tmp k)) _ T Z W R rfl E C)
theorem SegZ.ext{w w':World}{a:Option Addr}{l:List RZ}(h:SegZ w a l)(e:Ext w w'):SegZ w' a l:=by
 rcases h with h|⟨b,off,rfl,hlt,hc⟩
 ·exact .inl h
 ·exact .inr ⟨b,off,rfl,Nat.lt_of_lt_of_le hlt e.size,fun j u hj=>e.cell _ _ _ (hc j u hj)⟩
def znx (B:Nat)(bs:Nat)(j:Jn)(sa:Option Addr)(sc:Nat)(sb:Option Addr)(sd:Nat)(se:Option Addr)(sf:Nat)(ca:Option Addr)(cc:Nat)(q:List RZ):Nat→Value→World→Prop
 |0,v,_=>v=.pointer (some ⟨B,0,none⟩)
 |1,v,_=>v=.pointer (some ⟨B,0,none⟩)
 |2,v,_=>v=.pointer (some ⟨B,0,none⟩)
 |3,v,_=>v=.pointer (some ⟨B,51,none⟩)
 |4,v,_=>v=.slice ca j.done.length cc
 |5,v,_=>v=.agg #[.int .i64 j.sealed.seq,.slice sa j.sealed.info.length sc,.slice sb j.sealed.data.length sd,.slice se j.sealed.rev.length sf,.bool j.sealed.h0.on,.int .i64 j.sealed.h0.left,.bool j.sealed.h1.on,.int .i64 j.sealed.h1.left,.bool j.sealed.h2.on,.int .i64 j.sealed.h2.left]
 |6,v,w=>∃b1:Nat,v=.slice (some ⟨b1,0,none⟩) 1 1∧bs≤b1∧w.heap[b1]?=some (.cells #[.int .i64 j.sealed.seq,.slice sa j.sealed.info.length sc,.slice sb j.sealed.data.length sd,.slice se j.sealed.rev.length sf,.bool j.sealed.h0.on,.int .i64 j.sealed.h0.left,.bool j.sealed.h1.on,.int .i64 j.sealed.h1.left,.bool j.sealed.h2.on,.int .i64 j.sealed.h2.left] 40 (0,0))
 |7,v,w=>∃b1 b2:Nat,v=.slice (some ⟨b2,0,none⟩) 2 2∧bs≤b2∧w.heap[b2]?=some (.cells #[.slice ca j.done.length cc,.slice (some ⟨b1,0,none⟩) 1 1] 88 (0,0))∧w.heap[b1]?=some (.cells #[.int .i64 j.sealed.seq,.slice sa j.sealed.info.length sc,.slice sb j.sealed.data.length sd,.slice se j.sealed.rev.length sf,.bool j.sealed.h0.on,.int .i64 j.sealed.h0.left,.bool j.sealed.h1.on,.int .i64 j.sealed.h1.left,.bool j.sealed.h2.on,.int .i64 j.sealed.h2.left] 40 (0,0))
 |8,v,w=>w.ownsRow bs 40 10 v (q.length+1) (cellsZ (q++[(⟨sa,sc,sb,sd,se,sf,j.sealed⟩:RZ)]))
 |9,v,_=>v=.pointer (some ⟨B,0,none⟩)
 |10,v,_=>v=.pointer (some ⟨B,51,none⟩)
 |_,_,_=>True
theorem zhh{B:Nat}{bs:Nat}{j:Jn}{sa:Option Addr}{sc:Nat}{sb:Option Addr}{sd:Nat}{se:Option Addr}{sf:Nat}{ca:Option Addr}{cc:Nat}{q:List RZ}{w w':World}(hb:Below w.heap.size w w'){i:Nat}:∀kk uu,kk≠i→znx B bs j sa sc sb sd se sf ca cc q kk uu w→znx B bs j sa sc sb sd se sf ca cc q kk uu w':=by
 intro kk uu _ h
 match kk,h with
 |0,h|1,h|2,h|3,h|4,h|5,h=>exact h
 |6,⟨b1,h1,h2,h3⟩=>exact⟨b1,h1,h2,zad hb (Array.getElem?_eq_some_iff.1 h3).1 h3⟩
 |7,⟨b1,b2,h1,h2,h3,h4⟩=>exact⟨b1,b2,h1,h2,zad hb (Array.getElem?_eq_some_iff.1 h3).1 h3,zad hb (Array.getElem?_eq_some_iff.1 h4).1 h4⟩
 |8,h=>exact zah h hb
 |9,h|10,h=>exact h
 |_+11,_=>exact trivial
theorem zrs(B:Nat)(X:List Nat)(j:Jn)(w:World)(h:JAt w B X j)(hX:∀x∈X,x<w.heap.size)(hn:j.done.length≤900):
  Calls prog 110 #[.pointer (some ⟨B,0,none⟩)] w (zdj w B X (zfi j)):=by
 have HJ:=zaa h;have L1:=h.lt;have D3:=h.1;have HX:=zaa hX;have HN:=zaa hn;have HE:Hid (zfi j=({j with sealed:=zc5 0,done:=j.done++[j.sealed],last:=j.sealed.seq},⟨0,j.sealed.seq,⟨#[]⟩⟩)):=rfl;obtain⟨_,da,dc,db,dd,na,nc,nb,nd,ne,nf,M,J,K,N,I,L,S,Z,fa,fc,ta,tc,D,hr⟩:=id h;have J3:w.cell? ⟨B,41,none⟩=some (.int .i64 j.sealed.seq):=zak D 41;have D8:w.frozen? ⟨B,41,none⟩=false:=frozen_of_row w _ _ _ _ D;have I6:w.cell? ⟨B,42,none⟩=some (.slice M j.sealed.info.length J):=zak D 42;have E3:w.frozen? ⟨B,42,none⟩=false:=frozen_of_row w _ _ _ _ D;have F1:w.cell? ⟨B,43,none⟩=some (.slice K j.sealed.data.length N):=zak D 43;have D5:w.frozen? ⟨B,43,none⟩=false:=frozen_of_row w _ _ _ _ D;have E7:w.cell? ⟨B,44,none⟩=some (.slice I j.sealed.rev.length L):=zak D 44;have D6:w.frozen? ⟨B,44,none⟩=false:=frozen_of_row w _ _ _ _ D;have F6:w.cell? ⟨B,45,none⟩=some (.bool j.sealed.h0.on):=zak D 45;have E4:w.frozen? ⟨B,45,none⟩=false:=frozen_of_row w _ _ _ _ D;have I7:w.cell? ⟨B,46,none⟩=some (.int .i64 j.sealed.h0.left):=zak D 46;have E6:w.frozen? ⟨B,46,none⟩=false:=frozen_of_row w _ _ _ _ D;have G7:w.cell? ⟨B,47,none⟩=some (.bool j.sealed.h1.on):=zak D 47;have D7:w.frozen? ⟨B,47,none⟩=false:=frozen_of_row w _ _ _ _ D;have E9:w.cell? ⟨B,48,none⟩=some (.int .i64 j.sealed.h1.left):=zak D 48;have E0:w.frozen? ⟨B,48,none⟩=false:=frozen_of_row w _ _ _ _ D;have I9:w.cell? ⟨B,49,none⟩=some (.bool j.sealed.h2.on):=zak D 49;have E2:w.frozen? ⟨B,49,none⟩=false:=frozen_of_row w _ _ _ _ D;have G6:w.cell? ⟨B,50,none⟩=some (.int .i64 j.sealed.h2.left):=zak D 50;have E5:w.frozen? ⟨B,50,none⟩=false:=frozen_of_row w _ _ _ _ D;have A6:=zaa hr.2.2.1;clear h hX hn D hr;have L0:¬w.heap.size=B:=by omega
 have E1:¬w.heap.size+1=B:=by omega
 have B0:w.heap.size≠B:=by omega
 go_enter func110,ntmps110;go_wp2;rename_i KK A8;clear J3 D8 I6 E3 F1 D5 E7 D6 F6 E4 I7 E6 G7 D7 E9 E0 I9 E2 G6 E5;obtain⟨c,n⟩:∃c,c=((((((((((w.setCell ⟨B,41,none⟩ (.int .i64 0)).setCell ⟨B,42,none⟩ (.slice none 0 0)).setCell ⟨B,43,none⟩ (.slice none 0 0)).setCell ⟨B,44,none⟩ (.slice none 0 0)).setCell ⟨B,45,none⟩ (.bool false)).setCell ⟨B,46,none⟩ (.int .i64 0)).setCell ⟨B,47,none⟩ (.bool false)).setCell ⟨B,48,none⟩ (.int .i64 0)).setCell ⟨B,49,none⟩ (.bool false)).setCell ⟨B,50,none⟩ (.int .i64 0)):=⟨_,rfl⟩;rw[←n];have A2:c.heap.size=w.heap.size:=by rw[n];simp[World.setCell]
 have A7:ButL [B] w.heap.size w c:=by rw[n];exact((((((((((ButL.refl _ _ w).set (.inl (by simp)) 41 _).set (.inl (by simp)) 42 _).set (.inl (by simp)) 43 _).set (.inl (by simp)) 44 _).set (.inl (by simp)) 45 _).set (.inl (by simp)) 46 _).set (.inl (by simp)) 47 _).set (.inl (by simp)) 48 _).set (.inl (by simp)) 49 _).set (.inl (by simp)) 50 _
 have C7:Hid (JAt c B X ({j with sealed:=zc5 0}:Jn)):=by rw[n];exact HJ.o.putSealed (t:=zc5 0) (zq6 _ _)
 have B2:=zaa (A6.o.ext (Ext.butL (A7.wider (Y:=X) (by simp[D3]))));obtain⟨C,b⟩:∃C,C=(c.alloc (.cells #[.int .i64 0,.int .i64 0,.string ⟨#[]⟩] 31)).alloc (.cells #[.int .i64 j.sealed.seq,.slice M j.sealed.info.length J,.slice K j.sealed.data.length N,.slice I j.sealed.rev.length L,.bool j.sealed.h0.on,.int .i64 j.sealed.h0.left,.bool j.sealed.h1.on,.int .i64 j.sealed.h1.left,.bool j.sealed.h2.on,.int .i64 j.sealed.h2.left] 40):=⟨_,rfl⟩;rw[←b];have m:Below c.heap.size c C:=by rw[b];exact zae (zab _ _) (zab _ _)
 have A3:Hid (JAt C B (w.heap.size::X) ({j with sealed:=zc5 0}:Jn)):=C7.o.more m (by omega);have G8:Hid (IsTx (zas C (w.heap.size::X)) (.agg #[.int .i64 j.sealed.seq,.slice M j.sealed.info.length J,.slice K j.sealed.data.length N,.slice I j.sealed.rev.length L,.bool j.sealed.h0.on,.int .i64 j.sealed.h0.left,.bool j.sealed.h1.on,.int .i64 j.sealed.h1.left,.bool j.sealed.h2.on,.int .i64 j.sealed.h2.left]) j.sealed):=B2.o.ext (Ext.newL m (by omega));have A1:Hid (ButL [B] w.heap.size w C):=A7.trans (Y:=[]) (ButL.of_below m) (by omega) (by simp);have B5:(c.alloc (.cells #[.int .i64 0,.int .i64 0,.string ⟨#[]⟩] 31)).heap.size=w.heap.size+1:=by simp[A2]
 have J6:C.heap.size=w.heap.size+2:=by rw[b];simp[A2]
 have B3:Hid (C.heap[w.heap.size]?=some (.cells #[.int .i64 0,.int .i64 0,.string ⟨#[]⟩] 31 (0,0))):=by rw[b];exact zad (zab _ _) (by omega) (by rw[←A2];exact heap_alloc_new _ _)
 have B6:Hid (C.heap[w.heap.size+1]?=some (.cells #[.int .i64 j.sealed.seq,.slice M j.sealed.info.length J,.slice K j.sealed.data.length N,.slice I j.sealed.rev.length L,.bool j.sealed.h0.on,.int .i64 j.sealed.h0.left,.bool j.sealed.h1.on,.int .i64 j.sealed.h1.left,.bool j.sealed.h2.on,.int .i64 j.sealed.h2.left] 40 (0,0))):=by rw[b,←B5];exact heap_alloc_new _ _
 clear n A7 C7 B2 b m B5 A2 A6
 have I0:Hid (∀x∈(w.heap.size::X),x<C.heap.size):=fun x hx=>by
  rcases List.mem_cons.1 hx with rfl|hx
  ·omega
  ·have:=HX.o x hx;omega
 obtain⟨_,L3,M1,K1,L2,K0,K6,K8,K2,K7,M2,L9,J7,L5,M3,K3,M4,S,Z,K4,K5,J9,L6,m1,mr⟩:=id A3.o;have H6:Hid (C.cell? ⟨B,51,none⟩=some (.slice S j.done.length Z)):=(zak m1 51).trans rfl;obtain⟨q,B8,C2,C5⟩:=mr.2.2.2.1.rz;have B1:=zaa B8;have G4:=zaa C2;have I4:=zaa C5;have D2:Hid (q.length=j.done.length):=by rw[Hid,←B1.o,List.length_map]
 have I3:Hid (q.length≤900):=by rw[Hid,D2.o];exact HN.o
 clear m1 mr B8 C2 C5;obtain⟨⟨y0,y1,y2,y3,y4,y5,y6,y7,y8,y9⟩,_⟩:=zaj B6.o;have Q0:=zaa y0;have Q1:=zaa y1;have Q2:=zaa y2;have Q3:=zaa y3;have Q4:=zaa y4;have Q5:=zaa y5;have Q6:=zaa y6;have Q7:=zaa y7;have Q8:=zaa y8;have Q9:=zaa y9;clear y0 y1 y2 y3 y4 y5 y6 y7 y8 y9;have I1:B<C.heap.size:=by omega
 have O:w.heap.size+1<C.heap.size:=by omega
 have H8:Hid (∀{w':World} {F U:Nat},Below C.heap.size C w'→w'.heap[U]?=some (.cells #[.slice S j.done.length Z,.slice (some ⟨F,0,none⟩) 1 1] 88 (0,0))→w'.heap[F]?=some (.cells #[.int .i64 j.sealed.seq,.slice M j.sealed.info.length J,.slice K j.sealed.data.length N,.slice I j.sealed.rev.length L,.bool j.sealed.h0.on,.int .i64 j.sealed.h0.left,.bool j.sealed.h1.on,.int .i64 j.sealed.h1.left,.bool j.sealed.h2.on,.int .i64 j.sealed.h2.left] 40 (0,0))→z5m w' U [(S,Z,q),(some ⟨F,0,none⟩,1,[(⟨M,J,K,N,I,L,j.sealed⟩:RZ)])]):=by
  intro w' F U hb h2 h3;refine⟨(Array.getElem?_eq_some_iff.1 h2).1,fun i x hx=>?_⟩
  match i,hx with
  |0,hx=>
   cases hx;refine⟨?_,(G4.o.ext (Ext.seenL C _)).below hb⟩;rw[D2.o];exact(cell_of_row w' _ 0 _ _ _ h2).trans rfl
  |1,hx=>
   cases hx;refine⟨(cell_of_row w' _ 1 _ _ _ h2).trans rfl,.inr ⟨F,0,rfl,(Array.getElem?_eq_some_iff.1 h3).1,fun k u hu=>?_⟩⟩;rw[Nat.zero_add,cell_of_row w' _ k _ _ _ h3];rw[←hu];simp[cellsZ,RZ.cells]
  |i+2,hx=>simp at hx
 have A9:∀(g:Nat→Value) (Q:World),JAt Q B (w.heap.size::X) ({j with sealed:=zc5 0,done:=j.done++[j.sealed]}:Jn)→ButL [B] C.heap.size C Q→KK ⟨#[.pointer (some ⟨B,0,none⟩),g 1,.pointer (some ⟨w.heap.size,0,none⟩),.pointer (some ⟨w.heap.size+1,0,none⟩),g 4,g 5,g 6,g 7,g 8,g 9,g 10,g 11,g 12,g 13,g 14,g 15,g 16,g 17,g 18,g 19,g 20,g 21,g 22,g 23,g 24,g 25,g 26,g 27,g 28,g 29,g 30],[]⟩ Q:=by
  intro g Q D4 r;apply A8;clear A8;have D1:=zaa D4;have H1:Hid (ButL [B] w.heap.size w Q):=A1.o.trans r A1.o.size (by simp);have C6:Hid (Q.heap[w.heap.size]?=some (.cells #[.int .i64 0,.int .i64 0,.string ⟨#[]⟩] 31 (0,0))):=(r.block _ (by omega) (by simpa using B0)).trans B3.o;have J2:Hid (Q.heap[w.heap.size+1]?=some (.cells #[.int .i64 j.sealed.seq,.slice M j.sealed.info.length J,.slice K j.sealed.data.length N,.slice I j.sealed.rev.length L,.bool j.sealed.h0.on,.int .i64 j.sealed.h0.left,.bool j.sealed.h1.on,.int .i64 j.sealed.h1.left,.bool j.sealed.h2.on,.int .i64 j.sealed.h2.left] 40 (0,0))):=(r.block _ (by omega) (by simpa using E1)).trans B6.o;have L8:C.heap.size≤Q.heap.size:=r.size;have M0:B<Q.heap.size:=by omega
  clear D4 r;obtain⟨_,G1,F8,J0,I8,I5,F7,H4,G9,G2,G0,G5,H7,F0,H5,F9,F3,H9,G3,F4,H0,I2,F5,s,_⟩:=id D1.o;obtain⟨v5,c5⟩:∃v,Q.cell? ⟨B,5,none⟩=some v:=⟨_,(zak s 5).trans rfl⟩;have L4:Q.frozen? ⟨B,5,none⟩=false:=frozen_of_row Q _ _ _ _ s;clear s;obtain⟨⟨q0,_⟩,_⟩:=zaj J2.o;obtain⟨⟨y0,y1,y2⟩,yf⟩:=zbo C6.o;go_wp2;obtain⟨W7,A4⟩:∃W7,W7=Q.setCell ⟨B,5,none⟩ (.int .i64 j.sealed.seq):=⟨_,rfl⟩;rw[←A4];have B3:Hid (W7.heap[w.heap.size]?=some (.cells #[.int .i64 0,.int .i64 0,.string ⟨#[]⟩] 31 (0,0))):=by rw[A4];exact(Below.heap_setCell _ _ _ _ B0).trans C6.o
  have A3:Hid (JAt W7 B (w.heap.size::X) {j with sealed:=zc5 0,done:=j.done++[j.sealed],last:=j.sealed.seq}):=by rw[A4];exact D1.o.putLast _
  have A1:Hid (ButL [B] w.heap.size w W7):=by rw[A4];exact H1.o.set (.inl (by simp)) 5 _
  obtain⟨W,hW⟩:∃W,W=(((W7.setCell ⟨w.heap.size,0,none⟩ (.int .i64 0)).setCell ⟨w.heap.size,1,none⟩ (.int .i64 j.sealed.seq)).setCell ⟨w.heap.size,2,none⟩ (.string ⟨#[]⟩)):=⟨_,rfl⟩;have hX:=zgf B3.o (.int .i64 0) (.int .i64 j.sealed.seq) (.string ⟨#[]⟩);rw[←hW]at hX⊢;obtain⟨⟨u0,u1,u2⟩,_⟩:=zbo hX;refine bodyPost_ret (v:=.agg #[.int .i64 0,.int .i64 j.sealed.seq,.string ⟨#[]⟩]) (by simp[results,results110,go_sem,u0,u1,u2]) rfl ⟨by rw[HE.o];rfl,?_,?_⟩
  ·rw[HE.o,hW];exact zw4 A3.o B0 D3 _ _ _
  ·rw[hW];exact((A1.o.set (.inr (by omega)) 0 _).set (.inr (by omega)) 1 _).set (.inr (by omega)) 2 _
 have B4:=zaa A9;clear A9 A8;refine(show∀A0:Act,A0=_→Code.wp prog _ _ A0 _ from fun A0 hA0=>?_) _ rfl;have E:A0.tmps.size=31:=by rw[hA0];rfl
 have F2:A0.defers=[]:=by rw[hA0]
 have v0:A0.eval (.tmp 0)=.pointer (some ⟨B,0,none⟩):=by rw[hA0];rfl
 have v2:A0.eval (.tmp 2)=.pointer (some ⟨w.heap.size,0,none⟩):=by rw[hA0];rfl
 have v3:A0.eval (.tmp 3)=.pointer (some ⟨w.heap.size+1,0,none⟩):=by rw[hA0];rfl
 clear hA0;refine zbi 11 (fun w'=>Below C.heap.size C w') [12,13,14,15,16,17,18,19,20,21,22] (znx B C.heap.size j M J K N I L S Z q) (by kernel_rfl) (by kernel_rfl) (by kernel_rfl) (by kernel_rfl) (by decide) ((Below.refl _ _).drew) ⟨?_,?_,?_,?_,?_,?_,?_,?_,?_,?_,?_,trivial⟩ ?_
 ·exact zbh v0 E (fun _=>rfl) fun ρ w' A z=>by simp only[execOp];go_simp
 ·exact zbh v0 E (fun _=>rfl) fun ρ w' A z=>by simp only[execOp];go_simp
 ·exact zam 1 13 E (fun _ _ h=>h) (fun _=>rfl) fun ρ w' A p=>by simp only[execOp];go_simp
 ·exact zam 2 14 E (fun _ _ h=>h) (fun _=>rfl) fun ρ w' A p=>by simp only[execOp];go_simp
 ·exact zam 3 15 E (fun _ _ h=>h) (fun _=>rfl) fun ρ w' A p=>by have c0:w'.cell? ⟨B,51,none⟩=some (.slice S j.done.length Z):=zac A I1 H6.o;simp only[execOp];go_simp
 ·exact zbh v3 E (fun _=>rfl) fun ρ w' A z=>by have c0:w'.cell? ⟨w.heap.size+1,0,none⟩=some (.int .i64 j.sealed.seq):=zac A O Q0.o;have c1:w'.cell? ⟨w.heap.size+1,1,none⟩=some (.slice M j.sealed.info.length J):=zac A O Q1.o;have c2:w'.cell? ⟨w.heap.size+1,2,none⟩=some (.slice K j.sealed.data.length N):=zac A O Q2.o;have c3:w'.cell? ⟨w.heap.size+1,3,none⟩=some (.slice I j.sealed.rev.length L):=zac A O Q3.o;have c4:w'.cell? ⟨w.heap.size+1,4,none⟩=some (.bool j.sealed.h0.on):=zac A O Q4.o;have c5:w'.cell? ⟨w.heap.size+1,5,none⟩=some (.int .i64 j.sealed.h0.left):=zac A O Q5.o;have c6:w'.cell? ⟨w.heap.size+1,6,none⟩=some (.bool j.sealed.h1.on):=zac A O Q6.o;have c7:w'.cell? ⟨w.heap.size+1,7,none⟩=some (.int .i64 j.sealed.h1.left):=zac A O Q7.o;have c8:w'.cell? ⟨w.heap.size+1,8,none⟩=some (.bool j.sealed.h2.on):=zac A O Q8.o;have c9:w'.cell? ⟨w.heap.size+1,9,none⟩=some (.int .i64 j.sealed.h2.left):=zac A O Q9.o;simp only[execOp];go_simp
 ·intro a w' R A d;have B7:a.eval (.tmp 17)=.agg #[.int .i64 j.sealed.seq,.slice M j.sealed.info.length J,.slice K j.sealed.data.length N,.slice I j.sealed.rev.length L,.bool j.sealed.h0.on,.int .i64 j.sealed.h0.left,.bool j.sealed.h1.on,.int .i64 j.sealed.h1.left,.bool j.sealed.h2.on,.int .i64 j.sealed.h2.left]:=d ⟨5,.data⟩ (by simp) rfl;refine zgj (.slice (some ⟨w'.heap.size,0,none⟩) 1 1) rfl rfl (w':=w'.alloc (.cells #[.int .i64 j.sealed.seq,.slice M j.sealed.info.length J,.slice K j.sealed.data.length N,.slice I j.sealed.rev.length L,.bool j.sealed.h0.on,.int .i64 j.sealed.h0.left,.bool j.sealed.h1.on,.int .i64 j.sealed.h1.left,.bool j.sealed.h2.on,.int .i64 j.sealed.h2.left] 40)) (by revert B7;generalize a.eval=ρ;intro B7;simp only[execOp];go_simp) ⟨_,rfl,A.alloc A.size _,?_,zhh (zab _ _)⟩;show znx _ _ _ _ _ _ _ _ _ _ _ _ _ ((a.put (some 18) _).eval (.tmp 18)) _;rw[zax R E (by decide)];exact⟨_,rfl,A.size,heap_alloc_new _ _⟩
 ·intro a w' R A d;have C0:a.eval (.tmp 16)=.slice S j.done.length Z:=d ⟨4,.data⟩ (by simp) rfl;obtain⟨F,C9,K9,A5⟩:∃F:Nat,a.eval (.tmp 18)=.slice (some ⟨F,0,none⟩) 1 1∧C.heap.size≤F∧w'.heap[F]?=some (.cells #[.int .i64 j.sealed.seq,.slice M j.sealed.info.length J,.slice K j.sealed.data.length N,.slice I j.sealed.rev.length L,.bool j.sealed.h0.on,.int .i64 j.sealed.h0.left,.bool j.sealed.h1.on,.int .i64 j.sealed.h1.left,.bool j.sealed.h2.on,.int .i64 j.sealed.h2.left] 40 (0,0)):=d ⟨6,.data⟩ (by simp) rfl;refine zgj (.slice (some ⟨w'.heap.size,0,none⟩) 2 2) rfl rfl (w':=w'.alloc (.cells #[.slice S j.done.length Z,.slice (some ⟨F,0,none⟩) 1 1] 88)) (by revert C0 C9;generalize a.eval=ρ;intro C0 C9;simp only[execOp];go_simp) ⟨_,rfl,A.alloc A.size _,?_,zhh (zab _ _)⟩;show znx _ _ _ _ _ _ _ _ _ _ _ _ _ ((a.put (some 19) _).eval (.tmp 19)) _;rw[zax R E (by decide)];exact⟨F,_,rfl,A.size,heap_alloc_new _ _,zad (zab _ _) (Array.getElem?_eq_some_iff.1 A5).1 A5⟩
 ·intro a w' R A d;obtain⟨F,U,B9,J5,J1,A5⟩:∃F U:Nat,a.eval (.tmp 19)=.slice (some ⟨U,0,none⟩) 2 2∧C.heap.size≤U∧w'.heap[U]?=some (.cells #[.slice S j.done.length Z,.slice (some ⟨F,0,none⟩) 1 1] 88 (0,0))∧w'.heap[F]?=some (.cells #[.int .i64 j.sealed.seq,.slice M j.sealed.info.length J,.slice K j.sealed.data.length N,.slice I j.sealed.rev.length L,.bool j.sealed.h0.on,.int .i64 j.sealed.h0.left,.bool j.sealed.h1.on,.int .i64 j.sealed.h1.left,.bool j.sealed.h2.on,.int .i64 j.sealed.h2.left] 40 (0,0)):=d ⟨7,.data⟩ (by simp) rfl;refine zby 141 #[.slice (some ⟨U,0,none⟩) 2 2] rfl rfl (by have pf:=Act.eval_func a 141;revert B9 pf;generalize a.eval=ρ;intro B9 pf;simp only[execOp];go_simp) _ (ztw U 2 2 [(S,Z,q),(some ⟨F,0,none⟩,1,[(⟨M,J,K,N,I,L,j.sealed⟩:RZ)])] w' rfl (by decide) (H8.o A J1 A5) (by have:=I3.o;simp[flatZ];omega)) ?_;rintro e w2 ⟨v',rfl,hO,hb⟩;refine⟨_,rfl,_,rfl,zae A hb,?_,zhh hb⟩;show znx _ _ _ _ _ _ _ _ _ _ _ _ _ ((a.put (some 20) _).eval (.tmp 20)) _;rw[zax R E (by decide)];have C8:=za8 hO A.size;simp only[flatZ,List.map_cons,List.map_nil,List.flatten_cons,List.flatten_nil,List.append_nil,List.length_append,List.length_cons,List.length_nil,Nat.zero_add]at C8;exact C8
 ·exact zam 0 12 E (fun _ _ h=>h) (fun _=>rfl) fun ρ w' A p=>by simp only[execOp];go_simp
 ·exact zam 9 21 E (fun _ _ h=>h) (fun _=>rfl) fun ρ w' A p=>by simp only[execOp];go_simp
 ·intro a W R A d;have E8:W.ownsRow C.heap.size 40 10 (a.eval (.tmp 20)) (q.length+1) (cellsZ (q++[(⟨M,J,K,N,I,L,j.sealed⟩:RZ)])):=d 8 (by decide);have C1:a.eval (.tmp 22)=.pointer (some ⟨B,51,none⟩):=d 10 (by decide);have H2:a.tmps.size=31:=R.size.trans E;have H3:=zhg (X:=(w.heap.size::X)) E8 I0.o
  obtain⟨ya,yc,hy,C3,_⟩:=SegTx.of_rz H3 (fun x hx=>by
   rcases List.mem_append.1 hx with h|h
   ·exact(I4.o x h).ext (Ext.freshL A)
   ·rw[List.mem_singleton.1 h];exact G8.o.ext (Ext.freshL A))
  rw[List.map_append,B1.o]at C3;have D9:(q++[(⟨M,J,K,N,I,L,j.sealed⟩:RZ)]).length=(j.done++[j.sealed]).length:=by rw[←B1.o];simp
  rw[D9]at hy;have C4:=A3.o.below A;obtain⟨_,G1,F8,J0,I8,I5,F7,H4,G9,G2,G0,G5,H7,F0,H5,F9,F3,H9,G3,F4,H0,I2,F5,s,_⟩:=id C4;obtain⟨J8,M5⟩:∃v,W.cell? ⟨B,51,none⟩=some v:=⟨_,(zak s 51).trans rfl⟩;have J4:W.frozen? ⟨B,51,none⟩=false:=frozen_of_row W _ _ _ _ s;clear s;show wpOps prog _ _ [11] a W;rw[wpOps_cons];refine zcw rfl rfl (w':=W.setCell ⟨B,51,none⟩ (.slice ya (j.done++[j.sealed]).length yc)) (by generalize (j.done++[j.sealed]).length=nn at *;revert hy C1;generalize a.eval=ρ;intro hy C1;simp only[execOp];go_simp) ?_;have f0:a.eval (.tmp 0)=.pointer (some ⟨B,0,none⟩):=(R.other 0 rfl).trans v0;have f2:a.eval (.tmp 2)=.pointer (some ⟨w.heap.size,0,none⟩):=(R.other 2 rfl).trans v2;have f3:a.eval (.tmp 3)=.pointer (some ⟨w.heap.size+1,0,none⟩):=(R.other 3 rfl).trans v3;have y:a=⟨#[_,_,_,_,_,_,_,_,_,_,_,_,_,_,_,_,_,_,_,_,_,_,_,_,_,_,_,_,_,_,_],[]⟩:=zci a 31 H2 (R.defers.trans F2);dsimp only at y;rw[f0,f2,f3]at y;show KK a _;exact(congrArg (fun x=>KK x _) y).mpr (B4.o (fun k=>a.eval (.tmp k)) _ (C4.putDone (l:=j.done++[j.sealed]) C3) ((ButL.of_below A).set (.inl (by simp)) 51 _))
theorem zty(B:Nat)(X:List Nat)(j:Jn)(w:World)(h:JAt w B X j)(hX:∀x∈X,x<w.heap.size)(hn:j.done.length≤900)(hf:j.fL.length≤maxLen)(hq:IntKind.i64.wrap (j.fN - 1)=j.fN - 1):
  Calls prog 74 #[.pointer (some ⟨B,0,none⟩)] w (zdj w B X (zbg j)):=by
 have d:=zaa h;have A4:=h.lt;have b:=h.1;have s:=zaa hX;have HN:=zaa hn;have HF:=zaa hf;have HQ:=zaa hq;obtain⟨_,da,dc,db,dd,na,nc,nb,nd,ne,nf,sa,sc,sb,sd,se,sf,ca,cc,fa,fc,ta,tc,h1,hr⟩:=id h;have Z:w.cell? ⟨B,55,none⟩=some (.int .i64 j.work):=zak h1 55;clear h hX hn hf hq h1 hr;have A7:¬w.heap.size=B:=by omega
 by_cases h6:j.work=6
 ·have U:Hid (zbg j=zfi j):=by rw[Hid,zbg,if_pos h6]
  rw[h6]at Z;clear h6;go_enter func74,ntmps74;go_wp2_with fail;obtain⟨C,A⟩:∃C,C=w.alloc (.cells #[.int .i64 0,.int .i64 0,.string ⟨#[]⟩] 31):=⟨_,rfl⟩;have L:Hid (JAt C B (w.heap.size::X) j):=by rw[A];exact d.o.more (zab _ _) (Nat.le_refl _)
  have E:Hid (ButL [B] w.heap.size w C):=by rw[A];exact ButL.of_below (zab _ _)
  have Q:Hid (C.heap[w.heap.size]?=some (.cells #[.int .i64 0,.int .i64 0,.string ⟨#[]⟩] 31 (0,0))):=by rw[A];exact heap_alloc_new _ _
  have m:C.heap.size=w.heap.size+1:=by rw[A];simp
  have I:w.heap.size<C.heap.size:=by omega
  have N:w.heap.size≠B:=by omega
  have a:Hid (∀x∈(w.heap.size::X),x<C.heap.size):=fun x hx=>by
   rcases List.mem_cons.1 hx with rfl|hx
   ·exact I
   ·have:=s.o x hx;omega
  rw[←A];clear A;refine(zrs B (w.heap.size::X) j C L.o a.o HN.o).mono ?_;rintro e O ⟨rfl,R,J⟩;have F:Hid (O.heap[w.heap.size]?=some (.cells #[.int .i64 0,.int .i64 0,.string ⟨#[]⟩] 31 (0,0))):=(J.block _ (by omega) (by simpa using N)).trans Q.o;have K:=zaa R;have M:Hid (ButL [B] w.heap.size w O):=E.o.trans J E.o.size (by simp);have u:C.heap.size≤O.heap.size:=J.size;clear R J;have y:Hid (zbg j=((zfi j).1,⟨0,j.sealed.seq,⟨#[]⟩⟩)):=U.o;rw[show vRp (zfi j).2=.agg #[.int .i64 0,.int .i64 j.sealed.seq,.string ⟨#[]⟩] from rfl];obtain⟨⟨q,n,p⟩,r⟩:=zbo F.o;go_wp2;exact zbe y.o F.o K.o M.o N b fun W u0 u1 u2=>by simp[results,results74,go_sem,u0,u1,u2]
 ·have b6:(j.work==6)=false:=by simpa using h6
  by_cases h7:j.work=7
  ·have U:Hid (zbg j=({j with done:=[],ru:=0},zaq 0)):=by rw[Hid,zbg,if_neg h6,if_pos h7]
   rw[h7]at Z;clear h6 h7 b6
   have z:(∃v,w.cell? ⟨B,51,none⟩=some v)∧(∃v,w.cell? ⟨B,4,none⟩=some v)∧w.frozen? ⟨B,51,none⟩=false∧w.frozen? ⟨B,4,none⟩=false:=by
    obtain⟨_,da,dc,db,dd,na,nc,nb,nd,ne,nf,sa,sc,sb,sd,se,sf,ca,cc,fa,fc,ta,tc,i,_⟩:=d.o;exact⟨⟨_,(zak i 51).trans rfl⟩,⟨_,(zak i 4).trans rfl⟩,frozen_of_row w _ _ _ _ i,frozen_of_row w _ _ _ _ i⟩
   obtain⟨⟨A6,A3⟩,⟨v4,c4⟩,A0,f4⟩:=z;go_enter func74,ntmps74;go_wp2_with fail;obtain⟨c,S⟩:∃c,c=(w.setCell ⟨B,51,none⟩ (.slice none 0 0)).setCell ⟨B,4,none⟩ (.int .i64 0):=⟨_,rfl⟩;rw[←S];have k:c.heap.size=w.heap.size:=by rw[S];simp[World.setCell]
   have A1:Hid (JAt c B X {j with done:=[],ru:=0}):=by rw[S];exact(d.o.putDone (l:=[]) (.inl rfl)).putUsed 0
   have A2:Hid (ButL [B] w.heap.size w c):=by rw[S];exact((ButL.refl _ _ _).set (.inl (by simp)) 51 _).set (.inl (by simp)) 4 _
   clear S A3 c4 A0 f4 Z;obtain⟨C,A⟩:∃C,C=c.alloc (.cells #[.int .i64 0,.int .i64 0,.string ⟨#[]⟩] 31):=⟨_,rfl⟩;have L:Hid (JAt C B (w.heap.size::X) {j with done:=[],ru:=0}):=by rw[A];exact A1.o.more (zab _ _) (by omega)
   have E:Hid (ButL [B] w.heap.size w C):=by rw[A];exact A2.o.trans (Y:=[]) (ButL.of_below (zab _ _)) (by omega) (by simp)
   have Q:Hid (C.heap[w.heap.size]?=some (.cells #[.int .i64 0,.int .i64 0,.string ⟨#[]⟩] 31 (0,0))):=by rw[A,←k];exact heap_alloc_new _ _
   have I:w.heap.size<C.heap.size:=by rw[A];simp[k]
   have N:w.heap.size≠B:=by omega
   rw[←A];clear A;refine(zat 0 _).mono ?_;rintro e O ⟨rfl,D⟩;have F:=zaa (zad D I Q.o);have K:=zaa (L.o.below D);have M:=zaa (E.o.trans (Y:=[]) (ButL.of_below D) E.o.size (by simp));clear D;obtain⟨⟨q,n,p⟩,r⟩:=zbo F.o;go_wp2;exact zbe U.o F.o K.o M.o N b fun W u0 u1 u2=>by simp[results,results74,go_sem,u0,u1,u2]
  ·have b7:(j.work==7)=false:=by simpa using h7
   by_cases h11:j.work=11
   ·have U:Hid (zbg j=(zja j,zaq 0)):=by rw[Hid,zbg,if_neg h6,if_neg h7,if_pos h11]
    rw[h11]at Z;clear h6 h7 h11 b6 b7;go_enter func74,ntmps74;go_wp2_with fail;obtain⟨C,A⟩:∃C,C=w.alloc (.cells #[.int .i64 0,.int .i64 0,.string ⟨#[]⟩] 31):=⟨_,rfl⟩;have L:Hid (JAt C B (w.heap.size::X) j):=by rw[A];exact d.o.more (zab _ _) (Nat.le_refl _)
    have E:Hid (ButL [B] w.heap.size w C):=by rw[A];exact ButL.of_below (zab _ _)
    have Q:Hid (C.heap[w.heap.size]?=some (.cells #[.int .i64 0,.int .i64 0,.string ⟨#[]⟩] 31 (0,0))):=by rw[A];exact heap_alloc_new _ _
    have m:C.heap.size=w.heap.size+1:=by rw[A];simp
    have I:w.heap.size<C.heap.size:=by omega
    have N:w.heap.size≠B:=by omega
    have a:Hid (∀x∈(w.heap.size::X),x<C.heap.size):=fun x hx=>by
     rcases List.mem_cons.1 hx with rfl|hx
     ·exact I
     ·have:=s.o x hx;omega
    rw[←A];clear A;refine(zxo B (w.heap.size::X) j C L.o a.o HF.o HQ.o).mono ?_;rintro e O ⟨⟨v,rfl⟩,R,J⟩;have F:Hid (O.heap[w.heap.size]?=some (.cells #[.int .i64 0,.int .i64 0,.string ⟨#[]⟩] 31 (0,0))):=(J.block _ (by omega) (by simpa using N)).trans Q.o;have K:=zaa R;have M:Hid (ButL [B] w.heap.size w O):=E.o.trans J E.o.size (by simp);have u:C.heap.size≤O.heap.size:=J.size;clear R J;have L:=K;have E:=M;have Q:=F;have I:w.heap.size<O.heap.size:=by omega
    go_wp2_with fail;refine(zat 0 _).mono ?_;rintro e w3 ⟨rfl,D⟩;have F:=zaa (zad D I Q.o);have K:=zaa (L.o.below D);have M:=zaa (E.o.trans (Y:=[]) (ButL.of_below D) E.o.size (by simp));clear D;obtain⟨⟨q,n,p⟩,r⟩:=zbo F.o;go_wp2;exact zbe U.o F.o K.o M.o N b fun W u0 u1 u2=>by simp[results,results74,go_sem,u0,u1,u2]
   ·have U:Hid (zbg j=(j,zaq 0)):=by rw[Hid,zbg,if_neg h6,if_neg h7,if_neg h11]
    have A5:(j.work==11)=false:=by simpa using h11
    clear h6 h7 h11;go_enter func74,ntmps74;go_wp2_with fail;obtain⟨C,A⟩:∃C,C=w.alloc (.cells #[.int .i64 0,.int .i64 0,.string ⟨#[]⟩] 31):=⟨_,rfl⟩;have L:Hid (JAt C B (w.heap.size::X) j):=by rw[A];exact d.o.more (zab _ _) (Nat.le_refl _)
    have E:Hid (ButL [B] w.heap.size w C):=by rw[A];exact ButL.of_below (zab _ _)
    have Q:Hid (C.heap[w.heap.size]?=some (.cells #[.int .i64 0,.int .i64 0,.string ⟨#[]⟩] 31 (0,0))):=by rw[A];exact heap_alloc_new _ _
    have m:C.heap.size=w.heap.size+1:=by rw[A];simp
    have I:w.heap.size<C.heap.size:=by omega
    have N:w.heap.size≠B:=by omega
    have a:Hid (∀x∈(w.heap.size::X),x<C.heap.size):=fun x hx=>by
     rcases List.mem_cons.1 hx with rfl|hx
     ·exact I
     ·have:=s.o x hx;omega
    rw[←A];clear A;refine(zat 0 _).mono ?_;rintro e O ⟨rfl,D⟩;have F:=zaa (zad D I Q.o);have K:=zaa (L.o.below D);have M:=zaa (E.o.trans (Y:=[]) (ButL.of_below D) E.o.size (by simp));clear D;obtain⟨⟨q,n,p⟩,r⟩:=zbo F.o;go_wp2;exact zbe U.o F.o K.o M.o N b fun W u0 u1 u2=>by simp[results,results74,go_sem,u0,u1,u2]
