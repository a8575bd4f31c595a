/-
  
-/
import Derived.Test.YtjnpndfpajjihacGreatGrTopOrdered40
import Derived.Great.BuildSlice
import Derived.Test.YtjnpndfpajjihacGreatXConcat
set_option maxRecDepth 100000
set_option maxHeartbeats 40000000
namespace Go.Proofs.YtjnpndfpajjihacGreat
open Go.Proofs.Tryz
open Go.RowKit
theorem z0i:∃f,prog.underlying 93=some (.struct f):=by
 have h:(match prog.underlying 93 with|some (.struct _)=>true|_=>false)=true:=by kernel_rfl
 cases hq:prog.underlying 93 with
 |none=>rw[hq]at h;cases h
 |some d=>cases d<;>first|exact⟨_,rfl⟩|(rw[hq]at h;cases h)
theorem zru(d:Dk)(da:Option Addr)(dc:Nat)(db:Option Addr)(dd:Nat)(p q:Int)(w:World)(hq:IntKind.i64.wrap (q - 1)=q - 1):
  Calls prog 71 #[.agg #[.slice da d.safe.length dc,.slice db d.wr.length dd],.int .i64 p,.int .i64 q] w fun e w'=>e=.returned (.agg (zbs (zfe d p q) da dc db dd none 0 none 0 none 0 none 0 none 0 none 0 none 0 none 0 none 0))∧Below w.heap.size w w':=by
 generalize hn1:d.safe.length=n1;generalize hn2:d.wr.length=n2;obtain⟨C,B⟩:∃C,C=zbs (zfe d p q) da dc db dd none 0 none 0 none 0 none 0 none 0 none 0 none 0 none 0 none 0:=⟨_,rfl⟩;rw[←B];have A:=zab B;have I:=zab hn1;have J:=zab hn2;clear B hn1 hn2;have E:∀o,(w.alloc o).heap.size=w.heap.size+1:=fun o=>by simp
 have F:=zab E;clear E;go_enter func71,ntmps71
 repeat (first|(refine wpList_store_rowTo rfl _ _ _ rfl rfl (w.heap.size+1) C rfl (by rw[A.o,←I.o,←J.o];rfl) _ _ (by rw[←F.o _];exact heap_alloc_new _ _) (by rw[A.o];kernel_rfl) (by rw[A.o];kernel_rfl) (by rw[A.o];kernel_rfl) ?_)|go_step)
 obtain⟨fs,D⟩:=z0i;refine bodyPost_ret (results_cell_row rfl _ _ (w.heap.size+1) _ C _ _ rfl (setRow_heap _ _ _ _ _ _ (by rw[←F.o _];exact heap_alloc_new _ _)) D rfl (by rw[A.o];kernel_rfl)) rfl ⟨rfl,?_⟩;exact((ButL.of_below (X:=[]) (zae (zaa _ _) (zaa _ _))).setRow (.inr (by omega)) C).below
theorem JAt.but{w w':World}{B:Nat}{X Y:List Nat}{j:Jn}(h:JAt w B X j)(hb:ButL Y w.heap.size w w')(hY:∀y∈Y,y∈X)(hn:B∉Y):JAt w' B X j:=by
 obtain⟨U,d,c,b,K,Z,E,M,J,ne,L,a,O,N,k,I,D,C,S,i,R,e,Q,A,F⟩:=h;exact⟨U,d,c,b,K,Z,E,M,J,ne,L,a,O,N,k,I,D,C,S,i,R,e,Q,(hb.block B (Array.getElem?_eq_some_iff.1 A).1 hn).trans A,F.ext (Ext.butL (hb.wider hY))⟩
theorem JAt.roleEq{w:World}{B:Nat}{X:List Nat}{j:Jn}(h:JAt w B X j)(f:Nat→Int)(hf:∀k,k<12→j.role k=f k):JAt w B X {j with role:=f}:=by
 obtain⟨l,Z,Y,U,I,R,D,K,F,ne,J,S,M,L,c,E,C,A,Q,b,O,a,N,i,d⟩:=h;refine⟨l,Z,Y,U,I,R,D,K,F,ne,J,S,M,L,c,E,C,A,Q,b,O,a,N,?_,d⟩
 have e:zbs {j with role:=f} Z Y U I R D K F ne J S M L c E C A Q b O a N=zbs j Z Y U I R D K F ne J S M L c E C A Q b O a N:=by
  simp only[zbs,hf 0 (by decide),hf 1 (by decide),hf 2 (by decide),hf 3 (by decide),hf 4 (by decide),hf 5 (by decide),hf 6 (by decide),hf 7 (by decide),hf 8 (by decide),hf 9 (by decide),hf 10 (by decide),hf 11 (by decide)]
 rw[e];exact i
def zrv (B:Nat)(bs:Nat)(j:Jn)(da:Option Addr)(dc:Nat)(db:Option Addr)(dd:Nat):Nat→Value→World→Prop
 |0,v,_=>v=.pointer (some ⟨B,0,none⟩)
 |1,v,_=>v=.pointer (some ⟨B,0,none⟩)
 |2,v,_=>v=.pointer (some ⟨B,1,none⟩)
 |3,v,_=>v=.agg #[.slice da j.disk.safe.length dc,.slice db j.disk.wr.length dd]
 |4,v,_=>v=.pointer (some ⟨B,0,none⟩)
 |5,v,_=>v=.pointer (some ⟨B,0,none⟩)
 |6,v,_=>v=.pointer (some ⟨B,52,none⟩)
 |7,v,_=>v=.pointer (some ⟨B,54,none⟩)
 |8,v,_=>v=.int .i64 j.fP
 |9,v,_=>v=.pointer (some ⟨B,0,none⟩)
 |10,v,_=>v=.pointer (some ⟨B,0,none⟩)
 |11,v,_=>v=.pointer (some ⟨B,52,none⟩)
 |12,v,_=>v=.pointer (some ⟨B,53,none⟩)
 |13,v,_=>v=.int .i64 j.fN
 |14,v,_=>v=.agg (zbs (zfe j.disk j.fP j.fN) da dc db dd none 0 none 0 none 0 none 0 none 0 none 0 none 0 none 0 none 0)
 |15,v,w=>∃(T:Nat) (cs:Array Value),v=.pointer (some ⟨T,0,none⟩)∧bs≤T∧cs.size=57∧w.heap[T]?=some (.cells cs 93 (0,0))
 |_,_,_=>True
theorem zks{B:Nat}{bs:Nat}{j:Jn}{da:Option Addr}{dc:Nat}{db:Option Addr}{dd:Nat}{w w':World}(hb:Below w.heap.size w w'){i:Nat}:∀kk uu,kk≠i→zrv B bs j da dc db dd kk uu w→zrv B bs j da dc db dd kk uu w':=by
 intro kk uu _ h
 match kk,h with
 |0,h|1,h|2,h|3,h|4,h|5,h|6,h|7,h|8,h|9,h|10,h|11,h|12,h|13,h|14,h=>exact h
 |15,⟨T,cs,h1,h2,h3,h4⟩=>exact⟨T,cs,h1,h2,h3,zad hb (Array.getElem?_eq_some_iff.1 h4).1 h4⟩
 |_+16,_=>exact trivial
theorem zxr(B:Nat)(X:List Nat)(j:Jn)(w:World)(h:JAt w B X j)(hX:∀x∈X,x<w.heap.size)(hn:j.fL.length≤maxLen)(hq:IntKind.i64.wrap (j.fN - 1)=j.fN - 1):
  Calls prog 111 #[.pointer (some ⟨B,0,none⟩)] w fun e w'=>(∃v,e=.returned v)∧JAt w' B X (zlg j)∧ButL [B] w.heap.size w w':=by
 have HJ:=zab h;have A2:=h.lt;have C9:=h.1;have HX:=zab hX;have HQ:=zab hq;have HN:=zab hn;obtain⟨_,Q,N,L,O,na,nc,nb,nd,ne,nf,sa,sc,sb,sd,se,sf,ca,cc,fa,fc,ta,tc,h1,hr⟩:=id h;have c1:w.cell? ⟨B,1,none⟩=some (.slice Q j.disk.safe.length N):=zak h1 1;have c2:w.cell? ⟨B,2,none⟩=some (.slice L j.disk.wr.length O):=zak h1 2;have D5:w.cell? ⟨B,53,none⟩=some (.int .i64 j.fN):=zak h1 53;have E5:w.cell? ⟨B,54,none⟩=some (.int .i64 j.fP):=zak h1 54;have C1:=zab c1;have C2:=zab c2;have G2:=zab D5;have H0:=zab E5;have H3:=zab hr.1;clear h hX hq hn h1 hr c1 c2 D5 E5;go_enter func111,ntmps111;go_wp2;rename_i KK C4
 have C3:∀(g:Nat→Value) (F:World) (T:Nat) (S:Array Value) (W2:World),W2.heap[T]?=some (.cells S 93 (0,0))→F=W2.setRow T (zbs (zfe j.disk j.fP j.fN) Q N L O none 0 none 0 none 0 none 0 none 0 none 0 none 0 none 0 none 0)→w.heap.size≤T→Below w.heap.size w W2→KK ⟨#[.pointer (some ⟨B,0,none⟩),g 1,.pointer (some ⟨T,0,none⟩),g 3,g 4,g 5,g 6,g 7,g 8,g 9,g 10,g 11,g 12,g 13,g 14,g 15,g 16,g 17,g 18,g 19,g 20,g 21,g 22,g 23,g 24,g 25,g 26,g 27,g 28,g 29,g 30,g 31,g 32,g 33,g 34,g 35,g 36,g 37,g 38,g 39,g 40,g 41],[]⟩ F:=by
  intro g F T S W2 Z B0 E D;apply C4;clear C4;have E1:¬T=B:=by omega
  have H9:¬B=T:=by omega
  have D4:Hid (Below w.heap.size w F):=by rw[B0];exact((ButL.of_below (X:=[]) D).setRow (.inr E) _).below
  have C5:Hid (JAt F B (T::X) j):=by
   have h0:=HJ.o.more D E;refine h0.but (Y:=[T]) ?_ (by simp) (by simpa using H9);rw[B0];exact(ButL.refl _ _ _).setRow (.inl (by simp)) _
  have C6:Hid (JAt F T (T::X) (zfe j.disk j.fP j.fN)):=by
   rw[B0];exact JAt.putAll (by simp) Z _ _ _ _ _ _ _ _ _ _ _ _ _ _ _ _ _ _ _ _ _ _ ⟨H3.o.ext (Ext.newL D E),zrc _ _,zrc _ _,.inl rfl,.inl rfl,.inl rfl,z3c _,Nat.le_refl _,Nat.le_refl _,Nat.le_refl _⟩
  clear B0 D Z
  have a0:F.cell? ⟨B,0,none⟩=some (.int .i64 j.acts):=by
   obtain⟨_,B7,A9,r,B5,B2,B6,n,A8,A1,B8,B9,y,A7,A3,B4,A6,q,A5,K,J,A4,B1,I,_⟩:=C5.o;exact(zak I 0).trans rfl
  have b0:(∃v,F.cell? ⟨T,0,none⟩=some v)∧F.frozen? ⟨T,0,none⟩=false:=by
   obtain⟨_,B7,A9,r,B5,B2,B6,n,A8,A1,B8,B9,y,A7,A3,B4,A6,q,A5,K,J,A4,B1,I,_⟩:=C6.o;exact⟨⟨_,(zak I 0).trans rfl⟩,frozen_of_row F _ _ _ _ I⟩
  obtain⟨⟨v0,t0⟩,tf⟩:=b0;go_wp2;clear a0 t0 tf;obtain⟨W4,U⟩:∃W4,W4=F.setCell ⟨T,0,none⟩ (.int .i64 j.acts):=⟨_,rfl⟩;rw[←U];have D3:Hid (Below w.heap.size w W4):=by rw[U];exact D4.o.setCell (p:=⟨T,0,none⟩) E _
  have D2:Hid (JAt W4 B (T::X) j):=by rw[U];exact C5.o.set (by simp) E1 0 _
  have D6:Hid (JAt W4 T (T::X) {zfe j.disk j.fP j.fN with acts:=j.acts}):=by rw[U];exact C6.o.putActs _
  clear U D4 C5 C6;obtain⟨c,s⟩:∃c:Nat→Nat→Int,c=fun(k b:Nat)=>if b<k then zcf j.fL.reverse (b:Int) else 0:=⟨_,rfl⟩
  have F3:Hid (c 0=fun _=>0):=by rw[Hid,s];funext b;simp
  have I7:Hid (∀k,k<12→∀b,upd (c k) (k:Int) (zcf j.fL.reverse k) b=c (k+1) b):=by
   intro k hk b;rw[s];simp only[upd];by_cases e:b=k
   ·subst e;simp
   ·rw[if_neg (by omega)];by_cases h2:b<k
    ·rw[if_pos h2,if_pos (by omega)]
    ·rw[if_neg h2,if_neg (by omega)]
  have F9:Hid (∀k,k<12→c 12 k=zcf j.fL.reverse k):=by intro k hk;rw[s];simp[hk]
  clear s
  go_loopw [24] (fun i wr=>∃k:Nat,k≤12∧i=.int .i64 k∧Hid (JAt wr B (T::X) j)∧Hid (JAt wr T (T::X) ({zfe j.disk j.fP j.fN with acts:=j.acts,role:=c k}:Jn))∧Hid (Below w.heap.size w wr)) (fun i _=>12 - (intOf i).toNat)
  case atStart=>exact⟨0,by omega,rfl,D2,by rw[F3.o];exact D6,D3⟩
  case round=>
   obtain⟨k,hk,rfl,u,C0,C7⟩:=hrel;clear D2 D6 D3;by_cases hk12:k<12
   ·have I9:(k:Int)<12:=by omega
    obtain⟨_,B7,A9,r,B5,B2,B6,n,A8,A1,B8,B9,y,A7,A3,B4,A6,q,A5,K,J,A4,B1,I,kr⟩:=id u.o;have F5:wr.cell? ⟨B,52,none⟩=some (.slice K j.fL.length J):=(zak I 52).trans rfl;have E0:=zab (kr.2.2.2.2.1.ext (Ext.seenL wr _));clear I kr;go_wp2_with fail;refine(zm7 K J j.fL k _ E0.o HN.o).mono ?_;rintro e wq ⟨rfl,B3⟩;have G9:=zab (u.o.below B3);have E3:=zab (C0.o.below B3);have I3:=zab (zae C7.o B3);obtain⟨e1,e2,e3,e4⟩:=E3.o.role k hk12;have I8:(0:Int)≤(k:Int):=by omega
    clear B3 F5 E0 u C0 C7 e2 e4;go_wp2
    go_roundw
    case rel=>
     refine⟨k+1,by omega,by go_num,G9.o.set (by simp) E1 _ _,?_,I3.o.setCell (p:=⟨T,7+k*2,none⟩) E _⟩;have h9:=E3.o.putRole k hk12 (zcf j.fL.reverse k);exact h9.roleEq _ (fun b hb=>I7.o k hk12 b)
    case measure=>first|(simp[intOf];omega)|simp[intOf]
   ·have e:k=12:=by omega
    subst e;obtain⟨_,B7,A9,r,B5,B2,B6,n,A8,A1,B8,B9,y,A7,A3,B4,A6,q,A5,K,J,A4,B1,I,kr⟩:=C0.o;obtain⟨_,I5,E7,G5,F4,I4,G0,G8,F6,G7,F1,E9,I1,H7,F0,H6,F7,E6,G3,I6,H5,F2,H4,m1,mr⟩:=u.o;obtain⟨M,E2⟩:∃M,M=zbs (({zfe j.disk j.fP j.fN with acts:=j.acts,role:=c 12}:Jn)) B7 A9 r B5 B2 B6 n A8 A1 B8 B9 y A7 A3 B4 A6 q A5 K J A4 B1:=⟨_,rfl⟩;have R:=zab E2;have E8:=zab I;have I0:=zab kr;have D7:=zab m1;clear I kr m1 mr E2;obtain⟨fs,D1⟩:=z0i;have G1:=zab D1;clear D1;have D8:Hid ((prog.info? 93).map (·.size)=some M.size):=by rw[Hid,R.o];exact z3d _ _ _ _ _ _ _ _ _ _ _ _ _ _ _ _ _ _ _ _ _ _ _
    have H8:Hid (M.all (·.oneCell')=true):=by rw[Hid,R.o];exact zh1 _ _ _ _ _ _ _ _ _ _ _ _ _ _ _ _ _ _ _ _ _ _ _
    have G6:Hid (wr.heap[T]?=some (.cells M 93 (0,0))):=by rw[Hid,R.o];exact E8.o
    have F8:Hid ((zbs j I5 E7 G5 F4 I4 G0 G8 F6 G7 F1 E9 I1 H7 F0 H6 F7 E6 G3 I6 H5 F2 H4).size=M.size):=by rw[Hid,R.o];kernel_rfl
    repeat (first|(refine wpList_load_row rfl _ _ rfl T rfl _ M _ _ G6.o G1.o rfl D8.o ?_)|(refine wpList_store_rowTo rfl _ _ _ rfl rfl B M rfl rfl _ _ D7.o D8.o F8.o H8.o ?_)|go_step)
    refine bodyPost_end (results_none rfl _ _ _) rfl ⟨⟨_,rfl⟩,?_,(ButL.of_below C7.o).setRow (.inl (by simp)) M⟩;have h9:=(JAt.putAll (B:=B) (X:=T::X) (by simp[C9]) D7.o _ _ _ _ _ _ _ _ _ _ _ _ _ _ _ _ _ _ _ _ _ _ I0.o).less C9;rw[←R.o]at h9;exact h9.roleEq (fun k=>zcf j.fL.reverse k) F9.o
 have C8:=zab C3;clear C3 C4;refine(show∀A0:Act,A0=_→Code.wp prog _ _ A0 _ from fun A0 hA0=>?_) _ rfl;have A:A0.tmps.size=42:=by rw[hA0];rfl
 have I2:A0.defers=[]:=by rw[hA0]
 have v0:A0.eval (.tmp 0)=.pointer (some ⟨B,0,none⟩):=by rw[hA0];rfl
 clear hA0;refine zbi 16 (fun w'=>Below w.heap.size w w') [4,5,6,7,8,9,10,11,12,13,14,15,16,17,18,2] (zrv B w.heap.size j Q N L O) (by kernel_rfl) (by kernel_rfl) (by kernel_rfl) (by kernel_rfl) (by decide) ((Below.refl _ _).drew) ⟨?_,?_,?_,?_,?_,?_,?_,?_,?_,?_,?_,?_,?_,?_,?_,?_,trivial⟩ ?_
 ·exact zbg v0 A (fun _=>rfl) fun ρ w' C z=>by simp only[execOp];go_simp
 ·exact zam 0 4 A (fun _ _ h=>h) (fun _=>rfl) fun ρ w' C p=>by simp only[execOp];go_simp
 ·exact zam 1 5 A (fun _ _ h=>h) (fun _=>rfl) fun ρ w' C p=>by simp only[execOp];go_simp
 ·exact zam 2 6 A (fun _ _ h=>h) (fun _=>rfl) fun ρ w' C p=>by have c0:w'.cell? ⟨B,1,none⟩=some (.slice Q j.disk.safe.length N):=zac C A2 C1.o;have c1:w'.cell? ⟨B,2,none⟩=some (.slice L j.disk.wr.length O):=zac C A2 C2.o;simp only[execOp];go_simp
 ·exact zbg v0 A (fun _=>rfl) fun ρ w' C z=>by simp only[execOp];go_simp
 ·exact zam 4 8 A (fun _ _ h=>h) (fun _=>rfl) fun ρ w' C p=>by simp only[execOp];go_simp
 ·exact zam 5 9 A (fun _ _ h=>h) (fun _=>rfl) fun ρ w' C p=>by simp only[execOp];go_simp
 ·exact zam 6 10 A (fun _ _ h=>h) (fun _=>rfl) fun ρ w' C p=>by simp only[execOp];go_simp
 ·exact zam 7 11 A (fun _ _ h=>h) (fun _=>rfl) fun ρ w' C p=>by have c0:w'.cell? ⟨B,54,none⟩=some (.int .i64 j.fP):=zac C A2 H0.o;simp only[execOp];go_simp
 ·exact zbg v0 A (fun _=>rfl) fun ρ w' C z=>by simp only[execOp];go_simp
 ·exact zam 9 13 A (fun _ _ h=>h) (fun _=>rfl) fun ρ w' C p=>by simp only[execOp];go_simp
 ·exact zam 10 14 A (fun _ _ h=>h) (fun _=>rfl) fun ρ w' C p=>by simp only[execOp];go_simp
 ·exact zam 11 15 A (fun _ _ h=>h) (fun _=>rfl) fun ρ w' C p=>by simp only[execOp];go_simp
 ·exact zam 12 16 A (fun _ _ h=>h) (fun _=>rfl) fun ρ w' C p=>by have c0:w'.cell? ⟨B,53,none⟩=some (.int .i64 j.fN):=zac C A2 G2.o;simp only[execOp];go_simp
 ·intro a w' l C d;have p7:a.eval (.tmp 7)=.agg #[.slice Q j.disk.safe.length N,.slice L j.disk.wr.length O]:=d ⟨3,.data⟩ (by simp) rfl;have D9:a.eval (.tmp 12)=.int .i64 j.fP:=d ⟨8,.data⟩ (by simp) rfl;have E4:a.eval (.tmp 17)=.int .i64 j.fN:=d ⟨13,.data⟩ (by simp) rfl;refine zbp 71 #[.agg #[.slice Q j.disk.safe.length N,.slice L j.disk.wr.length O],.int .i64 j.fP,.int .i64 j.fN] rfl rfl (by have pf:=Act.eval_func a 71;revert p7 D9 E4 pf;generalize a.eval=ρ;intro p7 D9 E4 pf;simp only[execOp];go_simp) _ (zru j.disk Q N L O j.fP j.fN _ HQ.o) ?_;rintro e w2 ⟨rfl,D⟩;refine⟨_,rfl,_,rfl,zae C D,?_,zks D⟩;show zrv _ _ _ _ _ _ _ _ ((a.put (some 18) _).eval (.tmp 18)) w2;rw[zan l A (by decide)];exact rfl
 ·intro a w' l C d;refine zfl (.pointer (some ⟨w'.heap.size,0,none⟩)) rfl rfl (w':=w'.alloc (.cells #[.int .i64 0,.slice none 0 0,.slice none 0 0,.int .i64 0,.int .i64 0,.int .i64 0,.bool false,.int .i64 0,.int .i64 0,.int .i64 0,.int .i64 0,.int .i64 0,.int .i64 0,.int .i64 0,.int .i64 0,.int .i64 0,.int .i64 0,.int .i64 0,.int .i64 0,.int .i64 0,.int .i64 0,.int .i64 0,.int .i64 0,.int .i64 0,.int .i64 0,.int .i64 0,.int .i64 0,.int .i64 0,.int .i64 0,.int .i64 0,.int .i64 0,.int .i64 0,.slice none 0 0,.slice none 0 0,.slice none 0 0,.bool false,.int .i64 0,.bool false,.int .i64 0,.bool false,.int .i64 0,.int .i64 0,.slice none 0 0,.slice none 0 0,.slice none 0 0,.bool false,.int .i64 0,.bool false,.int .i64 0,.bool false,.int .i64 0,.slice none 0 0,.slice none 0 0,.int .i64 0,.int .i64 0,.int .i64 0,.slice none 0 0] 93)) (by simp only[execOp];go_simp) ⟨_,rfl,C.alloc C.size _,?_,zks (zaa _ _)⟩;show zrv _ _ _ _ _ _ _ _ ((a.put (some 2) _).eval (.tmp 2)) _;rw[zan l A (by decide)];exact⟨_,_,rfl,C.size,rfl,heap_alloc_new _ _⟩
 ·intro a W l C d;have G4:a.eval (.tmp 18)=.agg (zbs (zfe j.disk j.fP j.fN) Q N L O none 0 none 0 none 0 none 0 none 0 none 0 none 0 none 0 none 0):=d 14 (by decide);obtain⟨T,S,p2,E,H1,Z⟩:∃(T:Nat) (S:Array Value),a.eval (.tmp 2)=.pointer (some ⟨T,0,none⟩)∧w.heap.size≤T∧S.size=57∧W.heap[T]?=some (.cells S 93 (0,0)):=d 15 (by decide);show wpOps prog _ _ [16] a W;rw[wpOps_cons];refine zkp _ (.tmp 2) (.tmp 18) T (zbs (zfe j.disk j.fP j.fN) Q N L O none 0 none 0 none 0 none 0 none 0 none 0 none 0 none 0 none 0) rfl rfl rfl p2 G4 _ S Z (z3d _ _ _ _ _ _ _ _ _ _ _ _ _ _ _ _ _ _ _ _ _ _ _) H1 (zh1 _ _ _ _ _ _ _ _ _ _ _ _ _ _ _ _ _ _ _ _ _ _ _) ?_;have H2:a.tmps.size=42:=l.size.trans A;have f0:a.eval (.tmp 0)=.pointer (some ⟨B,0,none⟩):=(l.other 0 rfl).trans v0;have m:a=⟨#[_,_,_,_,_,_,_,_,_,_,_,_,_,_,_,_,_,_,_,_,_,_,_,_,_,_,_,_,_,_,_,_,_,_,_,_,_,_,_,_,_,_],[]⟩:=zcn a 42 H2 (l.defers.trans I2);dsimp only at m;rw[f0,p2]at m;show KK a _;exact(congrArg (fun x=>KK x _) m).mpr (C8.o (fun k=>a.eval (.tmp k)) _ T S W Z rfl E C)
theorem SegZ.ext{w w':World}{a:Option Addr}{l:List RZ}(h:SegZ w a l)(e:Ext w w'):SegZ w' a l:=by
 rcases h with h|⟨b,off,rfl,hlt,hc⟩
 ·exact .inl h
 ·exact .inr ⟨b,off,rfl,Nat.lt_of_lt_of_le hlt e.size,fun j u hj=>e.cell _ _ _ (hc j u hj)⟩
def zn9 (B:Nat)(bs:Nat)(j:Jn)(sa:Option Addr)(sc:Nat)(sb:Option Addr)(sd:Nat)(se:Option Addr)(sf:Nat)(ca:Option Addr)(cc:Nat)(q:List RZ):Nat→Value→World→Prop
 |0,v,_=>v=.pointer (some ⟨B,0,none⟩)
 |1,v,_=>v=.pointer (some ⟨B,0,none⟩)
 |2,v,_=>v=.pointer (some ⟨B,0,none⟩)
 |3,v,_=>v=.pointer (some ⟨B,51,none⟩)
 |4,v,_=>v=.slice ca j.done.length cc
 |5,v,_=>v=.agg #[.int .i64 j.sealed.seq,.slice sa j.sealed.info.length sc,.slice sb j.sealed.data.length sd,.slice se j.sealed.rev.length sf,.bool j.sealed.h0.on,.int .i64 j.sealed.h0.left,.bool j.sealed.h1.on,.int .i64 j.sealed.h1.left,.bool j.sealed.h2.on,.int .i64 j.sealed.h2.left]
 |6,v,w=>∃b1:Nat,v=.slice (some ⟨b1,0,none⟩) 1 1∧bs≤b1∧w.heap[b1]?=some (.cells #[.int .i64 j.sealed.seq,.slice sa j.sealed.info.length sc,.slice sb j.sealed.data.length sd,.slice se j.sealed.rev.length sf,.bool j.sealed.h0.on,.int .i64 j.sealed.h0.left,.bool j.sealed.h1.on,.int .i64 j.sealed.h1.left,.bool j.sealed.h2.on,.int .i64 j.sealed.h2.left] 40 (0,0))
 |7,v,w=>∃b1 b2:Nat,v=.slice (some ⟨b2,0,none⟩) 2 2∧bs≤b2∧w.heap[b2]?=some (.cells #[.slice ca j.done.length cc,.slice (some ⟨b1,0,none⟩) 1 1] 88 (0,0))∧w.heap[b1]?=some (.cells #[.int .i64 j.sealed.seq,.slice sa j.sealed.info.length sc,.slice sb j.sealed.data.length sd,.slice se j.sealed.rev.length sf,.bool j.sealed.h0.on,.int .i64 j.sealed.h0.left,.bool j.sealed.h1.on,.int .i64 j.sealed.h1.left,.bool j.sealed.h2.on,.int .i64 j.sealed.h2.left] 40 (0,0))
 |8,v,w=>w.ownsRow bs 40 10 v (q.length+1) (cellsZ (q++[(⟨sa,sc,sb,sd,se,sf,j.sealed⟩:RZ)]))
 |9,v,_=>v=.pointer (some ⟨B,0,none⟩)
 |10,v,_=>v=.pointer (some ⟨B,51,none⟩)
 |_,_,_=>True
theorem zhh{B:Nat}{bs:Nat}{j:Jn}{sa:Option Addr}{sc:Nat}{sb:Option Addr}{sd:Nat}{se:Option Addr}{sf:Nat}{ca:Option Addr}{cc:Nat}{q:List RZ}{w w':World}(hb:Below w.heap.size w w'){i:Nat}:∀kk uu,kk≠i→zn9 B bs j sa sc sb sd se sf ca cc q kk uu w→zn9 B bs j sa sc sb sd se sf ca cc q kk uu w':=by
 intro kk uu _ h
 match kk,h with
 |0,h|1,h|2,h|3,h|4,h|5,h=>exact h
 |6,⟨b1,h1,h2,h3⟩=>exact⟨b1,h1,h2,zad hb (Array.getElem?_eq_some_iff.1 h3).1 h3⟩
 |7,⟨b1,b2,h1,h2,h3,h4⟩=>exact⟨b1,b2,h1,h2,zad hb (Array.getElem?_eq_some_iff.1 h3).1 h3,zad hb (Array.getElem?_eq_some_iff.1 h4).1 h4⟩
 |8,h=>exact zah h hb
 |9,h|10,h=>exact h
 |_+11,_=>exact trivial
theorem zry(B:Nat)(X:List Nat)(j:Jn)(w:World)(h:JAt w B X j)(hX:∀x∈X,x<w.heap.size)(hn:j.done.length≤900):
  Calls prog 110 #[.pointer (some ⟨B,0,none⟩)] w (zdj w B X (zhs j)):=by
 have HJ:=zab h;have L0:=h.lt;have B5:=h.1;have HX:=zab hX;have HN:=zab hn;have HE:Hid (zhs j=({j with sealed:=zcv 0,done:=j.done++[j.sealed],last:=j.sealed.seq},⟨0,j.sealed.seq,⟨#[]⟩⟩)):=rfl;obtain⟨_,da,dc,db,dd,na,nc,nb,nd,ne,nf,J,I,K,M,L,N,U,S,fa,fc,ta,tc,D,hr⟩:=id h;have H5:w.cell? ⟨B,41,none⟩=some (.int .i64 j.sealed.seq):=zak D 41;have E4:w.frozen? ⟨B,41,none⟩=false:=frozen_of_row w _ _ _ _ D;have I2:w.cell? ⟨B,42,none⟩=some (.slice J j.sealed.info.length I):=zak D 42;have E1:w.frozen? ⟨B,42,none⟩=false:=frozen_of_row w _ _ _ _ D;have G3:w.cell? ⟨B,43,none⟩=some (.slice K j.sealed.data.length M):=zak D 43;have E3:w.frozen? ⟨B,43,none⟩=false:=frozen_of_row w _ _ _ _ D;have E8:w.cell? ⟨B,44,none⟩=some (.slice L j.sealed.rev.length N):=zak D 44;have E6:w.frozen? ⟨B,44,none⟩=false:=frozen_of_row w _ _ _ _ D;have I1:w.cell? ⟨B,45,none⟩=some (.bool j.sealed.h0.on):=zak D 45;have E2:w.frozen? ⟨B,45,none⟩=false:=frozen_of_row w _ _ _ _ D;have F9:w.cell? ⟨B,46,none⟩=some (.int .i64 j.sealed.h0.left):=zak D 46;have D9:w.frozen? ⟨B,46,none⟩=false:=frozen_of_row w _ _ _ _ D;have F4:w.cell? ⟨B,47,none⟩=some (.bool j.sealed.h1.on):=zak D 47;have D7:w.frozen? ⟨B,47,none⟩=false:=frozen_of_row w _ _ _ _ D;have J0:w.cell? ⟨B,48,none⟩=some (.int .i64 j.sealed.h1.left):=zak D 48;have E0:w.frozen? ⟨B,48,none⟩=false:=frozen_of_row w _ _ _ _ D;have H4:w.cell? ⟨B,49,none⟩=some (.bool j.sealed.h2.on):=zak D 49;have D6:w.frozen? ⟨B,49,none⟩=false:=frozen_of_row w _ _ _ _ D;have F8:w.cell? ⟨B,50,none⟩=some (.int .i64 j.sealed.h2.left):=zak D 50;have D8:w.frozen? ⟨B,50,none⟩=false:=frozen_of_row w _ _ _ _ D;have A7:=zab hr.2.2.1;clear h hX hn D hr;have K5:¬w.heap.size=B:=by omega
 have D5:¬w.heap.size+1=B:=by omega
 have B1:w.heap.size≠B:=by omega
 go_enter func110,ntmps110;go_wp2;rename_i KK A8;clear H5 E4 I2 E1 G3 E3 E8 E6 I1 E2 F9 D9 F4 D7 J0 E0 H4 D6 F8 D8;obtain⟨m,r⟩:∃m,m=((((((((((w.setCell ⟨B,41,none⟩ (.int .i64 0)).setCell ⟨B,42,none⟩ (.slice none 0 0)).setCell ⟨B,43,none⟩ (.slice none 0 0)).setCell ⟨B,44,none⟩ (.slice none 0 0)).setCell ⟨B,45,none⟩ (.bool false)).setCell ⟨B,46,none⟩ (.int .i64 0)).setCell ⟨B,47,none⟩ (.bool false)).setCell ⟨B,48,none⟩ (.int .i64 0)).setCell ⟨B,49,none⟩ (.bool false)).setCell ⟨B,50,none⟩ (.int .i64 0)):=⟨_,rfl⟩;rw[←r];have A5:m.heap.size=w.heap.size:=by rw[r];simp[World.setCell]
 have B2:ButL [B] w.heap.size w m:=by rw[r];exact((((((((((ButL.refl _ _ w).set (.inl (by simp)) 41 _).set (.inl (by simp)) 42 _).set (.inl (by simp)) 43 _).set (.inl (by simp)) 44 _).set (.inl (by simp)) 45 _).set (.inl (by simp)) 46 _).set (.inl (by simp)) 47 _).set (.inl (by simp)) 48 _).set (.inl (by simp)) 49 _).set (.inl (by simp)) 50 _
 have C2:Hid (JAt m B X ({j with sealed:=zcv 0}:Jn)):=by rw[r];exact HJ.o.putSealed (t:=zcv 0) (zrc _ _)
 have A9:=zab (A7.o.ext (Ext.butL (B2.wider (Y:=X) (by simp[B5]))));obtain⟨C,b⟩:∃C,C=(m.alloc (.cells #[.int .i64 0,.int .i64 0,.string ⟨#[]⟩] 31)).alloc (.cells #[.int .i64 j.sealed.seq,.slice J j.sealed.info.length I,.slice K j.sealed.data.length M,.slice L j.sealed.rev.length N,.bool j.sealed.h0.on,.int .i64 j.sealed.h0.left,.bool j.sealed.h1.on,.int .i64 j.sealed.h1.left,.bool j.sealed.h2.on,.int .i64 j.sealed.h2.left] 40):=⟨_,rfl⟩;rw[←b];have c:Below m.heap.size m C:=by rw[b];exact zae (zaa _ _) (zaa _ _)
 have A3:Hid (JAt C B (w.heap.size::X) ({j with sealed:=zcv 0}:Jn)):=C2.o.more c (by omega);have H3:Hid (IsTx (zau C (w.heap.size::X)) (.agg #[.int .i64 j.sealed.seq,.slice J j.sealed.info.length I,.slice K j.sealed.data.length M,.slice L j.sealed.rev.length N,.bool j.sealed.h0.on,.int .i64 j.sealed.h0.left,.bool j.sealed.h1.on,.int .i64 j.sealed.h1.left,.bool j.sealed.h2.on,.int .i64 j.sealed.h2.left]) j.sealed):=A9.o.ext (Ext.newL c (by omega));have A1:Hid (ButL [B] w.heap.size w C):=B2.trans (Y:=[]) (ButL.of_below c) (by omega) (by simp);have C4:(m.alloc (.cells #[.int .i64 0,.int .i64 0,.string ⟨#[]⟩] 31)).heap.size=w.heap.size+1:=by simp[A5]
 have L1:C.heap.size=w.heap.size+2:=by rw[b];simp[A5]
 have B3:Hid (C.heap[w.heap.size]?=some (.cells #[.int .i64 0,.int .i64 0,.string ⟨#[]⟩] 31 (0,0))):=by rw[b];exact zad (zaa _ _) (by omega) (by rw[←A5];exact heap_alloc_new _ _)
 have C1:Hid (C.heap[w.heap.size+1]?=some (.cells #[.int .i64 j.sealed.seq,.slice J j.sealed.info.length I,.slice K j.sealed.data.length M,.slice L j.sealed.rev.length N,.bool j.sealed.h0.on,.int .i64 j.sealed.h0.left,.bool j.sealed.h1.on,.int .i64 j.sealed.h1.left,.bool j.sealed.h2.on,.int .i64 j.sealed.h2.left] 40 (0,0))):=by rw[b,←C4];exact heap_alloc_new _ _
 clear r B2 C2 A9 b c C4 A5 A7
 have H1:Hid (∀x∈(w.heap.size::X),x<C.heap.size):=fun x hx=>by
  rcases List.mem_cons.1 hx with rfl|hx
  ·omega
  ·have:=HX.o x hx;omega
 obtain⟨_,M4,J5,L3,K4,M3,K9,L5,K6,L4,K1,J8,M2,M0,J9,L9,K7,U,S,M5,L8,K2,L6,m1,mr⟩:=id A3.o;have G0:Hid (C.cell? ⟨B,51,none⟩=some (.slice U j.done.length S)):=(zak m1 51).trans rfl;obtain⟨q,B7,D3,C6⟩:=mr.2.2.2.1.rz;have B0:=zab B7;have I7:=zab D3;have F7:=zab C6;have B9:Hid (q.length=j.done.length):=by rw[Hid,←B0.o,List.length_map]
 have J3:Hid (q.length≤900):=by rw[Hid,B9.o];exact HN.o
 clear m1 mr B7 D3 C6;obtain⟨⟨y0,y1,y2,y3,y4,y5,y6,y7,y8,y9⟩,_⟩:=zaj C1.o;have Q0:=zab y0;have Q1:=zab y1;have Q2:=zab y2;have Q3:=zab y3;have Q4:=zab y4;have Q5:=zab y5;have Q6:=zab y6;have Q7:=zab y7;have Q8:=zab y8;have Q9:=zab y9;clear y0 y1 y2 y3 y4 y5 y6 y7 y8 y9;have E7:B<C.heap.size:=by omega
 have O:w.heap.size+1<C.heap.size:=by omega
 have G4:Hid (∀{w':World} {F Z:Nat},Below C.heap.size C w'→w'.heap[Z]?=some (.cells #[.slice U j.done.length S,.slice (some ⟨F,0,none⟩) 1 1] 88 (0,0))→w'.heap[F]?=some (.cells #[.int .i64 j.sealed.seq,.slice J j.sealed.info.length I,.slice K j.sealed.data.length M,.slice L j.sealed.rev.length N,.bool j.sealed.h0.on,.int .i64 j.sealed.h0.left,.bool j.sealed.h1.on,.int .i64 j.sealed.h1.left,.bool j.sealed.h2.on,.int .i64 j.sealed.h2.left] 40 (0,0))→z5r w' Z [(U,S,q),(some ⟨F,0,none⟩,1,[(⟨J,I,K,M,L,N,j.sealed⟩:RZ)])]):=by
  intro w' F Z hb h2 h3;refine⟨(Array.getElem?_eq_some_iff.1 h2).1,fun i x hx=>?_⟩
  match i,hx with
  |0,hx=>
   cases hx;refine⟨?_,(I7.o.ext (Ext.seenL C _)).below hb⟩;rw[B9.o];exact(cell_of_row w' _ 0 _ _ _ h2).trans rfl
  |1,hx=>
   cases hx;refine⟨(cell_of_row w' _ 1 _ _ _ h2).trans rfl,.inr ⟨F,0,rfl,(Array.getElem?_eq_some_iff.1 h3).1,fun k u hu=>?_⟩⟩;rw[Nat.zero_add,cell_of_row w' _ k _ _ _ h3];rw[←hu];simp[cellsZ,RZ.cells]
  |i+2,hx=>simp at hx
 have A6:∀(g:Nat→Value) (Q:World),JAt Q B (w.heap.size::X) ({j with sealed:=zcv 0,done:=j.done++[j.sealed]}:Jn)→ButL [B] C.heap.size C Q→KK ⟨#[.pointer (some ⟨B,0,none⟩),g 1,.pointer (some ⟨w.heap.size,0,none⟩),.pointer (some ⟨w.heap.size+1,0,none⟩),g 4,g 5,g 6,g 7,g 8,g 9,g 10,g 11,g 12,g 13,g 14,g 15,g 16,g 17,g 18,g 19,g 20,g 21,g 22,g 23,g 24,g 25,g 26,g 27,g 28,g 29,g 30],[]⟩ Q:=by
  intro g Q D2 n;apply A8;clear A8;have B8:=zab D2;have H8:Hid (ButL [B] w.heap.size w Q):=A1.o.trans n A1.o.size (by simp);have C5:Hid (Q.heap[w.heap.size]?=some (.cells #[.int .i64 0,.int .i64 0,.string ⟨#[]⟩] 31 (0,0))):=(n.block _ (by omega) (by simpa using B1)).trans B3.o;have G6:Hid (Q.heap[w.heap.size+1]?=some (.cells #[.int .i64 j.sealed.seq,.slice J j.sealed.info.length I,.slice K j.sealed.data.length M,.slice L j.sealed.rev.length N,.bool j.sealed.h0.on,.int .i64 j.sealed.h0.left,.bool j.sealed.h1.on,.int .i64 j.sealed.h1.left,.bool j.sealed.h2.on,.int .i64 j.sealed.h2.left] 40 (0,0))):=(n.block _ (by omega) (by simpa using D5)).trans C1.o;have K8:C.heap.size≤Q.heap.size:=n.size;have M1:B<Q.heap.size:=by omega
  clear D2 n;obtain⟨_,I9,H7,F5,I4,I0,I5,E9,H6,G2,J1,J2,G1,H0,G5,I3,G9,F1,G8,F6,F0,G7,H9,s,_⟩:=id B8.o;obtain⟨v5,c5⟩:∃v,Q.cell? ⟨B,5,none⟩=some v:=⟨_,(zak s 5).trans rfl⟩;have K0:Q.frozen? ⟨B,5,none⟩=false:=frozen_of_row Q _ _ _ _ s;clear s;obtain⟨⟨q0,_⟩,_⟩:=zaj G6.o;obtain⟨⟨y0,y1,y2⟩,yf⟩:=zbn C5.o;go_wp2;obtain⟨W7,A2⟩:∃W7,W7=Q.setCell ⟨B,5,none⟩ (.int .i64 j.sealed.seq):=⟨_,rfl⟩;rw[←A2];have B3:Hid (W7.heap[w.heap.size]?=some (.cells #[.int .i64 0,.int .i64 0,.string ⟨#[]⟩] 31 (0,0))):=by rw[A2];exact(Below.heap_setCell _ _ _ _ B1).trans C5.o
  have A3:Hid (JAt W7 B (w.heap.size::X) {j with sealed:=zcv 0,done:=j.done++[j.sealed],last:=j.sealed.seq}):=by rw[A2];exact B8.o.putLast _
  have A1:Hid (ButL [B] w.heap.size w W7):=by rw[A2];exact H8.o.set (.inl (by simp)) 5 _
  obtain⟨W,hW⟩:∃W,W=(((W7.setCell ⟨w.heap.size,0,none⟩ (.int .i64 0)).setCell ⟨w.heap.size,1,none⟩ (.int .i64 j.sealed.seq)).setCell ⟨w.heap.size,2,none⟩ (.string ⟨#[]⟩)):=⟨_,rfl⟩;have hX:=zge B3.o (.int .i64 0) (.int .i64 j.sealed.seq) (.string ⟨#[]⟩);rw[←hW]at hX⊢;obtain⟨⟨u0,u1,u2⟩,_⟩:=zbn hX;refine bodyPost_ret (v:=.agg #[.int .i64 0,.int .i64 j.sealed.seq,.string ⟨#[]⟩]) (by simp[results,results110,go_sem,u0,u1,u2]) rfl ⟨by rw[HE.o];rfl,?_,?_⟩
  ·rw[HE.o,hW];exact zw7 A3.o B1 B5 _ _ _
  ·rw[hW];exact((A1.o.set (.inr (by omega)) 0 _).set (.inr (by omega)) 1 _).set (.inr (by omega)) 2 _
 have B4:=zab A6;clear A6 A8;refine(show∀A0:Act,A0=_→Code.wp prog _ _ A0 _ from fun A0 hA0=>?_) _ rfl;have E:A0.tmps.size=31:=by rw[hA0];rfl
 have I6:A0.defers=[]:=by rw[hA0]
 have v0:A0.eval (.tmp 0)=.pointer (some ⟨B,0,none⟩):=by rw[hA0];rfl
 have v2:A0.eval (.tmp 2)=.pointer (some ⟨w.heap.size,0,none⟩):=by rw[hA0];rfl
 have v3:A0.eval (.tmp 3)=.pointer (some ⟨w.heap.size+1,0,none⟩):=by rw[hA0];rfl
 clear hA0;refine zbi 11 (fun w'=>Below C.heap.size C w') [12,13,14,15,16,17,18,19,20,21,22] (zn9 B C.heap.size j J I K M L N U S q) (by kernel_rfl) (by kernel_rfl) (by kernel_rfl) (by kernel_rfl) (by decide) ((Below.refl _ _).drew) ⟨?_,?_,?_,?_,?_,?_,?_,?_,?_,?_,?_,trivial⟩ ?_
 ·exact zbg v0 E (fun _=>rfl) fun ρ w' A z=>by simp only[execOp];go_simp
 ·exact zbg v0 E (fun _=>rfl) fun ρ w' A z=>by simp only[execOp];go_simp
 ·exact zam 1 13 E (fun _ _ h=>h) (fun _=>rfl) fun ρ w' A p=>by simp only[execOp];go_simp
 ·exact zam 2 14 E (fun _ _ h=>h) (fun _=>rfl) fun ρ w' A p=>by simp only[execOp];go_simp
 ·exact zam 3 15 E (fun _ _ h=>h) (fun _=>rfl) fun ρ w' A p=>by have c0:w'.cell? ⟨B,51,none⟩=some (.slice U j.done.length S):=zac A E7 G0.o;simp only[execOp];go_simp
 ·exact zbg v3 E (fun _=>rfl) fun ρ w' A z=>by have c0:w'.cell? ⟨w.heap.size+1,0,none⟩=some (.int .i64 j.sealed.seq):=zac A O Q0.o;have c1:w'.cell? ⟨w.heap.size+1,1,none⟩=some (.slice J j.sealed.info.length I):=zac A O Q1.o;have c2:w'.cell? ⟨w.heap.size+1,2,none⟩=some (.slice K j.sealed.data.length M):=zac A O Q2.o;have c3:w'.cell? ⟨w.heap.size+1,3,none⟩=some (.slice L j.sealed.rev.length N):=zac A O Q3.o;have c4:w'.cell? ⟨w.heap.size+1,4,none⟩=some (.bool j.sealed.h0.on):=zac A O Q4.o;have c5:w'.cell? ⟨w.heap.size+1,5,none⟩=some (.int .i64 j.sealed.h0.left):=zac A O Q5.o;have c6:w'.cell? ⟨w.heap.size+1,6,none⟩=some (.bool j.sealed.h1.on):=zac A O Q6.o;have c7:w'.cell? ⟨w.heap.size+1,7,none⟩=some (.int .i64 j.sealed.h1.left):=zac A O Q7.o;have c8:w'.cell? ⟨w.heap.size+1,8,none⟩=some (.bool j.sealed.h2.on):=zac A O Q8.o;have c9:w'.cell? ⟨w.heap.size+1,9,none⟩=some (.int .i64 j.sealed.h2.left):=zac A O Q9.o;simp only[execOp];go_simp
 ·intro a w' R A d;have D4:a.eval (.tmp 17)=.agg #[.int .i64 j.sealed.seq,.slice J j.sealed.info.length I,.slice K j.sealed.data.length M,.slice L j.sealed.rev.length N,.bool j.sealed.h0.on,.int .i64 j.sealed.h0.left,.bool j.sealed.h1.on,.int .i64 j.sealed.h1.left,.bool j.sealed.h2.on,.int .i64 j.sealed.h2.left]:=d ⟨5,.data⟩ (by simp) rfl;refine zfl (.slice (some ⟨w'.heap.size,0,none⟩) 1 1) rfl rfl (w':=w'.alloc (.cells #[.int .i64 j.sealed.seq,.slice J j.sealed.info.length I,.slice K j.sealed.data.length M,.slice L j.sealed.rev.length N,.bool j.sealed.h0.on,.int .i64 j.sealed.h0.left,.bool j.sealed.h1.on,.int .i64 j.sealed.h1.left,.bool j.sealed.h2.on,.int .i64 j.sealed.h2.left] 40)) (by revert D4;generalize a.eval=ρ;intro D4;simp only[execOp];go_simp) ⟨_,rfl,A.alloc A.size _,?_,zhh (zaa _ _)⟩;show zn9 _ _ _ _ _ _ _ _ _ _ _ _ _ ((a.put (some 18) _).eval (.tmp 18)) _;rw[zan R E (by decide)];exact⟨_,rfl,A.size,heap_alloc_new _ _⟩
 ·intro a w' R A d;have C8:a.eval (.tmp 16)=.slice U j.done.length S:=d ⟨4,.data⟩ (by simp) rfl;obtain⟨F,C3,J7,A4⟩:∃F:Nat,a.eval (.tmp 18)=.slice (some ⟨F,0,none⟩) 1 1∧C.heap.size≤F∧w'.heap[F]?=some (.cells #[.int .i64 j.sealed.seq,.slice J j.sealed.info.length I,.slice K j.sealed.data.length M,.slice L j.sealed.rev.length N,.bool j.sealed.h0.on,.int .i64 j.sealed.h0.left,.bool j.sealed.h1.on,.int .i64 j.sealed.h1.left,.bool j.sealed.h2.on,.int .i64 j.sealed.h2.left] 40 (0,0)):=d ⟨6,.data⟩ (by simp) rfl;refine zfl (.slice (some ⟨w'.heap.size,0,none⟩) 2 2) rfl rfl (w':=w'.alloc (.cells #[.slice U j.done.length S,.slice (some ⟨F,0,none⟩) 1 1] 88)) (by revert C8 C3;generalize a.eval=ρ;intro C8 C3;simp only[execOp];go_simp) ⟨_,rfl,A.alloc A.size _,?_,zhh (zaa _ _)⟩;show zn9 _ _ _ _ _ _ _ _ _ _ _ _ _ ((a.put (some 19) _).eval (.tmp 19)) _;rw[zan R E (by decide)];exact⟨F,_,rfl,A.size,heap_alloc_new _ _,zad (zaa _ _) (Array.getElem?_eq_some_iff.1 A4).1 A4⟩
 ·intro a w' R A d;obtain⟨F,Z,D1,L2,I8,A4⟩:∃F Z:Nat,a.eval (.tmp 19)=.slice (some ⟨Z,0,none⟩) 2 2∧C.heap.size≤Z∧w'.heap[Z]?=some (.cells #[.slice U j.done.length S,.slice (some ⟨F,0,none⟩) 1 1] 88 (0,0))∧w'.heap[F]?=some (.cells #[.int .i64 j.sealed.seq,.slice J j.sealed.info.length I,.slice K j.sealed.data.length M,.slice L j.sealed.rev.length N,.bool j.sealed.h0.on,.int .i64 j.sealed.h0.left,.bool j.sealed.h1.on,.int .i64 j.sealed.h1.left,.bool j.sealed.h2.on,.int .i64 j.sealed.h2.left] 40 (0,0)):=d ⟨7,.data⟩ (by simp) rfl;refine zbp 141 #[.slice (some ⟨Z,0,none⟩) 2 2] rfl rfl (by have pf:=Act.eval_func a 141;revert D1 pf;generalize a.eval=ρ;intro D1 pf;simp only[execOp];go_simp) _ (zt0 Z 2 2 [(U,S,q),(some ⟨F,0,none⟩,1,[(⟨J,I,K,M,L,N,j.sealed⟩:RZ)])] w' rfl (by decide) (G4.o A I8 A4) (by have:=J3.o;simp[flatZ];omega)) ?_;rintro e w2 ⟨v',rfl,hO,hb⟩;refine⟨_,rfl,_,rfl,zae A hb,?_,zhh hb⟩;show zn9 _ _ _ _ _ _ _ _ _ _ _ _ _ ((a.put (some 20) _).eval (.tmp 20)) _;rw[zan R E (by decide)];have C0:=za6 hO A.size;simp only[flatZ,List.map_cons,List.map_nil,List.flatten_cons,List.flatten_nil,List.append_nil,List.length_append,List.length_cons,List.length_nil,Nat.zero_add]at C0;exact C0
 ·exact zam 0 12 E (fun _ _ h=>h) (fun _=>rfl) fun ρ w' A p=>by simp only[execOp];go_simp
 ·exact zam 9 21 E (fun _ _ h=>h) (fun _=>rfl) fun ρ w' A p=>by simp only[execOp];go_simp
 ·intro a W R A d;have F2:W.ownsRow C.heap.size 40 10 (a.eval (.tmp 20)) (q.length+1) (cellsZ (q++[(⟨J,I,K,M,L,N,j.sealed⟩:RZ)])):=d 8 (by decide);have C9:a.eval (.tmp 22)=.pointer (some ⟨B,51,none⟩):=d 10 (by decide);have H2:a.tmps.size=31:=R.size.trans E;have F3:=zhg (X:=(w.heap.size::X)) F2 H1.o
  obtain⟨ya,yc,hy,C7,_⟩:=SegTx.of_rz F3 (fun x hx=>by
   rcases List.mem_append.1 hx with h|h
   ·exact(F7.o x h).ext (Ext.freshL A)
   ·rw[List.mem_singleton.1 h];exact H3.o.ext (Ext.freshL A))
  rw[List.map_append,B0.o]at C7;have E5:(q++[(⟨J,I,K,M,L,N,j.sealed⟩:RZ)]).length=(j.done++[j.sealed]).length:=by rw[←B0.o];simp
  rw[E5]at hy;have B6:=A3.o.below A;obtain⟨_,I9,H7,F5,I4,I0,I5,E9,H6,G2,J1,J2,G1,H0,G5,I3,G9,F1,G8,F6,F0,G7,H9,s,_⟩:=id B6;obtain⟨K3,J6⟩:∃v,W.cell? ⟨B,51,none⟩=some v:=⟨_,(zak s 51).trans rfl⟩;have J4:W.frozen? ⟨B,51,none⟩=false:=frozen_of_row W _ _ _ _ s;clear s;show wpOps prog _ _ [11] a W;rw[wpOps_cons];refine zco rfl rfl (w':=W.setCell ⟨B,51,none⟩ (.slice ya (j.done++[j.sealed]).length yc)) (by generalize (j.done++[j.sealed]).length=nn at *;revert hy C9;generalize a.eval=ρ;intro hy C9;simp only[execOp];go_simp) ?_;have f0:a.eval (.tmp 0)=.pointer (some ⟨B,0,none⟩):=(R.other 0 rfl).trans v0;have f2:a.eval (.tmp 2)=.pointer (some ⟨w.heap.size,0,none⟩):=(R.other 2 rfl).trans v2;have f3:a.eval (.tmp 3)=.pointer (some ⟨w.heap.size+1,0,none⟩):=(R.other 3 rfl).trans v3;have y:a=⟨#[_,_,_,_,_,_,_,_,_,_,_,_,_,_,_,_,_,_,_,_,_,_,_,_,_,_,_,_,_,_,_],[]⟩:=zcn a 31 H2 (R.defers.trans I6);dsimp only at y;rw[f0,f2,f3]at y;show KK a _;exact(congrArg (fun x=>KK x _) y).mpr (B4.o (fun k=>a.eval (.tmp k)) _ (B6.putDone (l:=j.done++[j.sealed]) C7) ((ButL.of_below A).set (.inl (by simp)) 51 _))
theorem zt2(B:Nat)(X:List Nat)(j:Jn)(w:World)(h:JAt w B X j)(hX:∀x∈X,x<w.heap.size)(hn:j.done.length≤900)(hf:j.fL.length≤maxLen)(hq:IntKind.i64.wrap (j.fN - 1)=j.fN - 1):
  Calls prog 74 #[.pointer (some ⟨B,0,none⟩)] w (zdj w B X (zb4 j)):=by
 have d:=zab h;have A7:=h.lt;have Z:=h.1;have s:=zab hX;have HN:=zab hn;have HF:=zab hf;have HQ:=zab hq;obtain⟨_,da,dc,db,dd,na,nc,nb,nd,ne,nf,sa,sc,sb,sd,se,sf,ca,cc,fa,fc,ta,tc,h1,hr⟩:=id h;have b:w.cell? ⟨B,55,none⟩=some (.int .i64 j.work):=zak h1 55;clear h hX hn hf hq h1 hr;have A5:¬w.heap.size=B:=by omega
 by_cases h6:j.work=6
 ·have U:Hid (zb4 j=zhs j):=by rw[Hid,zb4,if_pos h6]
  rw[h6]at b;clear h6;go_enter func74,ntmps74;go_wp2_with fail;obtain⟨C,A⟩:∃C,C=w.alloc (.cells #[.int .i64 0,.int .i64 0,.string ⟨#[]⟩] 31):=⟨_,rfl⟩;have M:Hid (JAt C B (w.heap.size::X) j):=by rw[A];exact d.o.more (zaa _ _) (Nat.le_refl _)
  have E:Hid (ButL [B] w.heap.size w C):=by rw[A];exact ButL.of_below (zaa _ _)
  have Q:Hid (C.heap[w.heap.size]?=some (.cells #[.int .i64 0,.int .i64 0,.string ⟨#[]⟩] 31 (0,0))):=by rw[A];exact heap_alloc_new _ _
  have m:C.heap.size=w.heap.size+1:=by rw[A];simp
  have I:w.heap.size<C.heap.size:=by omega
  have J:w.heap.size≠B:=by omega
  have a:Hid (∀x∈(w.heap.size::X),x<C.heap.size):=fun x hx=>by
   rcases List.mem_cons.1 hx with rfl|hx
   ·exact I
   ·have:=s.o x hx;omega
  rw[←A];clear A;refine(zry B (w.heap.size::X) j C M.o a.o HN.o).mono ?_;rintro e O ⟨rfl,S,K⟩;have F:Hid (O.heap[w.heap.size]?=some (.cells #[.int .i64 0,.int .i64 0,.string ⟨#[]⟩] 31 (0,0))):=(K.block _ (by omega) (by simpa using J)).trans Q.o;have N:=zab S;have L:Hid (ButL [B] w.heap.size w O):=E.o.trans K E.o.size (by simp);have A2:C.heap.size≤O.heap.size:=K.size;clear S K;have u:Hid (zb4 j=((zhs j).1,⟨0,j.sealed.seq,⟨#[]⟩⟩)):=U.o;rw[show vRp (zhs j).2=.agg #[.int .i64 0,.int .i64 j.sealed.seq,.string ⟨#[]⟩] from rfl];obtain⟨⟨n,p,q⟩,r⟩:=zbn F.o;go_wp2;exact zbd u.o F.o N.o L.o J Z fun W u0 u1 u2=>by simp[results,results74,go_sem,u0,u1,u2]
 ·have b6:(j.work==6)=false:=by simpa using h6
  by_cases h7:j.work=7
  ·have U:Hid (zb4 j=({j with done:=[],ru:=0},zat 0)):=by rw[Hid,zb4,if_neg h6,if_pos h7]
   rw[h7]at b;clear h6 h7 b6
   have z:(∃v,w.cell? ⟨B,51,none⟩=some v)∧(∃v,w.cell? ⟨B,4,none⟩=some v)∧w.frozen? ⟨B,51,none⟩=false∧w.frozen? ⟨B,4,none⟩=false:=by
    obtain⟨_,da,dc,db,dd,na,nc,nb,nd,ne,nf,sa,sc,sb,sd,se,sf,ca,cc,fa,fc,ta,tc,i,_⟩:=d.o;exact⟨⟨_,(zak i 51).trans rfl⟩,⟨_,(zak i 4).trans rfl⟩,frozen_of_row w _ _ _ _ i,frozen_of_row w _ _ _ _ i⟩
   obtain⟨⟨A4,y⟩,⟨v4,c4⟩,A3,f4⟩:=z;go_enter func74,ntmps74;go_wp2_with fail;obtain⟨c,R⟩:∃c,c=(w.setCell ⟨B,51,none⟩ (.slice none 0 0)).setCell ⟨B,4,none⟩ (.int .i64 0):=⟨_,rfl⟩;rw[←R];have k:c.heap.size=w.heap.size:=by rw[R];simp[World.setCell]
   have A1:Hid (JAt c B X {j with done:=[],ru:=0}):=by rw[R];exact(d.o.putDone (l:=[]) (.inl rfl)).putUsed 0
   have A0:Hid (ButL [B] w.heap.size w c):=by rw[R];exact((ButL.refl _ _ _).set (.inl (by simp)) 51 _).set (.inl (by simp)) 4 _
   clear R y c4 A3 f4 b;obtain⟨C,A⟩:∃C,C=c.alloc (.cells #[.int .i64 0,.int .i64 0,.string ⟨#[]⟩] 31):=⟨_,rfl⟩;have M:Hid (JAt C B (w.heap.size::X) {j with done:=[],ru:=0}):=by rw[A];exact A1.o.more (zaa _ _) (by omega)
   have E:Hid (ButL [B] w.heap.size w C):=by rw[A];exact A0.o.trans (Y:=[]) (ButL.of_below (zaa _ _)) (by omega) (by simp)
   have Q:Hid (C.heap[w.heap.size]?=some (.cells #[.int .i64 0,.int .i64 0,.string ⟨#[]⟩] 31 (0,0))):=by rw[A,←k];exact heap_alloc_new _ _
   have I:w.heap.size<C.heap.size:=by rw[A];simp[k]
   have J:w.heap.size≠B:=by omega
   rw[←A];clear A;refine(zav 0 _).mono ?_;rintro e O ⟨rfl,D⟩;have F:=zab (zad D I Q.o);have N:=zab (M.o.below D);have L:=zab (E.o.trans (Y:=[]) (ButL.of_below D) E.o.size (by simp));clear D;obtain⟨⟨n,p,q⟩,r⟩:=zbn F.o;go_wp2;exact zbd U.o F.o N.o L.o J Z fun W u0 u1 u2=>by simp[results,results74,go_sem,u0,u1,u2]
  ·have b7:(j.work==7)=false:=by simpa using h7
   by_cases h11:j.work=11
   ·have U:Hid (zb4 j=(zlg j,zat 0)):=by rw[Hid,zb4,if_neg h6,if_neg h7,if_pos h11]
    rw[h11]at b;clear h6 h7 h11 b6 b7;go_enter func74,ntmps74;go_wp2_with fail;obtain⟨C,A⟩:∃C,C=w.alloc (.cells #[.int .i64 0,.int .i64 0,.string ⟨#[]⟩] 31):=⟨_,rfl⟩;have M:Hid (JAt C B (w.heap.size::X) j):=by rw[A];exact d.o.more (zaa _ _) (Nat.le_refl _)
    have E:Hid (ButL [B] w.heap.size w C):=by rw[A];exact ButL.of_below (zaa _ _)
    have Q:Hid (C.heap[w.heap.size]?=some (.cells #[.int .i64 0,.int .i64 0,.string ⟨#[]⟩] 31 (0,0))):=by rw[A];exact heap_alloc_new _ _
    have m:C.heap.size=w.heap.size+1:=by rw[A];simp
    have I:w.heap.size<C.heap.size:=by omega
    have J:w.heap.size≠B:=by omega
    have a:Hid (∀x∈(w.heap.size::X),x<C.heap.size):=fun x hx=>by
     rcases List.mem_cons.1 hx with rfl|hx
     ·exact I
     ·have:=s.o x hx;omega
    rw[←A];clear A;refine(zxr B (w.heap.size::X) j C M.o a.o HF.o HQ.o).mono ?_;rintro e O ⟨⟨v,rfl⟩,S,K⟩;have F:Hid (O.heap[w.heap.size]?=some (.cells #[.int .i64 0,.int .i64 0,.string ⟨#[]⟩] 31 (0,0))):=(K.block _ (by omega) (by simpa using J)).trans Q.o;have N:=zab S;have L:Hid (ButL [B] w.heap.size w O):=E.o.trans K E.o.size (by simp);have A2:C.heap.size≤O.heap.size:=K.size;clear S K;have M:=N;have E:=L;have Q:=F;have I:w.heap.size<O.heap.size:=by omega
    go_wp2_with fail;refine(zav 0 _).mono ?_;rintro e w3 ⟨rfl,D⟩;have F:=zab (zad D I Q.o);have N:=zab (M.o.below D);have L:=zab (E.o.trans (Y:=[]) (ButL.of_below D) E.o.size (by simp));clear D;obtain⟨⟨n,p,q⟩,r⟩:=zbn F.o;go_wp2;exact zbd U.o F.o N.o L.o J Z fun W u0 u1 u2=>by simp[results,results74,go_sem,u0,u1,u2]
   ·have U:Hid (zb4 j=(j,zat 0)):=by rw[Hid,zb4,if_neg h6,if_neg h7,if_neg h11]
    have A6:(j.work==11)=false:=by simpa using h11
    clear h6 h7 h11;go_enter func74,ntmps74;go_wp2_with fail;obtain⟨C,A⟩:∃C,C=w.alloc (.cells #[.int .i64 0,.int .i64 0,.string ⟨#[]⟩] 31):=⟨_,rfl⟩;have M:Hid (JAt C B (w.heap.size::X) j):=by rw[A];exact d.o.more (zaa _ _) (Nat.le_refl _)
    have E:Hid (ButL [B] w.heap.size w C):=by rw[A];exact ButL.of_below (zaa _ _)
    have Q:Hid (C.heap[w.heap.size]?=some (.cells #[.int .i64 0,.int .i64 0,.string ⟨#[]⟩] 31 (0,0))):=by rw[A];exact heap_alloc_new _ _
    have m:C.heap.size=w.heap.size+1:=by rw[A];simp
    have I:w.heap.size<C.heap.size:=by omega
    have J:w.heap.size≠B:=by omega
    have a:Hid (∀x∈(w.heap.size::X),x<C.heap.size):=fun x hx=>by
     rcases List.mem_cons.1 hx with rfl|hx
     ·exact I
     ·have:=s.o x hx;omega
    rw[←A];clear A;refine(zav 0 _).mono ?_;rintro e O ⟨rfl,D⟩;have F:=zab (zad D I Q.o);have N:=zab (M.o.below D);have L:=zab (E.o.trans (Y:=[]) (ButL.of_below D) E.o.size (by simp));clear D;obtain⟨⟨n,p,q⟩,r⟩:=zbn F.o;go_wp2;exact zbd U.o F.o N.o L.o J Z fun W u0 u1 u2=>by simp[results,results74,go_sem,u0,u1,u2]
