/-
  
-/
import Derived.Test.YtjnpndfpajjihacGreatGrTopWhole41
import Derived.Great.BuildSlice
import Derived.Test.YtjnpndfpajjihacGreatXConcat
set_option maxRecDepth 100000
set_option maxHeartbeats 40000000
namespace Go.Proofs.YtjnpndfpajjihacGreat
open Tryz
open Go.RowKit
theorem z0e:∃f,prog.underlying 93=some (.struct f):=by
 have h:(match prog.underlying 93 with|some (.struct _)=>true|_=>false)=true:=by kernel_rfl
 cases hq:prog.underlying 93 with
 |none=>rw[hq] at h;cases h
 |some d=>cases d<;>first|exact⟨_,rfl⟩|(rw[hq] at h;cases h)
theorem zrq (d:Dk)(da:Option Addr)(dc:Nat)(db:Option Addr)(dd:Nat)(p q:Int)(w:World)(hq:IntKind.i64.wrap (q - 1)=q - 1):
  Calls prog 71 #[.agg #[.slice da d.safe.length dc,.slice db d.wr.length dd],.int .i64 p,.int .i64 q] w fun e w'=>e=.returned (.agg (zbs (zfb d p q) da dc db dd none 0 none 0 none 0 none 0 none 0 none 0 none 0 none 0 none 0))∧Below w.heap.size w w':=by
 generalize hn1:d.safe.length=n1;generalize hn2:d.wr.length=n2;obtain⟨B,C⟩:∃B,B=zbs (zfb d p q) da dc db dd none 0 none 0 none 0 none 0 none 0 none 0 none 0 none 0 none 0:=⟨_,rfl⟩;rw[←C];have A:=zab C;have J:=zab hn1;have I:=zab hn2;clear C hn1 hn2;have E:∀o,(w.alloc o).heap.size=w.heap.size+1:=fun o=>by simp
 have D:=zab E;clear E;go_enter func71,ntmps71
 repeat (first|(refine wpList_store_rowTo rfl _ _ _ rfl rfl (w.heap.size+1) B rfl (by rw[A.o,←J.o,←I.o];rfl) _ _ (by rw[←D.o _];exact heap_alloc_new _ _) (by rw[A.o];kernel_rfl) (by rw[A.o];kernel_rfl) (by rw[A.o];kernel_rfl) ?_)|go_step)
 obtain⟨fs,F⟩:=z0e;refine bodyPost_ret (results_cell_row rfl _ _ (w.heap.size+1) _ B _ _ rfl (setRow_heap _ _ _ _ _ _ (by rw[←D.o _];exact heap_alloc_new _ _)) F rfl (by rw[A.o];kernel_rfl)) rfl ⟨rfl,?_⟩;exact((ButL.of_below (X:=[]) (zae (zaa _ _) (zaa _ _))).setRow (.inr (by omega)) B).below
open Go.RowKit
theorem JAt.but {w w':World}{B:Nat}{X Y:List Nat}{j:Jn}(h:JAt w B X j)(hb:ButL Y w.heap.size w w')(hY:∀y∈Y,y∈X)(hn:B∉Y):JAt w' B X j:=by
 obtain⟨k,d,I,c,L,E,M,a,i,ne,F,O,N,b,J,Q,K,S,e,Z,D,U,R,A,C⟩:=h;exact⟨k,d,I,c,L,E,M,a,i,ne,F,O,N,b,J,Q,K,S,e,Z,D,U,R,(hb.block B (Array.getElem?_eq_some_iff.1 A).1 hn).trans A,C.ext (Ext.butL (hb.wider hY))⟩
theorem JAt.roleEq {w:World}{B:Nat}{X:List Nat}{j:Jn}(h:JAt w B X j)(f:Nat→Int)(hf:∀k,k<12→j.role k=f k):JAt w B X {j with role:=f}:=by
 obtain⟨l,a,E,Z,J,C,K,U,c,ne,D,M,L,Y,F,N,I,Q,b,S,A,R,O,i,d⟩:=h;refine⟨l,a,E,Z,J,C,K,U,c,ne,D,M,L,Y,F,N,I,Q,b,S,A,R,O,?_,d⟩
 have e:zbs {j with role:=f} a E Z J C K U c ne D M L Y F N I Q b S A R O=zbs j a E Z J C K U c ne D M L Y F N I Q b S A R O:=by
  simp only[zbs,hf 0 (by decide),hf 1 (by decide),hf 2 (by decide),hf 3 (by decide),hf 4 (by decide),hf 5 (by decide),hf 6 (by decide),hf 7 (by decide),hf 8 (by decide),hf 9 (by decide),hf 10 (by decide),hf 11 (by decide)]
 rw[e];exact i
def zrr (B:Nat)(bs:Nat)(j:Jn)(da:Option Addr)(dc:Nat)(db:Option Addr)(dd:Nat):Nat→Value→World→Prop
 |0,v,_=>v=.pointer (some ⟨B,0,none⟩)
 |1,v,_=>v=.pointer (some ⟨B,0,none⟩)
 |2,v,_=>v=.pointer (some ⟨B,1,none⟩)
 |3,v,_=>v=.agg #[.slice da j.disk.safe.length dc,.slice db j.disk.wr.length dd]
 |4,v,_=>v=.pointer (some ⟨B,0,none⟩)
 |5,v,_=>v=.pointer (some ⟨B,0,none⟩)
 |6,v,_=>v=.pointer (some ⟨B,52,none⟩)
 |7,v,_=>v=.pointer (some ⟨B,54,none⟩)
 |8,v,_=>v=.int .i64 j.fP
 |9,v,_=>v=.pointer (some ⟨B,0,none⟩)
 |10,v,_=>v=.pointer (some ⟨B,0,none⟩)
 |11,v,_=>v=.pointer (some ⟨B,52,none⟩)
 |12,v,_=>v=.pointer (some ⟨B,53,none⟩)
 |13,v,_=>v=.int .i64 j.fN
 |14,v,_=>v=.agg (zbs (zfb j.disk j.fP j.fN) da dc db dd none 0 none 0 none 0 none 0 none 0 none 0 none 0 none 0 none 0)
 |15,v,w=>∃(T:Nat) (cs:Array Value),v=.pointer (some ⟨T,0,none⟩)∧bs≤T∧cs.size=57∧w.heap[T]?=some (.cells cs 93 (0,0))
 |_,_,_=>True
theorem zkh {B:Nat}{bs:Nat}{j:Jn}{da:Option Addr}{dc:Nat}{db:Option Addr}{dd:Nat}{w w':World}(hb:Below w.heap.size w w'){i:Nat}:∀kk uu,kk≠i→zrr B bs j da dc db dd kk uu w→zrr B bs j da dc db dd kk uu w':=by
 intro kk uu _ h
 match kk,h with
 |0,h|1,h|2,h|3,h|4,h|5,h|6,h|7,h|8,h|9,h|10,h|11,h|12,h|13,h|14,h=>exact h
 |15,⟨T,cs,h1,h2,h3,h4⟩=>exact⟨T,cs,h1,h2,h3,zad hb (Array.getElem?_eq_some_iff.1 h4).1 h4⟩
 |_+16,_=>exact trivial
theorem zxl (B:Nat)(X:List Nat)(j:Jn)(w:World)(h:JAt w B X j)(hX:∀x∈X,x<w.heap.size)(hn:j.fL.length≤maxLen)(hq:IntKind.i64.wrap (j.fN - 1)=j.fN - 1):
  Calls prog 111 #[.pointer (some ⟨B,0,none⟩)] w fun e w'=>(∃v,e=.returned v)∧JAt w' B X (zk5 j)∧ButL [B] w.heap.size w w':=by
 have HJ:=zab h;have B7:=h.lt;have D5:=h.1;have HX:=zab hX;have HQ:=zab hq;have HN:=zab hn;obtain⟨_,L,M,Q,O,na,nc,nb,nd,ne,nf,sa,sc,sb,sd,se,sf,ca,cc,fa,fc,ta,tc,h1,hr⟩:=id h;have c1:w.cell? ⟨B,1,none⟩=some (.slice L j.disk.safe.length M):=zak h1 1;have c2:w.cell? ⟨B,2,none⟩=some (.slice Q j.disk.wr.length O):=zak h1 2;have D3:w.cell? ⟨B,53,none⟩=some (.int .i64 j.fN):=zak h1 53;have C9:w.cell? ⟨B,54,none⟩=some (.int .i64 j.fP):=zak h1 54;have C1:=zab c1;have C2:=zab c2;have F4:=zab D3;have F1:=zab C9;have G4:=zab hr.1;clear h hX hq hn h1 hr c1 c2 D3 C9;go_enter func111,ntmps111;go_wp2;rename_i KK C3
 have C5:∀(g:Nat→Value) (D:World) (T:Nat) (c:Array Value) (W2:World),W2.heap[T]?=some (.cells c 93 (0,0))→D=W2.setRow T (zbs (zfb j.disk j.fP j.fN) L M Q O none 0 none 0 none 0 none 0 none 0 none 0 none 0 none 0 none 0)→w.heap.size≤T→Below w.heap.size w W2→KK ⟨#[.pointer (some ⟨B,0,none⟩),g 1,.pointer (some ⟨T,0,none⟩),g 3,g 4,g 5,g 6,g 7,g 8,g 9,g 10,g 11,g 12,g 13,g 14,g 15,g 16,g 17,g 18,g 19,g 20,g 21,g 22,g 23,g 24,g 25,g 26,g 27,g 28,g 29,g 30,g 31,g 32,g 33,g 34,g 35,g 36,g 37,g 38,g 39,g 40,g 41],[]⟩ D:=by
  intro g D T c W2 Z A2 E F;apply C3;clear C3;have E1:¬T=B:=by omega
  have H1:¬B=T:=by omega
  have D2:Hid (Below w.heap.size w D):=by rw[A2];exact((ButL.of_below (X:=[]) F).setRow (.inr E) _).below
  have C0:Hid (JAt D B (T::X) j):=by
   have h0:=HJ.o.more F E;refine h0.but (Y:=[T]) ?_ (by simp) (by simpa using H1);rw[A2];exact(ButL.refl _ _ _).setRow (.inl (by simp)) _
  have C7:Hid (JAt D T (T::X) (zfb j.disk j.fP j.fN)):=by
   rw[A2];exact JAt.putAll (by simp) Z _ _ _ _ _ _ _ _ _ _ _ _ _ _ _ _ _ _ _ _ _ _ ⟨G4.o.ext (Ext.newL F E),zq8 _ _,zq8 _ _,.inl rfl,.inl rfl,.inl rfl,z3b _,Nat.le_refl _,Nat.le_refl _,Nat.le_refl _⟩
  clear A2 F Z
  have a0:D.cell? ⟨B,0,none⟩=some (.int .i64 j.acts):=by
   obtain⟨_,r,s,A5,A3,B6,A1,A6,B8,n,y,B1,A9,A4,B2,B5,B3,A7,A8,K,J,q,B9,I,_⟩:=C0.o;exact(zak I 0).trans rfl
  have b0:(∃v,D.cell? ⟨T,0,none⟩=some v)∧D.frozen? ⟨T,0,none⟩=false:=by
   obtain⟨_,r,s,A5,A3,B6,A1,A6,B8,n,y,B1,A9,A4,B2,B5,B3,A7,A8,K,J,q,B9,I,_⟩:=C7.o;exact⟨⟨_,(zak I 0).trans rfl⟩,frozen_of_row D _ _ _ _ I⟩
  obtain⟨⟨v0,t0⟩,tf⟩:=b0;go_wp2;clear a0 t0 tf;obtain⟨W4,U⟩:∃W4,W4=D.setCell ⟨T,0,none⟩ (.int .i64 j.acts):=⟨_,rfl⟩;rw[←U];have E2:Hid (Below w.heap.size w W4):=by rw[U];exact D2.o.setCell (p:=⟨T,0,none⟩) E _
  have D8:Hid (JAt W4 B (T::X) j):=by rw[U];exact C0.o.set (by simp) E1 0 _
  have E5:Hid (JAt W4 T (T::X) {zfb j.disk j.fP j.fN with acts:=j.acts}):=by rw[U];exact C7.o.putActs _
  clear U D2 C0 C7;obtain⟨R,u⟩:∃R:Nat→Nat→Int,R=fun(k b:Nat)=>if b<k then zb3 j.fL.reverse (b:Int) else 0:=⟨_,rfl⟩
  have G2:Hid (R 0=fun _=>0):=by rw[Hid,u];funext b;simp
  have H7:Hid (∀k,k<12→∀b,upd (R k) (k:Int) (zb3 j.fL.reverse k) b=R (k+1) b):=by
   intro k hk b;rw[u];simp only[upd];by_cases e:b=k
   ·subst e;simp
   ·rw[if_neg (by omega)];by_cases h2:b<k
    ·rw[if_pos h2,if_pos (by omega)]
    ·rw[if_neg h2,if_neg (by omega)]
  have H4:Hid (∀k,k<12→R 12 k=zb3 j.fL.reverse k):=by intro k hk;rw[u];simp[hk]
  clear u
  go_loopw [24] (fun i wr=>∃k:Nat,k≤12∧i=.int .i64 k∧Hid (JAt wr B (T::X) j)∧Hid (JAt wr T (T::X) ({zfb j.disk j.fP j.fN with acts:=j.acts,role:=R k}:Jn))∧Hid (Below w.heap.size w wr)) (fun i _=>12 - (intOf i).toNat)
  case atStart=>exact⟨0,by omega,rfl,D8,by rw[G2.o];exact E5,E2⟩
  case round=>
   obtain⟨k,hk,rfl,B4,C4,C6⟩:=hrel;clear D8 E5 E2;by_cases hk12:k<12
   ·have I9:(k:Int)<12:=by omega
    obtain⟨_,r,s,A5,A3,B6,A1,A6,B8,n,y,B1,A9,A4,B2,B5,B3,A7,A8,K,J,q,B9,I,kr⟩:=id B4.o;have I7:wr.cell? ⟨B,52,none⟩=some (.slice K j.fL.length J):=(zak I 52).trans rfl;have E3:=zab (kr.2.2.2.2.1.ext (Ext.seenL wr _));clear I kr;go_wp2_with fail;refine(zmz K J j.fL k _ E3.o HN.o).mono ?_;rintro e wq ⟨rfl,B0⟩;have G9:=zab (B4.o.below B0);have D4:=zab (C4.o.below B0);have H8:=zab (zae C6.o B0);obtain⟨e1,e2,e3,e4⟩:=D4.o.role k hk12;have I8:(0:Int)≤(k:Int):=by omega
    clear B0 I7 E3 B4 C4 C6 e2 e4;go_wp2
    go_roundw
    case rel=>
     refine⟨k+1,by omega,by go_num,G9.o.set (by simp) E1 _ _,?_,H8.o.setCell (p:=⟨T,7+k*2,none⟩) E _⟩;have h9:=D4.o.putRole k hk12 (zb3 j.fL.reverse k);exact h9.roleEq _ (fun b hb=>H7.o k hk12 b)
    case measure=>first|(simp[intOf];omega)|simp[intOf]
   ·have e:k=12:=by omega
    subst e;obtain⟨_,r,s,A5,A3,B6,A1,A6,B8,n,y,B1,A9,A4,B2,B5,B3,A7,A8,K,J,q,B9,I,kr⟩:=C4.o;obtain⟨_,E8,E9,I3,H0,I1,H9,I6,I2,I0,H3,I4,F6,E7,F5,G7,G1,G0,F7,H5,G5,F0,E6,m1,mr⟩:=B4.o;obtain⟨N,D6⟩:∃N,N=zbs (({zfb j.disk j.fP j.fN with acts:=j.acts,role:=R 12}:Jn)) r s A5 A3 B6 A1 A6 B8 n y B1 A9 A4 B2 B5 B3 A7 A8 K J q B9:=⟨_,rfl⟩;have S:=zab D6;have F2:=zab I;have F8:=zab kr;have E0:=zab m1;clear I kr m1 mr D6;obtain⟨fs,D7⟩:=z0e;have G3:=zab D7;clear D7;have E4:Hid ((prog.info? 93).map (·.size)=some N.size):=by rw[Hid,S.o];exact z3c _ _ _ _ _ _ _ _ _ _ _ _ _ _ _ _ _ _ _ _ _ _ _
    have H2:Hid (N.all (·.oneCell')=true):=by rw[Hid,S.o];exact zhv _ _ _ _ _ _ _ _ _ _ _ _ _ _ _ _ _ _ _ _ _ _ _
    have H6:Hid (wr.heap[T]?=some (.cells N 93 (0,0))):=by rw[Hid,S.o];exact F2.o
    have F9:Hid ((zbs j E8 E9 I3 H0 I1 H9 I6 I2 I0 H3 I4 F6 E7 F5 G7 G1 G0 F7 H5 G5 F0 E6).size=N.size):=by rw[Hid,S.o];kernel_rfl
    repeat (first|(refine wpList_load_row rfl _ _ rfl T rfl _ N _ _ H6.o G3.o rfl E4.o ?_)|(refine wpList_store_rowTo rfl _ _ _ rfl rfl B N rfl rfl _ _ E0.o E4.o F9.o H2.o ?_)|go_step)
    refine bodyPost_end (results_none rfl _ _ _) rfl ⟨⟨_,rfl⟩,?_,(ButL.of_below C6.o).setRow (.inl (by simp)) N⟩;have h9:=(JAt.putAll (B:=B) (X:=T::X) (by simp[D5]) E0.o _ _ _ _ _ _ _ _ _ _ _ _ _ _ _ _ _ _ _ _ _ _ F8.o).less D5;rw[←S.o] at h9;exact h9.roleEq (fun k=>zb3 j.fL.reverse k) H4.o
 have C8:=zab C5;clear C5 C3;refine(show∀A0:Act,A0=_→Code.wp prog _ _ A0 _ from fun A0 hA0=>?_) _ rfl;have A:A0.tmps.size=42:=by rw[hA0];rfl
 have I5:A0.defers=[]:=by rw[hA0]
 have v0:A0.eval (.tmp 0)=.pointer (some ⟨B,0,none⟩):=by rw[hA0];rfl
 clear hA0;refine zba 16 (fun w'=>Below w.heap.size w w') [4,5,6,7,8,9,10,11,12,13,14,15,16,17,18,2] (zrr B w.heap.size j L M Q O) (by kernel_rfl) (by kernel_rfl) (by kernel_rfl) (by kernel_rfl) (by decide) ((Below.refl _ _).drew) ⟨?_,?_,?_,?_,?_,?_,?_,?_,?_,?_,?_,?_,?_,?_,?_,?_,trivial⟩ ?_
 ·exact zbc v0 A (fun _=>rfl) fun ρ w' C z=>by simp only[execOp];go_simp
 ·exact zal 0 4 A (fun _ _ h=>h) (fun _=>rfl) fun ρ w' C p=>by simp only[execOp];go_simp
 ·exact zal 1 5 A (fun _ _ h=>h) (fun _=>rfl) fun ρ w' C p=>by simp only[execOp];go_simp
 ·exact zal 2 6 A (fun _ _ h=>h) (fun _=>rfl) fun ρ w' C p=>by have c0:w'.cell? ⟨B,1,none⟩=some (.slice L j.disk.safe.length M):=zac C B7 C1.o;have c1:w'.cell? ⟨B,2,none⟩=some (.slice Q j.disk.wr.length O):=zac C B7 C2.o;simp only[execOp];go_simp
 ·exact zbc v0 A (fun _=>rfl) fun ρ w' C z=>by simp only[execOp];go_simp
 ·exact zal 4 8 A (fun _ _ h=>h) (fun _=>rfl) fun ρ w' C p=>by simp only[execOp];go_simp
 ·exact zal 5 9 A (fun _ _ h=>h) (fun _=>rfl) fun ρ w' C p=>by simp only[execOp];go_simp
 ·exact zal 6 10 A (fun _ _ h=>h) (fun _=>rfl) fun ρ w' C p=>by simp only[execOp];go_simp
 ·exact zal 7 11 A (fun _ _ h=>h) (fun _=>rfl) fun ρ w' C p=>by have c0:w'.cell? ⟨B,54,none⟩=some (.int .i64 j.fP):=zac C B7 F1.o;simp only[execOp];go_simp
 ·exact zbc v0 A (fun _=>rfl) fun ρ w' C z=>by simp only[execOp];go_simp
 ·exact zal 9 13 A (fun _ _ h=>h) (fun _=>rfl) fun ρ w' C p=>by simp only[execOp];go_simp
 ·exact zal 10 14 A (fun _ _ h=>h) (fun _=>rfl) fun ρ w' C p=>by simp only[execOp];go_simp
 ·exact zal 11 15 A (fun _ _ h=>h) (fun _=>rfl) fun ρ w' C p=>by simp only[execOp];go_simp
 ·exact zal 12 16 A (fun _ _ h=>h) (fun _=>rfl) fun ρ w' C p=>by have c0:w'.cell? ⟨B,53,none⟩=some (.int .i64 j.fN):=zac C B7 F4.o;simp only[execOp];go_simp
 ·intro a w' m C d;have p7:a.eval (.tmp 7)=.agg #[.slice L j.disk.safe.length M,.slice Q j.disk.wr.length O]:=d ⟨3,.data⟩ (by simp) rfl;have D9:a.eval (.tmp 12)=.int .i64 j.fP:=d ⟨8,.data⟩ (by simp) rfl;have D1:a.eval (.tmp 17)=.int .i64 j.fN:=d ⟨13,.data⟩ (by simp) rfl;refine zbp 71 #[.agg #[.slice L j.disk.safe.length M,.slice Q j.disk.wr.length O],.int .i64 j.fP,.int .i64 j.fN] rfl rfl (by have pf:=Act.eval_func a 71;revert p7 D9 D1 pf;generalize a.eval=ρ;intro p7 D9 D1 pf;simp only[execOp];go_simp) _ (zrq j.disk L M Q O j.fP j.fN _ HQ.o) ?_;rintro e w2 ⟨rfl,F⟩;refine⟨_,rfl,_,rfl,zae C F,?_,zkh F⟩;show zrr _ _ _ _ _ _ _ _ ((a.put (some 18) _).eval (.tmp 18)) w2;rw[zav m A (by decide)];exact rfl
 ·intro a w' m C d;refine zfj (.pointer (some ⟨w'.heap.size,0,none⟩)) rfl rfl (w':=w'.alloc (.cells #[.int .i64 0,.slice none 0 0,.slice none 0 0,.int .i64 0,.int .i64 0,.int .i64 0,.bool false,.int .i64 0,.int .i64 0,.int .i64 0,.int .i64 0,.int .i64 0,.int .i64 0,.int .i64 0,.int .i64 0,.int .i64 0,.int .i64 0,.int .i64 0,.int .i64 0,.int .i64 0,.int .i64 0,.int .i64 0,.int .i64 0,.int .i64 0,.int .i64 0,.int .i64 0,.int .i64 0,.int .i64 0,.int .i64 0,.int .i64 0,.int .i64 0,.int .i64 0,.slice none 0 0,.slice none 0 0,.slice none 0 0,.bool false,.int .i64 0,.bool false,.int .i64 0,.bool false,.int .i64 0,.int .i64 0,.slice none 0 0,.slice none 0 0,.slice none 0 0,.bool false,.int .i64 0,.bool false,.int .i64 0,.bool false,.int .i64 0,.slice none 0 0,.slice none 0 0,.int .i64 0,.int .i64 0,.int .i64 0,.slice none 0 0] 93)) (by simp only[execOp];go_simp) ⟨_,rfl,C.alloc C.size _,?_,zkh (zaa _ _)⟩;show zrr _ _ _ _ _ _ _ _ ((a.put (some 2) _).eval (.tmp 2)) _;rw[zav m A (by decide)];exact⟨_,_,rfl,C.size,rfl,heap_alloc_new _ _⟩
 ·intro a W m C d;have G6:a.eval (.tmp 18)=.agg (zbs (zfb j.disk j.fP j.fN) L M Q O none 0 none 0 none 0 none 0 none 0 none 0 none 0 none 0 none 0):=d 14 (by decide);obtain⟨T,c,p2,E,G8,Z⟩:∃(T:Nat) (c:Array Value),a.eval (.tmp 2)=.pointer (some ⟨T,0,none⟩)∧w.heap.size≤T∧c.size=57∧W.heap[T]?=some (.cells c 93 (0,0)):=d 15 (by decide);show wpOps prog _ _ [16] a W;rw[wpOps_cons];refine zke _ (.tmp 2) (.tmp 18) T (zbs (zfb j.disk j.fP j.fN) L M Q O none 0 none 0 none 0 none 0 none 0 none 0 none 0 none 0 none 0) rfl rfl rfl p2 G6 _ c Z (z3c _ _ _ _ _ _ _ _ _ _ _ _ _ _ _ _ _ _ _ _ _ _ _) G8 (zhv _ _ _ _ _ _ _ _ _ _ _ _ _ _ _ _ _ _ _ _ _ _ _) ?_;have F3:a.tmps.size=42:=m.size.trans A;have f0:a.eval (.tmp 0)=.pointer (some ⟨B,0,none⟩):=(m.other 0 rfl).trans v0;have l:a=⟨#[_,_,_,_,_,_,_,_,_,_,_,_,_,_,_,_,_,_,_,_,_,_,_,_,_,_,_,_,_,_,_,_,_,_,_,_,_,_,_,_,_,_],[]⟩:=zcd a 42 F3 (m.defers.trans I5);dsimp only at l;rw[f0,p2] at l;show KK a _;exact(congrArg (fun x=>KK x _) l).mpr (C8.o (fun k=>a.eval (.tmp k)) _ T c W Z rfl E C)
open Go.RowKit
theorem SegZ.ext {w w':World}{a:Option Addr}{l:List RZ}(h:SegZ w a l)(e:Ext w w'):SegZ w' a l:=by
 rcases h with h|⟨b,off,rfl,hlt,hc⟩
 ·exact .inl h
 ·exact .inr ⟨b,off,rfl,Nat.lt_of_lt_of_le hlt e.size,fun j u hj=>e.cell _ _ _ (hc j u hj)⟩
def zn2 (B:Nat)(bs:Nat)(j:Jn)(sa:Option Addr)(sc:Nat)(sb:Option Addr)(sd:Nat)(se:Option Addr)(sf:Nat)(ca:Option Addr)(cc:Nat)(q:List RZ):Nat→Value→World→Prop
 |0,v,_=>v=.pointer (some ⟨B,0,none⟩)
 |1,v,_=>v=.pointer (some ⟨B,0,none⟩)
 |2,v,_=>v=.pointer (some ⟨B,0,none⟩)
 |3,v,_=>v=.pointer (some ⟨B,51,none⟩)
 |4,v,_=>v=.slice ca j.done.length cc
 |5,v,_=>v=.agg #[.int .i64 j.sealed.seq,.slice sa j.sealed.info.length sc,.slice sb j.sealed.data.length sd,.slice se j.sealed.rev.length sf,.bool j.sealed.h0.on,.int .i64 j.sealed.h0.left,.bool j.sealed.h1.on,.int .i64 j.sealed.h1.left,.bool j.sealed.h2.on,.int .i64 j.sealed.h2.left]
 |6,v,w=>∃b1:Nat,v=.slice (some ⟨b1,0,none⟩) 1 1∧bs≤b1∧w.heap[b1]?=some (.cells #[.int .i64 j.sealed.seq,.slice sa j.sealed.info.length sc,.slice sb j.sealed.data.length sd,.slice se j.sealed.rev.length sf,.bool j.sealed.h0.on,.int .i64 j.sealed.h0.left,.bool j.sealed.h1.on,.int .i64 j.sealed.h1.left,.bool j.sealed.h2.on,.int .i64 j.sealed.h2.left] 40 (0,0))
 |7,v,w=>∃b1 b2:Nat,v=.slice (some ⟨b2,0,none⟩) 2 2∧bs≤b2∧w.heap[b2]?=some (.cells #[.slice ca j.done.length cc,.slice (some ⟨b1,0,none⟩) 1 1] 88 (0,0))∧w.heap[b1]?=some (.cells #[.int .i64 j.sealed.seq,.slice sa j.sealed.info.length sc,.slice sb j.sealed.data.length sd,.slice se j.sealed.rev.length sf,.bool j.sealed.h0.on,.int .i64 j.sealed.h0.left,.bool j.sealed.h1.on,.int .i64 j.sealed.h1.left,.bool j.sealed.h2.on,.int .i64 j.sealed.h2.left] 40 (0,0))
 |8,v,w=>w.ownsRow bs 40 10 v (q.length+1) (cellsZ (q++[(⟨sa,sc,sb,sd,se,sf,j.sealed⟩:RZ)]))
 |9,v,_=>v=.pointer (some ⟨B,0,none⟩)
 |10,v,_=>v=.pointer (some ⟨B,51,none⟩)
 |_,_,_=>True
theorem zha {B:Nat}{bs:Nat}{j:Jn}{sa:Option Addr}{sc:Nat}{sb:Option Addr}{sd:Nat}{se:Option Addr}{sf:Nat}{ca:Option Addr}{cc:Nat}{q:List RZ}{w w':World}(hb:Below w.heap.size w w'){i:Nat}:∀kk uu,kk≠i→zn2 B bs j sa sc sb sd se sf ca cc q kk uu w→zn2 B bs j sa sc sb sd se sf ca cc q kk uu w':=by
 intro kk uu _ h
 match kk,h with
 |0,h|1,h|2,h|3,h|4,h|5,h=>exact h
 |6,⟨b1,h1,h2,h3⟩=>exact⟨b1,h1,h2,zad hb (Array.getElem?_eq_some_iff.1 h3).1 h3⟩
 |7,⟨b1,b2,h1,h2,h3,h4⟩=>exact⟨b1,b2,h1,h2,zad hb (Array.getElem?_eq_some_iff.1 h3).1 h3,zad hb (Array.getElem?_eq_some_iff.1 h4).1 h4⟩
 |8,h=>exact zah h hb
 |9,h|10,h=>exact h
 |_+11,_=>exact trivial
theorem zru (B:Nat)(X:List Nat)(j:Jn)(w:World)(h:JAt w B X j)(hX:∀x∈X,x<w.heap.size)(hn:j.done.length≤900):
  Calls prog 110 #[.pointer (some ⟨B,0,none⟩)] w (zdf w B X (zhn j)):=by
 have HJ:=zab h;have L9:=h.lt;have C3:=h.1;have HX:=zab hX;have HN:=zab hn;have HE:Hid (zhn j=({j with sealed:=zcu 0,done:=j.done++[j.sealed],last:=j.sealed.seq},⟨0,j.sealed.seq,⟨#[]⟩⟩)):=rfl;obtain⟨_,da,dc,db,dd,na,nc,nb,nd,ne,nf,L,N,K,I,M,J,U,Z,fa,fc,ta,tc,D,hr⟩:=id h;have J2:w.cell? ⟨B,41,none⟩=some (.int .i64 j.sealed.seq):=zak D 41;have D7:w.frozen? ⟨B,41,none⟩=false:=frozen_of_row w _ _ _ _ D;have H9:w.cell? ⟨B,42,none⟩=some (.slice L j.sealed.info.length N):=zak D 42;have D8:w.frozen? ⟨B,42,none⟩=false:=frozen_of_row w _ _ _ _ D;have F3:w.cell? ⟨B,43,none⟩=some (.slice K j.sealed.data.length I):=zak D 43;have D6:w.frozen? ⟨B,43,none⟩=false:=frozen_of_row w _ _ _ _ D;have H8:w.cell? ⟨B,44,none⟩=some (.slice M j.sealed.rev.length J):=zak D 44;have E6:w.frozen? ⟨B,44,none⟩=false:=frozen_of_row w _ _ _ _ D;have J0:w.cell? ⟨B,45,none⟩=some (.bool j.sealed.h0.on):=zak D 45;have E2:w.frozen? ⟨B,45,none⟩=false:=frozen_of_row w _ _ _ _ D;have E9:w.cell? ⟨B,46,none⟩=some (.int .i64 j.sealed.h0.left):=zak D 46;have E5:w.frozen? ⟨B,46,none⟩=false:=frozen_of_row w _ _ _ _ D;have F8:w.cell? ⟨B,47,none⟩=some (.bool j.sealed.h1.on):=zak D 47;have E3:w.frozen? ⟨B,47,none⟩=false:=frozen_of_row w _ _ _ _ D;have H7:w.cell? ⟨B,48,none⟩=some (.int .i64 j.sealed.h1.left):=zak D 48;have D9:w.frozen? ⟨B,48,none⟩=false:=frozen_of_row w _ _ _ _ D;have H4:w.cell? ⟨B,49,none⟩=some (.bool j.sealed.h2.on):=zak D 49;have E0:w.frozen? ⟨B,49,none⟩=false:=frozen_of_row w _ _ _ _ D;have F7:w.cell? ⟨B,50,none⟩=some (.int .i64 j.sealed.h2.left):=zak D 50;have E1:w.frozen? ⟨B,50,none⟩=false:=frozen_of_row w _ _ _ _ D;have A6:=zab hr.2.2.1;clear h hX hn D hr;have K0:¬w.heap.size=B:=by omega
 have E4:¬w.heap.size+1=B:=by omega
 have B3:w.heap.size≠B:=by omega
 go_enter func110,ntmps110;go_wp2;rename_i KK A9;clear J2 D7 H9 D8 F3 D6 H8 E6 J0 E2 E9 E5 F8 E3 H7 D9 H4 E0 F7 E1;obtain⟨c,r⟩:∃c,c=((((((((((w.setCell ⟨B,41,none⟩ (.int .i64 0)).setCell ⟨B,42,none⟩ (.slice none 0 0)).setCell ⟨B,43,none⟩ (.slice none 0 0)).setCell ⟨B,44,none⟩ (.slice none 0 0)).setCell ⟨B,45,none⟩ (.bool false)).setCell ⟨B,46,none⟩ (.int .i64 0)).setCell ⟨B,47,none⟩ (.bool false)).setCell ⟨B,48,none⟩ (.int .i64 0)).setCell ⟨B,49,none⟩ (.bool false)).setCell ⟨B,50,none⟩ (.int .i64 0)):=⟨_,rfl⟩;rw[←r];have A4:c.heap.size=w.heap.size:=by rw[r];simp[World.setCell]
 have B2:ButL [B] w.heap.size w c:=by rw[r];exact((((((((((ButL.refl _ _ w).set (.inl (by simp)) 41 _).set (.inl (by simp)) 42 _).set (.inl (by simp)) 43 _).set (.inl (by simp)) 44 _).set (.inl (by simp)) 45 _).set (.inl (by simp)) 46 _).set (.inl (by simp)) 47 _).set (.inl (by simp)) 48 _).set (.inl (by simp)) 49 _).set (.inl (by simp)) 50 _
 have C7:Hid (JAt c B X ({j with sealed:=zcu 0}:Jn)):=by rw[r];exact HJ.o.putSealed (t:=zcu 0) (zq8 _ _)
 have A8:=zab (A6.o.ext (Ext.butL (B2.wider (Y:=X) (by simp[C3]))));obtain⟨C,b⟩:∃C,C=(c.alloc (.cells #[.int .i64 0,.int .i64 0,.string ⟨#[]⟩] 31)).alloc (.cells #[.int .i64 j.sealed.seq,.slice L j.sealed.info.length N,.slice K j.sealed.data.length I,.slice M j.sealed.rev.length J,.bool j.sealed.h0.on,.int .i64 j.sealed.h0.left,.bool j.sealed.h1.on,.int .i64 j.sealed.h1.left,.bool j.sealed.h2.on,.int .i64 j.sealed.h2.left] 40):=⟨_,rfl⟩;rw[←b];have m:Below c.heap.size c C:=by rw[b];exact zae (zaa _ _) (zaa _ _)
 have A5:Hid (JAt C B (w.heap.size::X) ({j with sealed:=zcu 0}:Jn)):=C7.o.more m (by omega);have F4:Hid (IsTx (zar C (w.heap.size::X)) (.agg #[.int .i64 j.sealed.seq,.slice L j.sealed.info.length N,.slice K j.sealed.data.length I,.slice M j.sealed.rev.length J,.bool j.sealed.h0.on,.int .i64 j.sealed.h0.left,.bool j.sealed.h1.on,.int .i64 j.sealed.h1.left,.bool j.sealed.h2.on,.int .i64 j.sealed.h2.left]) j.sealed):=A8.o.ext (Ext.newL m (by omega));have A1:Hid (ButL [B] w.heap.size w C):=B2.trans (Y:=[]) (ButL.of_below m) (by omega) (by simp);have C8:(c.alloc (.cells #[.int .i64 0,.int .i64 0,.string ⟨#[]⟩] 31)).heap.size=w.heap.size+1:=by simp[A4]
 have M1:C.heap.size=w.heap.size+2:=by rw[b];simp[A4]
 have B1:Hid (C.heap[w.heap.size]?=some (.cells #[.int .i64 0,.int .i64 0,.string ⟨#[]⟩] 31 (0,0))):=by rw[b];exact zad (zaa _ _) (by omega) (by rw[←A4];exact heap_alloc_new _ _)
 have C1:Hid (C.heap[w.heap.size+1]?=some (.cells #[.int .i64 j.sealed.seq,.slice L j.sealed.info.length N,.slice K j.sealed.data.length I,.slice M j.sealed.rev.length J,.bool j.sealed.h0.on,.int .i64 j.sealed.h0.left,.bool j.sealed.h1.on,.int .i64 j.sealed.h1.left,.bool j.sealed.h2.on,.int .i64 j.sealed.h2.left] 40 (0,0))):=by rw[b,←C8];exact heap_alloc_new _ _
 clear r B2 C7 A8 b m C8 A4 A6
 have E7:Hid (∀x∈(w.heap.size::X),x<C.heap.size):=fun x hx=>by
  rcases List.mem_cons.1 hx with rfl|hx
  ·omega
  ·have:=HX.o x hx;omega
 obtain⟨_,J7,J8,M0,L0,L6,L4,M5,L8,L5,L1,M3,K2,J6,K1,K8,K4,U,Z,L3,K6,J9,J5,m1,mr⟩:=id A5.o;have G7:Hid (C.cell? ⟨B,51,none⟩=some (.slice U j.done.length Z)):=(zak m1 51).trans rfl;obtain⟨q,B6,D4,B7⟩:=mr.2.2.2.1.rz;have A7:=zab B6;have H2:=zab D4;have H1:=zab B7;have D3:Hid (q.length=j.done.length):=by rw[Hid,←A7.o,List.length_map]
 have I0:Hid (q.length≤900):=by rw[Hid,D3.o];exact HN.o
 clear m1 mr B6 D4 B7;obtain⟨⟨y0,y1,y2,y3,y4,y5,y6,y7,y8,y9⟩,_⟩:=zaj C1.o;have Q0:=zab y0;have Q1:=zab y1;have Q2:=zab y2;have Q3:=zab y3;have Q4:=zab y4;have Q5:=zab y5;have Q6:=zab y6;have Q7:=zab y7;have Q8:=zab y8;have Q9:=zab y9;clear y0 y1 y2 y3 y4 y5 y6 y7 y8 y9;have I9:B<C.heap.size:=by omega
 have O:w.heap.size+1<C.heap.size:=by omega
 have G5:Hid (∀{w':World} {F S:Nat},Below C.heap.size C w'→w'.heap[S]?=some (.cells #[.slice U j.done.length Z,.slice (some ⟨F,0,none⟩) 1 1] 88 (0,0))→w'.heap[F]?=some (.cells #[.int .i64 j.sealed.seq,.slice L j.sealed.info.length N,.slice K j.sealed.data.length I,.slice M j.sealed.rev.length J,.bool j.sealed.h0.on,.int .i64 j.sealed.h0.left,.bool j.sealed.h1.on,.int .i64 j.sealed.h1.left,.bool j.sealed.h2.on,.int .i64 j.sealed.h2.left] 40 (0,0))→z5v w' S [(U,Z,q),(some ⟨F,0,none⟩,1,[(⟨L,N,K,I,M,J,j.sealed⟩:RZ)])]):=by
  intro w' F S hb h2 h3;refine⟨(Array.getElem?_eq_some_iff.1 h2).1,fun i x hx=>?_⟩
  match i,hx with
  |0,hx=>
   cases hx;refine⟨?_,(H2.o.ext (Ext.seenL C _)).below hb⟩;rw[D3.o];exact(cell_of_row w' _ 0 _ _ _ h2).trans rfl
  |1,hx=>
   cases hx;refine⟨(cell_of_row w' _ 1 _ _ _ h2).trans rfl,.inr ⟨F,0,rfl,(Array.getElem?_eq_some_iff.1 h3).1,fun k u hu=>?_⟩⟩;rw[Nat.zero_add,cell_of_row w' _ k _ _ _ h3];rw[←hu];simp[cellsZ,RZ.cells]
  |i+2,hx=>simp at hx
 have B0:∀(g:Nat→Value) (Q:World),JAt Q B (w.heap.size::X) ({j with sealed:=zcu 0,done:=j.done++[j.sealed]}:Jn)→ButL [B] C.heap.size C Q→KK ⟨#[.pointer (some ⟨B,0,none⟩),g 1,.pointer (some ⟨w.heap.size,0,none⟩),.pointer (some ⟨w.heap.size+1,0,none⟩),g 4,g 5,g 6,g 7,g 8,g 9,g 10,g 11,g 12,g 13,g 14,g 15,g 16,g 17,g 18,g 19,g 20,g 21,g 22,g 23,g 24,g 25,g 26,g 27,g 28,g 29,g 30],[]⟩ Q:=by
  intro g Q C5 n;apply A9;clear A9;have C2:=zab C5;have G3:Hid (ButL [B] w.heap.size w Q):=A1.o.trans n A1.o.size (by simp);have B9:Hid (Q.heap[w.heap.size]?=some (.cells #[.int .i64 0,.int .i64 0,.string ⟨#[]⟩] 31 (0,0))):=(n.block _ (by omega) (by simpa using B3)).trans B1.o;have F9:Hid (Q.heap[w.heap.size+1]?=some (.cells #[.int .i64 j.sealed.seq,.slice L j.sealed.info.length N,.slice K j.sealed.data.length I,.slice M j.sealed.rev.length J,.bool j.sealed.h0.on,.int .i64 j.sealed.h0.left,.bool j.sealed.h1.on,.int .i64 j.sealed.h1.left,.bool j.sealed.h2.on,.int .i64 j.sealed.h2.left] 40 (0,0))):=(n.block _ (by omega) (by simpa using E4)).trans C1.o;have K3:C.heap.size≤Q.heap.size:=n.size;have M2:B<Q.heap.size:=by omega
  clear C5 n;obtain⟨_,F5,F6,G8,G4,I7,G2,G9,I8,F0,G0,I1,H6,G6,I4,I6,I5,H0,H5,H3,F2,F1,J3,s,_⟩:=id C2.o;obtain⟨v5,c5⟩:∃v,Q.cell? ⟨B,5,none⟩=some v:=⟨_,(zak s 5).trans rfl⟩;have K9:Q.frozen? ⟨B,5,none⟩=false:=frozen_of_row Q _ _ _ _ s;clear s;obtain⟨⟨q0,_⟩,_⟩:=zaj F9.o;obtain⟨⟨y0,y1,y2⟩,yf⟩:=zbl B9.o;go_wp2;obtain⟨W7,A3⟩:∃W7,W7=Q.setCell ⟨B,5,none⟩ (.int .i64 j.sealed.seq):=⟨_,rfl⟩;rw[←A3];have B1:Hid (W7.heap[w.heap.size]?=some (.cells #[.int .i64 0,.int .i64 0,.string ⟨#[]⟩] 31 (0,0))):=by rw[A3];exact(Below.heap_setCell _ _ _ _ B3).trans B9.o
  have A5:Hid (JAt W7 B (w.heap.size::X) {j with sealed:=zcu 0,done:=j.done++[j.sealed],last:=j.sealed.seq}):=by rw[A3];exact C2.o.putLast _
  have A1:Hid (ButL [B] w.heap.size w W7):=by rw[A3];exact G3.o.set (.inl (by simp)) 5 _
  obtain⟨W,hW⟩:∃W,W=(((W7.setCell ⟨w.heap.size,0,none⟩ (.int .i64 0)).setCell ⟨w.heap.size,1,none⟩ (.int .i64 j.sealed.seq)).setCell ⟨w.heap.size,2,none⟩ (.string ⟨#[]⟩)):=⟨_,rfl⟩;have hX:=zf9 B1.o (.int .i64 0) (.int .i64 j.sealed.seq) (.string ⟨#[]⟩);rw[←hW] at hX⊢;obtain⟨⟨u0,u1,u2⟩,_⟩:=zbl hX;refine bodyPost_ret (v:=.agg #[.int .i64 0,.int .i64 j.sealed.seq,.string ⟨#[]⟩]) (by simp[results,results110,go_sem,u0,u1,u2]) rfl ⟨by rw[HE.o];rfl,?_,?_⟩
  ·rw[HE.o,hW];exact zw0 A5.o B3 C3 _ _ _
  ·rw[hW];exact((A1.o.set (.inr (by omega)) 0 _).set (.inr (by omega)) 1 _).set (.inr (by omega)) 2 _
 have B4:=zab B0;clear B0 A9;refine(show∀A0:Act,A0=_→Code.wp prog _ _ A0 _ from fun A0 hA0=>?_) _ rfl;have E:A0.tmps.size=31:=by rw[hA0];rfl
 have J1:A0.defers=[]:=by rw[hA0]
 have v0:A0.eval (.tmp 0)=.pointer (some ⟨B,0,none⟩):=by rw[hA0];rfl
 have v2:A0.eval (.tmp 2)=.pointer (some ⟨w.heap.size,0,none⟩):=by rw[hA0];rfl
 have v3:A0.eval (.tmp 3)=.pointer (some ⟨w.heap.size+1,0,none⟩):=by rw[hA0];rfl
 clear hA0;refine zba 11 (fun w'=>Below C.heap.size C w') [12,13,14,15,16,17,18,19,20,21,22] (zn2 B C.heap.size j L N K I M J U Z q) (by kernel_rfl) (by kernel_rfl) (by kernel_rfl) (by kernel_rfl) (by decide) ((Below.refl _ _).drew) ⟨?_,?_,?_,?_,?_,?_,?_,?_,?_,?_,?_,trivial⟩ ?_
 ·exact zbc v0 E (fun _=>rfl) fun ρ w' A z=>by simp only[execOp];go_simp
 ·exact zbc v0 E (fun _=>rfl) fun ρ w' A z=>by simp only[execOp];go_simp
 ·exact zal 1 13 E (fun _ _ h=>h) (fun _=>rfl) fun ρ w' A p=>by simp only[execOp];go_simp
 ·exact zal 2 14 E (fun _ _ h=>h) (fun _=>rfl) fun ρ w' A p=>by simp only[execOp];go_simp
 ·exact zal 3 15 E (fun _ _ h=>h) (fun _=>rfl) fun ρ w' A p=>by have c0:w'.cell? ⟨B,51,none⟩=some (.slice U j.done.length Z):=zac A I9 G7.o;simp only[execOp];go_simp
 ·exact zbc v3 E (fun _=>rfl) fun ρ w' A z=>by have c0:w'.cell? ⟨w.heap.size+1,0,none⟩=some (.int .i64 j.sealed.seq):=zac A O Q0.o;have c1:w'.cell? ⟨w.heap.size+1,1,none⟩=some (.slice L j.sealed.info.length N):=zac A O Q1.o;have c2:w'.cell? ⟨w.heap.size+1,2,none⟩=some (.slice K j.sealed.data.length I):=zac A O Q2.o;have c3:w'.cell? ⟨w.heap.size+1,3,none⟩=some (.slice M j.sealed.rev.length J):=zac A O Q3.o;have c4:w'.cell? ⟨w.heap.size+1,4,none⟩=some (.bool j.sealed.h0.on):=zac A O Q4.o;have c5:w'.cell? ⟨w.heap.size+1,5,none⟩=some (.int .i64 j.sealed.h0.left):=zac A O Q5.o;have c6:w'.cell? ⟨w.heap.size+1,6,none⟩=some (.bool j.sealed.h1.on):=zac A O Q6.o;have c7:w'.cell? ⟨w.heap.size+1,7,none⟩=some (.int .i64 j.sealed.h1.left):=zac A O Q7.o;have c8:w'.cell? ⟨w.heap.size+1,8,none⟩=some (.bool j.sealed.h2.on):=zac A O Q8.o;have c9:w'.cell? ⟨w.heap.size+1,9,none⟩=some (.int .i64 j.sealed.h2.left):=zac A O Q9.o;simp only[execOp];go_simp
 ·intro a w' R A d;have B8:a.eval (.tmp 17)=.agg #[.int .i64 j.sealed.seq,.slice L j.sealed.info.length N,.slice K j.sealed.data.length I,.slice M j.sealed.rev.length J,.bool j.sealed.h0.on,.int .i64 j.sealed.h0.left,.bool j.sealed.h1.on,.int .i64 j.sealed.h1.left,.bool j.sealed.h2.on,.int .i64 j.sealed.h2.left]:=d ⟨5,.data⟩ (by simp) rfl;refine zfj (.slice (some ⟨w'.heap.size,0,none⟩) 1 1) rfl rfl (w':=w'.alloc (.cells #[.int .i64 j.sealed.seq,.slice L j.sealed.info.length N,.slice K j.sealed.data.length I,.slice M j.sealed.rev.length J,.bool j.sealed.h0.on,.int .i64 j.sealed.h0.left,.bool j.sealed.h1.on,.int .i64 j.sealed.h1.left,.bool j.sealed.h2.on,.int .i64 j.sealed.h2.left] 40)) (by revert B8;generalize a.eval=ρ;intro B8;simp only[execOp];go_simp) ⟨_,rfl,A.alloc A.size _,?_,zha (zaa _ _)⟩;show zn2 _ _ _ _ _ _ _ _ _ _ _ _ _ ((a.put (some 18) _).eval (.tmp 18)) _;rw[zav R E (by decide)];exact⟨_,rfl,A.size,heap_alloc_new _ _⟩
 ·intro a w' R A d;have B5:a.eval (.tmp 16)=.slice U j.done.length Z:=d ⟨4,.data⟩ (by simp) rfl;obtain⟨F,C6,L2,A2⟩:∃F:Nat,a.eval (.tmp 18)=.slice (some ⟨F,0,none⟩) 1 1∧C.heap.size≤F∧w'.heap[F]?=some (.cells #[.int .i64 j.sealed.seq,.slice L j.sealed.info.length N,.slice K j.sealed.data.length I,.slice M j.sealed.rev.length J,.bool j.sealed.h0.on,.int .i64 j.sealed.h0.left,.bool j.sealed.h1.on,.int .i64 j.sealed.h1.left,.bool j.sealed.h2.on,.int .i64 j.sealed.h2.left] 40 (0,0)):=d ⟨6,.data⟩ (by simp) rfl;refine zfj (.slice (some ⟨w'.heap.size,0,none⟩) 2 2) rfl rfl (w':=w'.alloc (.cells #[.slice U j.done.length Z,.slice (some ⟨F,0,none⟩) 1 1] 88)) (by revert B5 C6;generalize a.eval=ρ;intro B5 C6;simp only[execOp];go_simp) ⟨_,rfl,A.alloc A.size _,?_,zha (zaa _ _)⟩;show zn2 _ _ _ _ _ _ _ _ _ _ _ _ _ ((a.put (some 19) _).eval (.tmp 19)) _;rw[zav R E (by decide)];exact⟨F,_,rfl,A.size,heap_alloc_new _ _,zad (zaa _ _) (Array.getElem?_eq_some_iff.1 A2).1 A2⟩
 ·intro a w' R A d;obtain⟨F,S,C4,K5,E8,A2⟩:∃F S:Nat,a.eval (.tmp 19)=.slice (some ⟨S,0,none⟩) 2 2∧C.heap.size≤S∧w'.heap[S]?=some (.cells #[.slice U j.done.length Z,.slice (some ⟨F,0,none⟩) 1 1] 88 (0,0))∧w'.heap[F]?=some (.cells #[.int .i64 j.sealed.seq,.slice L j.sealed.info.length N,.slice K j.sealed.data.length I,.slice M j.sealed.rev.length J,.bool j.sealed.h0.on,.int .i64 j.sealed.h0.left,.bool j.sealed.h1.on,.int .i64 j.sealed.h1.left,.bool j.sealed.h2.on,.int .i64 j.sealed.h2.left] 40 (0,0)):=d ⟨7,.data⟩ (by simp) rfl;refine zbp 141 #[.slice (some ⟨S,0,none⟩) 2 2] rfl rfl (by have pf:=Act.eval_func a 141;revert C4 pf;generalize a.eval=ρ;intro C4 pf;simp only[execOp];go_simp) _ (ztr S 2 2 [(U,Z,q),(some ⟨F,0,none⟩,1,[(⟨L,N,K,I,M,J,j.sealed⟩:RZ)])] w' rfl (by decide) (G5.o A E8 A2) (by have:=I0.o;simp[flatZ];omega)) ?_;rintro e w2 ⟨v',rfl,hO,hb⟩;refine⟨_,rfl,_,rfl,zae A hb,?_,zha hb⟩;show zn2 _ _ _ _ _ _ _ _ _ _ _ _ _ ((a.put (some 20) _).eval (.tmp 20)) _;rw[zav R E (by decide)];have D2:=za9 hO A.size;simp only[flatZ,List.map_cons,List.map_nil,List.flatten_cons,List.flatten_nil,List.append_nil,List.length_append,List.length_cons,List.length_nil,Nat.zero_add] at D2;exact D2
 ·exact zal 0 12 E (fun _ _ h=>h) (fun _=>rfl) fun ρ w' A p=>by simp only[execOp];go_simp
 ·exact zal 9 21 E (fun _ _ h=>h) (fun _=>rfl) fun ρ w' A p=>by simp only[execOp];go_simp
 ·intro a W R A d;have I3:W.ownsRow C.heap.size 40 10 (a.eval (.tmp 20)) (q.length+1) (cellsZ (q++[(⟨L,N,K,I,M,J,j.sealed⟩:RZ)])):=d 8 (by decide);have C9:a.eval (.tmp 22)=.pointer (some ⟨B,51,none⟩):=d 10 (by decide);have G1:a.tmps.size=31:=R.size.trans E;have I2:=zg9 (X:=(w.heap.size::X)) I3 E7.o
  obtain⟨ya,yc,hy,C0,_⟩:=SegTx.of_rz I2 (fun x hx=>by
   rcases List.mem_append.1 hx with h|h
   ·exact(H1.o x h).ext (Ext.freshL A)
   ·rw[List.mem_singleton.1 h];exact F4.o.ext (Ext.freshL A))
  rw[List.map_append,A7.o] at C0;have D5:(q++[(⟨L,N,K,I,M,J,j.sealed⟩:RZ)]).length=(j.done++[j.sealed]).length:=by rw[←A7.o];simp
  rw[D5] at hy;have D1:=A5.o.below A;obtain⟨_,F5,F6,G8,G4,I7,G2,G9,I8,F0,G0,I1,H6,G6,I4,I6,I5,H0,H5,H3,F2,F1,J3,s,_⟩:=id D1;obtain⟨K7,M4⟩:∃v,W.cell? ⟨B,51,none⟩=some v:=⟨_,(zak s 51).trans rfl⟩;have J4:W.frozen? ⟨B,51,none⟩=false:=frozen_of_row W _ _ _ _ s;clear s;show wpOps prog _ _ [11] a W;rw[wpOps_cons];refine zcf rfl rfl (w':=W.setCell ⟨B,51,none⟩ (.slice ya (j.done++[j.sealed]).length yc)) (by generalize (j.done++[j.sealed]).length=nn at *;revert hy C9;generalize a.eval=ρ;intro hy C9;simp only[execOp];go_simp) ?_;have f0:a.eval (.tmp 0)=.pointer (some ⟨B,0,none⟩):=(R.other 0 rfl).trans v0;have f2:a.eval (.tmp 2)=.pointer (some ⟨w.heap.size,0,none⟩):=(R.other 2 rfl).trans v2;have f3:a.eval (.tmp 3)=.pointer (some ⟨w.heap.size+1,0,none⟩):=(R.other 3 rfl).trans v3;have y:a=⟨#[_,_,_,_,_,_,_,_,_,_,_,_,_,_,_,_,_,_,_,_,_,_,_,_,_,_,_,_,_,_,_],[]⟩:=zcd a 31 G1 (R.defers.trans J1);dsimp only at y;rw[f0,f2,f3] at y;show KK a _;exact(congrArg (fun x=>KK x _) y).mpr (B4.o (fun k=>a.eval (.tmp k)) _ (D1.putDone (l:=j.done++[j.sealed]) C0) ((ButL.of_below A).set (.inl (by simp)) 51 _))
open Go.RowKit
theorem ztt (B:Nat)(X:List Nat)(j:Jn)(w:World)(h:JAt w B X j)(hX:∀x∈X,x<w.heap.size)(hn:j.done.length≤900)(hf:j.fL.length≤maxLen)(hq:IntKind.i64.wrap (j.fN - 1)=j.fN - 1):
  Calls prog 74 #[.pointer (some ⟨B,0,none⟩)] w (zdf w B X (zb5 j)):=by
 have d:=zab h;have A8:=h.lt;have b:=h.1;have q:=zab hX;have HN:=zab hn;have HF:=zab hf;have HQ:=zab hq;obtain⟨_,da,dc,db,dd,na,nc,nb,nd,ne,nf,sa,sc,sb,sd,se,sf,ca,cc,fa,fc,ta,tc,u,hr⟩:=id h;have Z:w.cell? ⟨B,55,none⟩=some (.int .i64 j.work):=zak u 55;clear h hX hn hf hq u hr;have A6:¬w.heap.size=B:=by omega
 by_cases h6:j.work=6
 ·have U:Hid (zb5 j=zhn j):=by rw[Hid,zb5,if_pos h6]
  rw[h6] at Z;clear h6;go_enter func74,ntmps74;go_wp2_with fail;obtain⟨C,A⟩:∃C,C=w.alloc (.cells #[.int .i64 0,.int .i64 0,.string ⟨#[]⟩] 31):=⟨_,rfl⟩;have K:Hid (JAt C B (w.heap.size::X) j):=by rw[A];exact d.o.more (zaa _ _) (Nat.le_refl _)
  have D:Hid (ButL [B] w.heap.size w C):=by rw[A];exact ButL.of_below (zaa _ _)
  have Q:Hid (C.heap[w.heap.size]?=some (.cells #[.int .i64 0,.int .i64 0,.string ⟨#[]⟩] 31 (0,0))):=by rw[A];exact heap_alloc_new _ _
  have m:C.heap.size=w.heap.size+1:=by rw[A];simp
  have I:w.heap.size<C.heap.size:=by omega
  have N:w.heap.size≠B:=by omega
  have a:Hid (∀x∈(w.heap.size::X),x<C.heap.size):=fun x hx=>by
   rcases List.mem_cons.1 hx with rfl|hx
   ·exact I
   ·have:=q.o x hx;omega
  rw[←A];clear A;refine(zru B (w.heap.size::X) j C K.o a.o HN.o).mono ?_;rintro e O ⟨rfl,R,L⟩;have F:Hid (O.heap[w.heap.size]?=some (.cells #[.int .i64 0,.int .i64 0,.string ⟨#[]⟩] 31 (0,0))):=(L.block _ (by omega) (by simpa using N)).trans Q.o;have M:=zab R;have J:Hid (ButL [B] w.heap.size w O):=D.o.trans L D.o.size (by simp);have A2:C.heap.size≤O.heap.size:=L.size;clear R L;have y:Hid (zb5 j=((zhn j).1,⟨0,j.sealed.seq,⟨#[]⟩⟩)):=U.o;rw[show vRp (zhn j).2=.agg #[.int .i64 0,.int .i64 j.sealed.seq,.string ⟨#[]⟩] from rfl];obtain⟨⟨n,p,r⟩,s⟩:=zbl F.o;go_wp2;exact zbf y.o F.o M.o J.o N b fun W u0 u1 u2=>by simp[results,results74,go_sem,u0,u1,u2]
 ·have b6:(j.work==6)=false:=by simpa using h6
  by_cases h7:j.work=7
  ·have U:Hid (zb5 j=({j with done:=[],ru:=0},zas 0)):=by rw[Hid,zb5,if_neg h6,if_pos h7]
   rw[h7] at Z;clear h6 h7 b6
   have A1:(∃v,w.cell? ⟨B,51,none⟩=some v)∧(∃v,w.cell? ⟨B,4,none⟩=some v)∧w.frozen? ⟨B,51,none⟩=false∧w.frozen? ⟨B,4,none⟩=false:=by
    obtain⟨_,da,dc,db,dd,na,nc,nb,nd,ne,nf,sa,sc,sb,sd,se,sf,ca,cc,fa,fc,ta,tc,i,_⟩:=d.o;exact⟨⟨_,(zak i 51).trans rfl⟩,⟨_,(zak i 4).trans rfl⟩,frozen_of_row w _ _ _ _ i,frozen_of_row w _ _ _ _ i⟩
   obtain⟨⟨A5,A4⟩,⟨v4,c4⟩,A3,f4⟩:=A1;go_enter func74,ntmps74;go_wp2_with fail;obtain⟨c,S⟩:∃c,c=(w.setCell ⟨B,51,none⟩ (.slice none 0 0)).setCell ⟨B,4,none⟩ (.int .i64 0):=⟨_,rfl⟩;rw[←S];have k:c.heap.size=w.heap.size:=by rw[S];simp[World.setCell]
   have z:Hid (JAt c B X {j with done:=[],ru:=0}):=by rw[S];exact(d.o.putDone (l:=[]) (.inl rfl)).putUsed 0
   have A0:Hid (ButL [B] w.heap.size w c):=by rw[S];exact((ButL.refl _ _ _).set (.inl (by simp)) 51 _).set (.inl (by simp)) 4 _
   clear S A4 c4 A3 f4 Z;obtain⟨C,A⟩:∃C,C=c.alloc (.cells #[.int .i64 0,.int .i64 0,.string ⟨#[]⟩] 31):=⟨_,rfl⟩;have K:Hid (JAt C B (w.heap.size::X) {j with done:=[],ru:=0}):=by rw[A];exact z.o.more (zaa _ _) (by omega)
   have D:Hid (ButL [B] w.heap.size w C):=by rw[A];exact A0.o.trans (Y:=[]) (ButL.of_below (zaa _ _)) (by omega) (by simp)
   have Q:Hid (C.heap[w.heap.size]?=some (.cells #[.int .i64 0,.int .i64 0,.string ⟨#[]⟩] 31 (0,0))):=by rw[A,←k];exact heap_alloc_new _ _
   have I:w.heap.size<C.heap.size:=by rw[A];simp[k]
   have N:w.heap.size≠B:=by omega
   rw[←A];clear A;refine(zat 0 _).mono ?_;rintro e O ⟨rfl,E⟩;have F:=zab (zad E I Q.o);have M:=zab (K.o.below E);have J:=zab (D.o.trans (Y:=[]) (ButL.of_below E) D.o.size (by simp));clear E;obtain⟨⟨n,p,r⟩,s⟩:=zbl F.o;go_wp2;exact zbf U.o F.o M.o J.o N b fun W u0 u1 u2=>by simp[results,results74,go_sem,u0,u1,u2]
  ·have b7:(j.work==7)=false:=by simpa using h7
   by_cases h11:j.work=11
   ·have U:Hid (zb5 j=(zk5 j,zas 0)):=by rw[Hid,zb5,if_neg h6,if_neg h7,if_pos h11]
    rw[h11] at Z;clear h6 h7 h11 b6 b7;go_enter func74,ntmps74;go_wp2_with fail;obtain⟨C,A⟩:∃C,C=w.alloc (.cells #[.int .i64 0,.int .i64 0,.string ⟨#[]⟩] 31):=⟨_,rfl⟩;have K:Hid (JAt C B (w.heap.size::X) j):=by rw[A];exact d.o.more (zaa _ _) (Nat.le_refl _)
    have D:Hid (ButL [B] w.heap.size w C):=by rw[A];exact ButL.of_below (zaa _ _)
    have Q:Hid (C.heap[w.heap.size]?=some (.cells #[.int .i64 0,.int .i64 0,.string ⟨#[]⟩] 31 (0,0))):=by rw[A];exact heap_alloc_new _ _
    have m:C.heap.size=w.heap.size+1:=by rw[A];simp
    have I:w.heap.size<C.heap.size:=by omega
    have N:w.heap.size≠B:=by omega
    have a:Hid (∀x∈(w.heap.size::X),x<C.heap.size):=fun x hx=>by
     rcases List.mem_cons.1 hx with rfl|hx
     ·exact I
     ·have:=q.o x hx;omega
    rw[←A];clear A;refine(zxl B (w.heap.size::X) j C K.o a.o HF.o HQ.o).mono ?_;rintro e O ⟨⟨v,rfl⟩,R,L⟩;have F:Hid (O.heap[w.heap.size]?=some (.cells #[.int .i64 0,.int .i64 0,.string ⟨#[]⟩] 31 (0,0))):=(L.block _ (by omega) (by simpa using N)).trans Q.o;have M:=zab R;have J:Hid (ButL [B] w.heap.size w O):=D.o.trans L D.o.size (by simp);have A2:C.heap.size≤O.heap.size:=L.size;clear R L;have K:=M;have D:=J;have Q:=F;have I:w.heap.size<O.heap.size:=by omega
    go_wp2_with fail;refine(zat 0 _).mono ?_;rintro e w3 ⟨rfl,E⟩;have F:=zab (zad E I Q.o);have M:=zab (K.o.below E);have J:=zab (D.o.trans (Y:=[]) (ButL.of_below E) D.o.size (by simp));clear E;obtain⟨⟨n,p,r⟩,s⟩:=zbl F.o;go_wp2;exact zbf U.o F.o M.o J.o N b fun W u0 u1 u2=>by simp[results,results74,go_sem,u0,u1,u2]
   ·have U:Hid (zb5 j=(j,zas 0)):=by rw[Hid,zb5,if_neg h6,if_neg h7,if_neg h11]
    have A7:(j.work==11)=false:=by simpa using h11
    clear h6 h7 h11;go_enter func74,ntmps74;go_wp2_with fail;obtain⟨C,A⟩:∃C,C=w.alloc (.cells #[.int .i64 0,.int .i64 0,.string ⟨#[]⟩] 31):=⟨_,rfl⟩;have K:Hid (JAt C B (w.heap.size::X) j):=by rw[A];exact d.o.more (zaa _ _) (Nat.le_refl _)
    have D:Hid (ButL [B] w.heap.size w C):=by rw[A];exact ButL.of_below (zaa _ _)
    have Q:Hid (C.heap[w.heap.size]?=some (.cells #[.int .i64 0,.int .i64 0,.string ⟨#[]⟩] 31 (0,0))):=by rw[A];exact heap_alloc_new _ _
    have m:C.heap.size=w.heap.size+1:=by rw[A];simp
    have I:w.heap.size<C.heap.size:=by omega
    have N:w.heap.size≠B:=by omega
    have a:Hid (∀x∈(w.heap.size::X),x<C.heap.size):=fun x hx=>by
     rcases List.mem_cons.1 hx with rfl|hx
     ·exact I
     ·have:=q.o x hx;omega
    rw[←A];clear A;refine(zat 0 _).mono ?_;rintro e O ⟨rfl,E⟩;have F:=zab (zad E I Q.o);have M:=zab (K.o.below E);have J:=zab (D.o.trans (Y:=[]) (ButL.of_below E) D.o.size (by simp));clear E;obtain⟨⟨n,p,r⟩,s⟩:=zbl F.o;go_wp2;exact zbf U.o F.o M.o J.o N b fun W u0 u1 u2=>by simp[results,results74,go_sem,u0,u1,u2]
end Go.Proofs.YtjnpndfpajjihacGreat

