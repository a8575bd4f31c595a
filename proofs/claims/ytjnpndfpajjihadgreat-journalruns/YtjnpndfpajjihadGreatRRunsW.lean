import Derived.Test.YtjnpndfpajjihadGreatGrJournalRuns42
import Derived.Test.YtjnpndfpajjihadGreatRDo
namespace Go.Proofs.YtjnpndfpajjihadGreat
open Go.Proofs.Tryz
set_option maxRecDepth 100000
set_option maxHeartbeats 40000000
open Go.RowKit
open Value renaming int -> H,slice -> M,pointer -> C,string -> A,agg -> F
open Option renaming none -> Z,some -> J
open Bool renaming false -> O,true -> I
open Go renaming World -> K,Value -> E
open Obj renaming cells -> T
open Ending renaming returned -> N
theorem rQ:OkA ⟨99,0,0,0,⟨#[]⟩⟩:=by
 exact⟨by decide,by decide⟩
theorem qV(a:Option Addr)(c:Nat)(l:List Ac)(w:K)(hA:SegA w a l)(D5:l.length<=maxLen)(hr:l.length*48<=140737488355328)(E3:∀y∈l,OkA y):
  Calls prog 5 #[M a l.length c] w λe w'=>e=N (.bool I)/\Below w.heap.size w w':=by
 have HA:=zA hA;have A4:=zA E3;have A3:=D5;unfold maxLen at A3;clear hA E3;go_enter func5,ntmps5;go_wp2_with (at_builtin;refine cb rfl _ _ rfl (by simp[go_sem]) a c l (by simp[go_sem]) HA.o hr D5 ?_);intro a2 c2 w2 A7 B1;have B3:=zA A7;have A2:=zA B1;clear A7 B1;by_cases hbig:400<l.length
 .have C0:(400:Int)<(l.length:Int):=by omega
  go_wp2_with fail;refine(mZ a2 l.length c2 w2 hbig D5).mono ?_;rintro _ D6 ⟨rfl,E1⟩;have Q:=zA (vA A2.o E1);clear E1;go_wp2_with fail
  refine(nL (J ⟨D6.heap.size,0,Z⟩) 1 [⟨99,0,0,0,⟨#[]⟩⟩] _ (.inr ⟨D6.heap.size,0,rfl,by simp,λi hi=>by
   have e:i=0:=by simpa using hi
   subst e;obtain⟨z,_⟩:=kA (Cc D6 (T #[H .i64 99,H .i64 0,H .i64 0,H .i64 0,A ⟨#[]⟩] 24))
   exact⟨z 0,z 1,z 2,z 3,z 4⟩⟩) (by simp) (by intro y hy;rw[Rc.1 hy];exact rQ)).mono ?_
  rintro _ w4 ⟨G2,B6,rfl,_,_,_,E0⟩;have L:=zA (vA (vA Q.o (qA _ _)) E0);clear E0;go_wp2;exact Tb (by simp[results,results5,go_sem]) rfl ⟨rfl,L.o⟩
 have C0:¬(400:Int)<(l.length:Int):=by omega
 go_wp2_with fail;refine(nL a2 c2 l w2 B3.o (by omega) A4.o).mono ?_;rintro _ D6 ⟨G,arr,rfl,hG,E5,m,E1⟩;have KG:=zA E5;have B5:=zA m;have Q:=zA (vA A2.o E1);have B9:G<D6.heap.size:=(Wb.1 E5).1;clear E5 m E1 B3 A2;go_wp2_with fail
 refine(nL (J ⟨D6.heap.size,0,Z⟩) 1 [⟨99,0,0,0,⟨#[]⟩⟩] _ (.inr ⟨D6.heap.size,0,rfl,by simp,λi hi=>by
  have e:i=0:=by simpa using hi
  subst e;obtain⟨z,_⟩:=kA (Cc D6 (T #[H .i64 99,H .i64 0,H .i64 0,H .i64 0,A ⟨#[]⟩] 24))
  exact⟨z 0,z 1,z 2,z 3,z 4⟩⟩) (by simp) (by intro y hy;rw[Rc.1 hy];exact rQ)).mono ?_
 rintro _ w4 ⟨G2,B6,rfl,_,_,_,E0⟩;have L:=zA (vA (vA Q.o (qA _ _)) E0);have d:=zA (yA (vA (qA _ _) E0) B9 KG.o);have C5:G<w4.heap.size:=(Wb.1 d.o).1;clear E0 KG Q;go_wp2_with fail;refine(BO _).mono ?_;rintro _ w5 ⟨R,rfl,C9,B2,s⟩;have q:=zA (B2 [] (by simp));have E2:=zA (vA L.o s);have A9:=zA (yA s C5 d.o);have A5:G<w5.heap.size:=(Wb.1 A9.o).1;have C7:=q.o.lt;have D7:G≠R:=by omega
 have C6:=zA (HA.o.belowA E2.o);have B8:w.heap.size<=R:=by have:=L.o.size;omega
 clear B2 s d L;go_wp2
 go_loopw [8] (λi wx=>∃k:Nat,k<=l.length/\i=H .i64 k/\Hid (RAt wx R [R] (jOf l k))/\Hid (ButL [R] w5.heap.size w5 wx)) (λi _=>l.length - (intOf i).toNat)
 case atStart=>exact⟨0,Vb _,rfl,by rw[BJ];exact q,ButL.refl _ _ _⟩
 case round=>
  clear q;obtain⟨k,hk,rfl,HK,D8⟩:=hrel;by_cases hkl:k<l.length
  rotate_left
  .have C1:¬(k:Int)<(l.length:Int):=by omega
   go_wp2;exact Tb (by simp[results,results5,go_sem]) rfl ⟨rfl,((ButL.of_below (X:=[]) E2.o).trans D8.o E2.o.size (by simpa using B8)).below⟩
  have C1:(k:Int)<(l.length:Int):=by omega
  have C8:(0:Int)<=(k:Int):=by omega
  rcases HA.o with h0|⟨xb,xo,rfl,E4,hc⟩
  .rw[h0]at hkl;simp at hkl
  obtain⟨t0,t1,t2,t3,t4⟩:=hc k hkl;obtain⟨x,hx⟩:∃x,x=l.getD k ac0:=⟨_,rfl⟩;obtain⟨r,A1⟩:∃r,r=rOf l k:=⟨_,rfl⟩;rw[<-hx]at t0 t1 t2 t3 t4;obtain⟨r0,r1,r2⟩:=B5.o.2 k hkl;rw[<-A1]at r0 r1 r2;have B7:OkA x:=by rw[hx];exact A4.o _ (by rw[List.getD,Ic hkl];exact xe hkl)
  have D9:G<wr.heap.size:=Xb A5 D8.o.size;have A6:xb<w5.heap.size:=Xb E4 E2.o.size;have D4:xb<wr.heap.size:=Xb A6 D8.o.size;have C3:=HK.o.lt;have B:xb≠R:=by omega
  have HG:Hid (∀i u,arr[i]?=J u->wr.cell? ⟨G,i,Z⟩=J u):=λi u hu=>D8.o.cell A5 (by simpa using D7) (((kA A9.o).1 i).trans hu);have U:Hid (∀i u,w.cell? ⟨xb,i,Z⟩=J u->wr.cell? ⟨xb,i,Z⟩=J u):=λi u hu=>D8.o.cell A6 (by simpa using B) (xA E2.o E4 hu);have B4:=zA hx;have C4:=zA A1;have q0:=zA (HG.o _ _ r0);have q1:=zA (HG.o _ _ r1);have q2:=zA (HG.o _ _ r2);have u0:=zA (U.o _ _ t0);have u1:=zA (U.o _ _ t1);have u2:=zA (U.o _ _ t2);have u3:=zA (U.o _ _ t3);have u4:=zA (U.o _ _ t4);clear hc hx A1 t0 t1 t2 t3 t4 r0 r1 r2 HG U;go_wp2;rename_i KK B0;refine(show∀A0:Act,A0=_->Code.wp prog _ _ A0 _ from λA0 D2=>?_) _ rfl;have S:A0.tmps.size=68:=by rw[D2];rfl
  have C2:A0.defers=[]:=by rw[D2]
  have v0:A0.eval (.tmp 0)=M (J ⟨xb,xo,Z⟩) l.length c:=by rw[D2];rfl
  have v3:A0.eval (.tmp 3)=M (J ⟨G,0,Z⟩) l.length l.length:=by rw[D2];rfl
  have v7:A0.eval (.tmp 7)=C (J ⟨R,0,Z⟩):=by rw[D2];rfl
  have v8:A0.eval (.tmp 8)=H .i64 (k:Int):=by rw[D2];rfl
  have A8:=zA D2;clear D2
  have HT:Hid (∀b w',tw wr (λW=>RAt W R [R] (jOf l (k+1))/\ButL [R] wr.heap.size wr W) b w'->ButL [R] wr.heap.size wr w'):=λb w' h=>by
   cases b with
   |false=>exact ButL.of_below (by simpa[tw] using h)
   |true=>exact(show _/\_ by simpa[tw] using h).2
  refine LH (W:=wr) 9 (λW=>RAt W R [R] (jOf l (k+1))/\ButL [R] wr.heap.size wr W) (λ_=>[Is (M (J ⟨G,0,Z⟩) l.length l.length),Is (H .i64 (k:Int)),Is (C (J ⟨G,k*3,Z⟩)),Is (F #[H .i64 r.code,H .i64 r.n,A r.text]),Is (C (J ⟨R,0,Z⟩)),Is (M (J ⟨xb,xo,Z⟩) l.length c),Is (H .i64 (k:Int)),Is (C (J ⟨xb,xo+k*5,Z⟩)),Is (F #[H .i64 x.kind,H .i64 x.h,H .i64 x.b,H .i64 x.n,A x.text]),Is (F #[H .i64 r.code,H .i64 r.n,A r.text]),Is (.bool O)]) (by decide) (by kernel_rfl) (by kernel_rfl) (by kernel_rfl) (Ub _ _).drew ⟨?_,?_,?_,?_,?_,?_,?_,?_,?_,?_,?_,trivial⟩ ?_
  iterate 9
   refine IN S (by decide) λb a w' D3 hR D=>⟨_,?_,rfl⟩
   have j:=(D3.other 0 rfl).trans v0;have z3:=(D3.other 3 rfl).trans v3;have p:=(D3.other 7 rfl).trans v7;have z8:=(D3.other 8 rfl).trans v8;have D1:=HT.o b w' hR;have g0:=D1.cell D9 (by simpa using D7) q0.o;have g1:=D1.cell D9 (by simpa using D7) q1.o;have g2:=D1.cell D9 (by simpa using D7) q2.o;have y0:=D1.cell D4 (by simpa using B) u0.o;have y1:=D1.cell D4 (by simpa using B) u1.o;have y2:=D1.cell D4 (by simpa using B) u2.o;have y3:=D1.cell D4 (by simpa using B) u3.o;have y4:=D1.cell D4 (by simpa using B) u4.o;clear D1
   revert D j z3 p z8
   generalize a.eval=ρ;intro D j z3 p z8
   try simp[Region.binds,lf,Is]at D
   simp only[execOp]
   go_simp
  .refine TR S λa w' D3 hR D=>?_;simp[Region.binds,lf,Is]at D;refine⟨12,#[C (J ⟨R,0,Z⟩),F #[H .i64 x.kind,H .i64 x.h,H .i64 x.b,H .i64 x.n,A x.text]],?_,(zQ R [R] (jOf l k) w' (HK.o.below hR) (by simpa using Nat.lt_of_lt_of_le C3 hR.size) (zH l k).rj x B7.1).mono λ_ w6 ⟨h1,h2,h3⟩=>⟨_,h1,⟨?_,(ButL.of_below hR).trans h3 hR.size (by simp)⟩,?_,λi u _ h=>(Holds.is (.is (.is (.is (.is (.is (.is (.is (.is (.is (.is .nil)))))))))):Holds _ _ _) i u h⟩⟩
   .have pf:=Act.eval_func a
    revert D pf
    generalize a.eval=ρ;intro D pf;simp only[execOp]
    go_simp
   .rw[AI hkl,<-B4.o];exact h2
   .show vRp (doJ (jOf l k) x).2=F #[H .i64 r.code,H .i64 r.n,A r.text];rw[C4.o,rOf,<-B4.o];rfl
  refine IN S (by decide) λb a w' D3 hR D=>⟨_,?_,rfl⟩
  have j:=(D3.other 0 rfl).trans v0;have z3:=(D3.other 3 rfl).trans v3;have p:=(D3.other 7 rfl).trans v7;have z8:=(D3.other 8 rfl).trans v8;have D1:=HT.o b w' hR;have g0:=D1.cell D9 (by simpa using D7) q0.o;have g1:=D1.cell D9 (by simpa using D7) q1.o;have g2:=D1.cell D9 (by simpa using D7) q2.o;have y0:=D1.cell D4 (by simpa using B) u0.o;have y1:=D1.cell D4 (by simpa using B) u1.o;have y2:=D1.cell D4 (by simpa using B) u2.o;have y3:=D1.cell D4 (by simpa using B) u3.o;have y4:=D1.cell D4 (by simpa using B) u4.o;clear D1
  revert D j z3 p z8
  generalize a.eval=ρ;intro D j z3 p z8
  try simp[Region.binds,lf,Is]at D
  simp only[execOp]
  go_simp
  intro a w6 D3 hS D;have p67:a.eval (.tmp 67)=.bool O:=D 10 (by decide);obtain⟨g,hg⟩:∃g:Nat->E,∀t,a.eval (.tmp t)=g t:=⟨_,λ_=>rfl⟩;have hl:=TK D3 68 57 S C2 (by omega) (by kernel_rfl);rw[A8.o]at hl;rw[hg]at p67;simp only[List.take_succ_cons,List.take_zero,List.range',List.map_cons,List.map_nil,List.cons_append,List.nil_append,hg,p67,Nat.reduceAdd,Nat.reduceSub]at hl;rw[hl];show KK _ _;apply B0;have S1:=zA hS.1;have S2:=zA (D8.o.trans (Y:=[R]) hS.2 D8.o.size (by simp));clear D3 hS D p67 hg B0 hl A8 HT q0 q1 q2 u0 u1 u2 u3 u4;go_wp2
  go_roundw
  case rel=>exact⟨k+1,by omega,by go_num,S1,S2⟩
  case measure=>simp[intOf];omega
