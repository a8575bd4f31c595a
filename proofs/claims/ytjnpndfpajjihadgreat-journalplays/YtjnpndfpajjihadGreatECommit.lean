import Derived.Test.YtjnpndfpajjihadGreatGrJournalRuns23
import Derived.Test.YtjnpndfpajjihadGreatGrJournalRuns37
import Derived.Laws.EntriesVeiled
namespace Go.Proofs.YtjnpndfpajjihadGreat
open Go.Proofs.Tryz
set_option maxRecDepth 100000
set_option maxHeartbeats 40000000
open Go.RowKit Go.Shelf
open Value renaming int -> H,slice -> M,pointer -> C,bool -> Y,agg -> F,tuple -> S
open IntKind renaming i64 -> G
open Option renaming none -> Z,some -> J
open Bool renaming false -> O
open Go renaming World -> K,Value -> E
open Obj renaming cells -> T
open Ending renaming returned -> N
open _root_.ByteArray renaming empty -> U
variable{Bp Bs b base j k:Nat}{a:Option Addr}{l:List (Int×ByteArray)}{w w':World}
attribute [local go_sem] Oper.semAt_some
theorem IsTx.segs{t:Tx}{c:Nat}{L:Option Addr}{Q:Nat}{r:Option Addr}{d:Nat}(h:IsTx w (F #[H G t.seq,M a t.info.length c,M L t.data.length Q,M r t.rev.length d,Y t.h0.on,H G t.h0.left,Y t.h1.on,H G t.h1.left,Y t.h2.on,H G t.h2.left]) t):
  SegW w a t.info/\t.info.length<=maxLen/\SegW w L t.data/\t.data.length<=maxLen/\SegI w r t.rev/\t.rev.length<=maxLen:=by
 obtain⟨b0,b1,b2,b3,b4,b5,e,f1,A,B,C,D,E⟩:=h;simp only[Value.agg.injEq]at e
 injection e with e
 simp only[List.cons.injEq,Value.slice.injEq,true_and,and_true]at e;obtain⟨⟨rfl,rfl⟩,⟨rfl,rfl⟩,rfl,rfl⟩:=e;exact⟨f1,C,A,D,B,E⟩
theorem Fr.weak(h:Fr Bs Bs base w w'):Fr Bs Bp base w w':=
 ⟨h.os,h.tape,h.output,h.size,λk L _ D=>h.low k L D D,λk o Q R B _=>h.box k o Q R B B⟩
theorem PlacesAt.fr{l:List Int}(h:PlacesAt w base Bp l)(Q:Fr Bs Bs base w w')(h1:Bp≠Bs)(h2:base<=Bs):PlacesAt w' base Bp l:=by
 obtain⟨a,c,C,D,A,r⟩:=h;refine⟨a,c,Q.boxed C (by decide) h1 h1,?_,A,r⟩;rcases D with e|⟨b,L,rfl,R,d⟩
 .exact .inl e
 .have B:=(A b L rfl).1;exact .inr ⟨b,L,rfl,Xb R Q.size,λi X=>(Cd (w:=w) (a:=⟨b,L+i,Z⟩) (Q.low b B (by omega) (by omega))).trans (d i X)⟩
theorem GN{e:TypeId}{size n:Nat}{v:E}{D:List E}(h:w.ownsRow b e size v n D)(Q:Fr Bs Bp base w w')(c:e≠108)(h1:Bs<b)(h2:Bp<b):w'.ownsRow b e size v n D:=by
 refine⟨h.1,?_⟩;rcases h.2 with h0|⟨g,cap,B,d,X,R,r⟩
 .exact .inl h0
 .exact .inr ⟨g,cap,B,d,X,Q.box g _ R (λcs fr L=>by simp only[Obj.cells.injEq]at L;exact c L.2.1) (by omega) (by omega),r⟩
theorem SegW.low{L:K}(h:SegW w a l)(hb:Below w.heap.size w L)(Q:Fr Bs Bp base L w')(h1:w.heap.size<=base)(h2:w.heap.size<=Bp)(h3:w.heap.size<=Bs):SegW w' a l:=by
 rcases h with h|⟨b,B,rfl,D,R⟩
 .exact .inl h
 .have A:=(Q.low b (by omega) (by omega) (by omega)).trans (hb.block b D);exact .inr ⟨b,B,rfl,Xb (Xb D hb.size) Q.size,λi X=>⟨(Cd (w:=w) (a:=⟨b,B+i*2,Z⟩) A).trans (R i X).1,(Cd (w:=w) (a:=⟨b,B+i*2+1,Z⟩) A).trans (R i X).2⟩⟩
theorem tT{off:Nat}(h:SegW w (J ⟨b,off,Z⟩) l)(k:Nat):SegW w (J ⟨b,off+10*k*2,Z⟩) (partOf l k):=by
 rcases h with e|⟨b',A0,e,D,L⟩
 .left;rw[e,partOf];simp
 .cases e;refine .inr ⟨b,off+10*k*2,rfl,D,λi Q=>?_⟩;have A:i<10/\10*k+i<l.length:=by rw[partOf,Nc,Uc]at Q;omega
  have B:(partOf l k).getD i (0,U)=l.getD (10*k+i) (0,U):=by
   rw[List.getD,List.getD,partOf,Ig,Rb A.1,ze]
  have:=L (10*k+i) A.2;rw[B,show off+10*k*2+i*2=off+(10*k+i)*2 from by omega];exact this
theorem sZ(q:Int)(l:List (Int×ByteArray))(h:j<=k):(metaB q l j).length<=(metaB q l k).length:=by
 induction h with
 |refl=>exact Sb _
 |step h ih=>rw[GF,Yb];omega
theorem nR(l:List ByteArray)(h:j<l.length):l.take (j+1)=l.take j++[l.getD j U]:=by
 rw[Oc,YA l j U h];rfl
theorem gY{x:Int×ByteArray}(h:x∈partOf l k):x∈l:=Jg (bd h)
theorem Xa(rh ru:Int)(t:Tx)(a0 a2 a4:Option Addr)(a1 a3 a5:Nat)(w:K)(hT:IsTx w (.agg #[H G t.seq,M a0 t.info.length a1,M a2 t.data.length a3,M a4 t.rev.length a5,Y t.h0.on,H G t.h0.left,Y t.h1.on,H G t.h1.left,Y t.h2.on,H G t.h2.left]) t)(S7:t.info.length<=a1)(S8:t.rev.length<=a5)(he:NA rh ru t=0):
  Calls prog 114 #[.agg #[H G rh,H G ru],.agg #[H G t.seq,M a0 t.info.length a1,M a2 t.data.length a3,M a4 t.rev.length a5,Y t.h0.on,H G t.h0.left,Y t.h1.on,H G t.h1.left,Y t.h2.on,H G t.h2.left]] w λe w'=>∃a c,e=N (S #[.agg #[H G (lB rh ru t),H G (cB rh ru t)],M a (commitS rh ru t).length c,H G (NA rh ru t)])/\(commitS rh ru t).length<=c/\(∀b R7,a=J ⟨b,R7,Z⟩->w.heap.size<=b)/\SegSt w' a (commitS rh ru t)/\Below w.heap.size w w':=by
 have HT:=zA hT;obtain⟨hM,n1,hD,n2,hR,n3⟩:=IsTx.segs hT;obtain⟨hg,_,K4,L4⟩:=cK he;have Q:=zA K4;have q:=zA L4;have HG:=zA hg;have J4:=iB hg;have C7:=(VA t).1 hg;have K6:∀x∈t.data,0<=x.1/\x.1<=11:=λx hx=>((zB _).1 C7.2.2.1.2.1).1 x.1 (Wc.2 ⟨x,hx,rfl⟩);have N2:=zA K6;have M9:=zA S7;have P8:=zA S8;have HM:=zA hM;have HD:=zA hD;have HR:=zA hR;have HC:Hid (commitS rh ru t=(homeS t.data++putS (sealP rh ru t) (logB t)++(if 0<t.rev.length+t.info.length then[flushS] else[]))++[AA (1+(sealP rh ru t).getD (logB t).length 0) (lastB t)]++[flushS]):=by rw[Hid,commitS,Rb he]
 have J2:(homeS t.data).length<=13:=by
  rw[homeS,Yb,yD];split<;>simp<;>omega
 have E0:=zA J2
 have B0:(logB t).length<=20:=by
  have:=IF t J4.1 J4.2.2;have h2:needN (t.info.length:Int) (t.rev.length:Int)<=20:=by unfold needN;split<;>(try split)<;>(try split)<;>(try split)<;>omega
  omega
 have A0:=zA B0;clear K4 L4 C7 K6 S7 S8 hM hD hR n1 n2 n3 hT J2 hg B0;refine(Dd (n:=9)).1 ?_;refine callsIn_of_wp_marks func114 rfl trivial ?_ rfl;simp only[ntmps114,List.size_toArray,List.length_cons,List.length_nil,Nat.reduceAdd,Nat.reduceSub,Array.replicate_succ,Array.replicate_zero,List.push_toArray,List.append_toArray,List.nil_append,List.cons_append]
 gi_wp2_with fail
 refine⟨trivial,(Dd.2 (KY rh ru _ t _ (HT.o.below (vA (vA (qA _ _) (qA _ _)) (qA _ _))) (by omega) (by omega))).mono ?_⟩;rintro e D2 ⟨pa,pc,rfl,hP,B7⟩;rw[he];obtain⟨K1,K2,K3,O0⟩:=dF B7;have KT:=zA K2;have KZ:=zA K3;have L3:=zA (vA (vA (vA (qA _ _) (qA _ _)) (qA _ _)) B7);have HP:=zA hP;have Q7:w.heap.size<D2.heap.size:=by omega
 have I9:w.heap.size+1<D2.heap.size:=by omega
 obtain⟨⟨x0,x1,x2,x3,x4,x5,x6,x7,x8,x9⟩,_⟩:=BA K2;have J5:=zA he;clear K1 K2 K3 hP he;generalize sealP rh ru t=PS at *;generalize hsH:lB rh ru t=sH at *;generalize hsU:cB rh ru t=sU at *;have L2:=zA hsH;have J7:=zA hsU;clear hsH hsU
 gi_wp2_with fail
 refine⟨trivial,(Dd.2 (nQ a2 a3 t.data _ ((HD.o.below L3.o).below (vA (qA _ _) (qA _ _))) (by omega) N2.o)).mono ?_⟩;rintro e E ⟨v2,rfl,F7,B8⟩;have KB:=zA (sB B8);have KP:=zA (JB B8);have B6:Below D2.heap.size D2 E:=vA (vA (qA _ _) (qA _ _)) B8
 replace KT:=zA (yA B6 I9 KT.o)
 replace KZ:=zA (yA B6 O0 KZ.o)
 have HS:=zA (HP.o.1.below B6);have HO:Hid (E.ownsRow (D2.heap.size+1+1) 108 3 v2 (homeS t.data).length (cellsSt (homeS t.data))):=zA (by simpa using F7);have N5:=zA (vA L3.o B6);have M1:D2.heap.size+1<E.heap.size:=by have:=B8.size;simp at this;omega
 obtain⟨ha,hc,rfl,_,_⟩:=SegSt.of_owns F7;clear B8 B6 F7 x0 x1 x2 x3 x4 x5 x6 x7 x8 x9;have I8:w.heap.size+1<E.heap.size:=by omega
 have P9:w.heap.size+1<E.heap.size+1:=by omega
 have Q0:w.heap.size+1<E.heap.size+1+1:=by omega
 obtain⟨⟨x0,x1,x2,x3,x4,x5,x6,x7,x8,x9⟩,_⟩:=BA KT.o
 gi_wp2_with fail
 obtain⟨R8,B9⟩:∃R8,R8=((E.alloc (T #[M ha (homeS t.data).length hc] 55)).alloc (T #[.func (.func 175) #[] #[C (J ⟨E.heap.size,0,Z⟩),C (J ⟨D2.heap.size+1,0,Z⟩)]] 220)).alloc (T #[.func (.func 176) #[] #[C (J ⟨w.heap.size+1,0,Z⟩),C (J ⟨E.heap.size+1,0,Z⟩)]] 221):=⟨_,rfl⟩;have S5:Below E.heap.size E R8:=by rw[B9];exact vA (vA (qA _ _) (qA _ _)) (qA _ _)
 have D5:R8.heap.size=E.heap.size+1+1+1:=by rw[B9];simp
 have A3:R8.heap[E.heap.size]?=J (T #[M ha (homeS t.data).length hc] 55)/\R8.heap[E.heap.size+1]?=J (T #[.func (.func 175) #[] #[C (J ⟨E.heap.size,0,Z⟩),C (J ⟨D2.heap.size+1,0,Z⟩)]] 220)/\R8.heap[E.heap.size+1+1]?=J (T #[.func (.func 176) #[] #[C (J ⟨w.heap.size+1,0,Z⟩),C (J ⟨E.heap.size+1,0,Z⟩)]] 221)/\E.heap.size+1+1<R8.heap.size:=by rw[B9];exact dF (Ub _ _)
 rw[<-B9];clear B9 x0 x1 x2 x3 x4 x5 x6 x7 x8 x9;have bS:Hid (Boxed R8 (E.heap.size) 55 (M ha (homeS t.data).length hc)):=A3.1;have bE:Hid (Boxed R8 (E.heap.size+1) 220 (.func (.func 175) #[] #[C (J ⟨E.heap.size,0,Z⟩),C (J ⟨D2.heap.size+1,0,Z⟩)])):=A3.2.1;have bM:Hid (Boxed R8 (E.heap.size+1+1) 221 (.func (.func 176) #[] #[C (J ⟨w.heap.size+1,0,Z⟩),C (J ⟨E.heap.size+1,0,Z⟩)])):=A3.2.2.1
 have L1:StepsAt R8 (D2.heap.size+1+1) (E.heap.size) (homeS t.data++putS PS []):=by
  rw[show putS PS []=[] from by simp[putS],yd];exact⟨_,bS.o,dA HO.o S5⟩
 have L5:PlacesAt R8 (D2.heap.size+1+1) (D2.heap.size+1) (PS.drop ([]:List ByteArray).length):=by
  refine⟨pa,pc,yA S5 M1 KP.o,HS.o.below S5,?_,HP.o.2.2,?_⟩
  .intro b R7 e;rcases HP.o.1 with e0|⟨b',S6,e',A4,_⟩
   .have:=Q.o;rw[e0]at this;simp at this
   .rw[e]at e';cases e';omega
  .intro e;rcases HP.o.1 with e0|⟨b',S6,e',A4,_⟩
   .exact e0
   .rw[e]at e';cases e'
 have I1:Hid (LogAt R8 (D2.heap.size+1+1) (E.heap.size) (D2.heap.size+1) (homeS t.data) PS []):=⟨L1,L5,Vb _⟩
 replace KT:=zA (yA S5 I8 KT.o)
 replace KZ:=zA (yA S5 (by omega) KZ.o)
 replace KB:=zA (yA S5 (by omega) KB.o)
 have B5:=zA (vA N5.o S5);have H4:D2.heap.size+1+1<=R8.heap.size:=by omega
 have X:=zA D5;clear S5 A3 L1 L5 HO HS HP KP bS D5;refine⟨trivial,(bb Fence.wide 8 trivial rfl a4 t.rev.length a5 R8).mono ?_⟩;rintro e W1 ⟨rfl,D9⟩;have F1:Below R8.heap.size R8 W1:=by rw[D9];exact vA (qA _ _) (qA _ _)
 have L6:W1.heap.size=R8.heap.size+1+1:=by rw[D9];simp
 have cS:Boxed W1 R8.heap.size 47 (M a4 t.rev.length a5):=by rw[D9];exact sB (Ub _ _)
 have cN:Boxed W1 (R8.heap.size+1) 3 (H G 20):=by rw[D9];exact JB (Ub _ _)
 have L8:=zA L6;clear D9 L6;have F6:0<t.rev.length->t.rev.length<=a5:=λ_=>P8.o
 have C4:0<t.rev.length->∃b R7,a4=J ⟨b,R7,Z⟩:=λhp=>by
  rcases HR.o with e|⟨b,R7,e,_⟩
  .rw[e]at hp;simp at hp
  .exact⟨b,R7,e⟩
 have J3:=zA C4;have N0:=zA F6;clear C4 F6
 gi_wp2_with fail
 refine JM (F:=Fence.wide) (n:=9) rfl (by decide) (gf:=211) (lb:=#[C (J ⟨R8.heap.size,0,Z⟩),C (J ⟨R8.heap.size+1,0,Z⟩)]) rfl trivial (enters_of func211 (by kernel_rfl) rfl)
  (xS Fence.wide 8 trivial rfl (by decide) R8.heap.size (R8.heap.size+1) t.rev.length a5 a4 (by omega) N0.o J3.o W1 cS cN) (Ub _ _) KeepsB.trans KeepsB.put (λ_=>rfl)
  (λk W=>LogAt W (D2.heap.size+1+1) (E.heap.size) (D2.heap.size+1) (homeS t.data) PS (if k=0 then[] else revB t)/\Fr (E.heap.size) (D2.heap.size+1) (D2.heap.size+1+1) R8 W/\Boxed W R8.heap.size 47 (M a4 t.rev.length a5)/\Boxed W (R8.heap.size+1) 3 (H G 20))
  ?own ?drew ?start ?a1 ?assign ?body ?done
 case own=>
  intro k A B row I u hr;have B1:∀r,row=J r->∃o:Obj,A.heap[r]?=J o/\o.isCells=O:=λr e=>(hr r e).2;refine⟨I.1.kept u B1,I.2.1.kept u (λr e=>by have:=(hr r e).1;have:=L8.o;omega) H4,I.2.2.1.kept u ?_,I.2.2.2.kept u ?_⟩
  .intro e;obtain⟨o,ho,hc⟩:=B1 _ e.symm;rw[show A.heap[R8.heap.size]?=_ from I.2.2.1]at ho;cases ho;cases hc
  .intro e;obtain⟨o,ho,hc⟩:=B1 _ e.symm;rw[show A.heap[R8.heap.size+1]?=_ from I.2.2.2]at ho;cases ho;cases hc
 case drew=>
  intro k V I;exact⟨I.1.below (Ub _ _).drew,I.2.1.trans (Fr.of_below (Ub _ _).drew (by have:=I.2.1.size;omega)),I.2.2.1,I.2.2.2⟩
 case start=>
  refine⟨?_,Fr.of_below F1 H4,cS,cN⟩;rw[Rb rfl];exact I1.o.below F1
 case assign=>
  intro l k W S9 hK
  gi_wp2
  exact hK
 case body=>
  intro l k W hk I;obtain⟨y,R9,c1,c2⟩:=I;have O8:k=0/\0<t.rev.length:=by unfold WA at hk;omega
  obtain⟨rfl,hp⟩:=O8;obtain⟨b,R7,rfl⟩:=J3.o hp;have R1:UB t.rev.length 20 0=t.rev.length:=by unfold UB;split<;>omega
  have R4:=(R9.boxed bM.o (by decide) (by omega) (by omega)).cell;rw[Rb rfl]at y;have B9:=R9.size;have G4:([]:List ByteArray).length<PS.length:=by have:=Q.o;simp;omega
  have O9:SegI W (J ⟨b,R7,Z⟩) t.rev:=by
   have A4:=HR.o;rcases A4 with e|⟨b',S6,e,hl,hc⟩
   .exact .inl e
   .cases e;refine .inr ⟨b,R7,rfl,Xb (Xb hl B5.o.size) R9.size,λi hi=>?_⟩;have R3:b<w.heap.size:=hl;exact(Cd (w:=R8) (a:=⟨b,R7+i,Z⟩) (R9.low b (by omega) (by omega) (by omega))).trans (xA B5.o hl (hc i hi))
  have B0:=A0.o;have S0:=R9.box _ _ KT.o (λcs fr e=>by simp only[Obj.cells.injEq]at e;exact absurd e.2.1 (by decide)) (by omega) (by omega);have S2:=(BA S0).1.1;have S1:=(R9.boxed bE.o (by decide) (by omega) (by omega)).cell
  have S4:PlacesAt W (D2.heap.size+1+1) (D2.heap.size+1) (PS.getD ([]:List ByteArray).length 0::PS.drop (([]:List ByteArray).length+1)):=by
   have:=y.2.1;rw[tJ G4]at this;exact this
  have h:(homeS t.data++putS PS ([])).length<=900:=by
   rw[Yb,MF (Me G4)];have:=E0.o;have:=Q.o;omega
  gi_wp2_with fail
  refine⟨trivial,(CallsIn.inRound l (Dd.2 (lJ (E.heap.size) (D2.heap.size+1) (D2.heap.size+1+1) (w.heap.size+1) (E.heap.size+1) (homeS t.data++putS PS ([])) (PS.getD ([]:List ByteArray).length 0) (PS.drop (([]:List ByteArray).length+1)) ⟨3,0,0,[],t.rev⟩ _ t.seq W ⟨Z,0,J ⟨b,R7,Z⟩,_,rfl,.inl rfl,O9,Vb _,by show t.rev.length<=maxLen;unfold maxLen;omega⟩ S2 (by have:=R9.size;have:=X.o;omega) S1 (by have:=R9.size;have:=X.o;omega) y.1 S4 h (by have:=Q.o;have:=B0;simp;omega) (q.o _).1 (q.o _).2 (by have:=R9.size;omega) (by omega) (by omega)))).mono ?_⟩;rintro e W' ⟨⟨v,rfl⟩,R,k2,L⟩;clear S0 S2 S1 S4 h
  gi_wp2
  have hz:=X.o;refine⟨L.others y.1.boxed y.2.1.boxed,KeepsB.of_fr L c1 c2 (by decide) (by decide) (by omega) (by omega) (by omega) (by omega),?_,R9.trans L,L.boxed c1 (by decide) (by omega) (by omega),L.boxed c2 (by decide) (by omega) (by omega)⟩;rw[revB,Qb (by omega)];exact LogAt.next (d:=[]) G4 R k2
 case done=>
  intro D W hD I hK;obtain⟨y,R9,_,_⟩:=I
  have C9:LogAt W (D2.heap.size+1+1) (E.heap.size) (D2.heap.size+1) (homeS t.data) PS (revB t):=by
   by_cases h0:t.rev.length=0
   .have e1:WA t.rev.length 20=0:=by rw[h0];rfl
    have e2:revB t=[]:=by rw[revB,Rb h0]
    rw[e1,Rb rfl]at y;rw[e2];exact y
   .have e1:WA t.rev.length 20≠0:=by unfold WA;omega
    rw[Qb e1]at y;exact y
  have P0:=zA C9;have M7:=zA R9;have P4:=zA hK;have N6:D<W.heap.size:=(Wb.1 hK).1;have Q8:=R9.size;have R0:R8.heap.size<D:=by have:=L8.o;omega
  have S0:=R9.box _ _ KT.o (λcs fr e=>by simp only[Obj.cells.injEq]at e;exact absurd e.2.1 (by decide)) (by omega) (by omega);obtain⟨⟨x0,x1,x2,x3,x4,x5,x6,x7,x8,x9⟩,_⟩:=BA S0;clear y C9 R9 hK S0 cS cN F1 I1
  gi_wp2_with fail
  refine⟨trivial,(xT Fence.wide 8 trivial rfl a0 t.info.length a1 W).mono ?_⟩;rintro e W2 ⟨rfl,D1⟩;have E7:Below W.heap.size W W2:=by rw[D1];exact vA (qA _ _) (qA _ _)
  have G5:W2.heap.size=W.heap.size+1+1:=by rw[D1];simp
  have dS:Boxed W2 W.heap.size 46 (M a0 t.info.length a1):=by rw[D1];exact sB (Ub _ _)
  have dN:Boxed W2 (W.heap.size+1) 3 (H G 10):=by rw[D1];exact JB (Ub _ _)
  have K7:=zA G5;clear D1 G5 x0 x1 x2 x3 x4 x5 x6 x7 x8 x9
  have D4:0<t.info.length->∃b R7,a0=J ⟨b,R7,Z⟩:=λhp=>by
   rcases HM.o with e|⟨b,R7,e,_⟩
   .rw[e]at hp;simp at hp
   .exact⟨b,R7,e⟩
  have J8:=zA D4;clear D4
  gi_wp2_with fail
  refine JM (F:=Fence.wide) (n:=9) rfl (by decide) (gf:=212) (lb:=#[C (J ⟨W.heap.size,0,Z⟩),C (J ⟨W.heap.size+1,0,Z⟩)]) rfl trivial (enters_of func212 (by kernel_rfl) rfl)
   (aR Fence.wide 8 trivial rfl (by decide) W.heap.size (W.heap.size+1) t.info.length a1 a0 (by omega) (λ_=>M9.o) J8.o W2 dS dN) (Ub _ _) KeepsB.trans KeepsB.put (λ_=>rfl)
   (λk V=>LogAt V (D2.heap.size+1+1) (E.heap.size) (D2.heap.size+1) (homeS t.data) PS (revB t++metaB t.seq t.info k)/\Fr (E.heap.size) (D2.heap.size+1) (D2.heap.size+1+1) R8 V/\Boxed V W.heap.size 46 (M a0 t.info.length a1)/\Boxed V (W.heap.size+1) 3 (H G 10)/\V.heap[D]?=J (.deferred (J [])))
   ?own2 ?drew2 ?start2 ?a2 ?assign2 ?body2 ?done2
  case own2=>
   intro k A B row I u hr;have B1:∀r,row=J r->∃o:Obj,A.heap[r]?=J o/\o.isCells=O:=λr e=>(hr r e).2;have G5:=K7.o;refine⟨I.1.kept u B1,I.2.1.kept u (λr e=>by have:=(hr r e).1;omega) H4,I.2.2.1.kept u ?_,I.2.2.2.1.kept u ?_,(u.block D (Wb.1 I.2.2.2.2).1 (λe=>by have:=(hr D e.symm).1;omega)).trans I.2.2.2.2⟩
   .intro e;obtain⟨o,ho,hc⟩:=B1 _ e.symm;rw[show A.heap[W.heap.size]?=_ from I.2.2.1]at ho;cases ho;cases hc
   .intro e;obtain⟨o,ho,hc⟩:=B1 _ e.symm;rw[show A.heap[W.heap.size+1]?=_ from I.2.2.2.1]at ho;cases ho;cases hc
  case drew2=>
   intro k V I;exact⟨I.1.below (Ub _ _).drew,I.2.1.trans (Fr.of_below (Ub _ _).drew (by have:=I.2.1.size;omega)),I.2.2.1,I.2.2.2.1,I.2.2.2.2⟩
  case start2=>
   refine⟨?_,M7.o.trans (Fr.of_below E7 (by omega)),dS,dN,yA E7 N6 P4.o⟩;rw[show metaB t.seq t.info 0=[] from rfl,yd];exact P0.o.below E7
  case assign2=>
   intro l k V S9 hK
   gi_wp2
   exact hK
  case body2=>
   intro l k V hk I;obtain⟨y,R9,c1,c2,D7⟩:=I;have hp:0<t.info.length:=by unfold WA at hk;omega
   obtain⟨b,R7,rfl⟩:=J8.o hp;have R2:=R9.size;have F8:SegW V (J ⟨b,R7+10*k*2,Z⟩) (partOf t.info k):=tT (HM.o.low B5.o R9 (by omega) (by omega) (by omega)) k;have F4:=LI t.info k
   have H5:∀x∈partOf t.info k,x.2.size<=maxLen:=by
    intro x hx;have C7:=((VA t).1 HG.o).2.1.1;unfold NB at C7;have:=Zc.1 C7 x (gY hx);simp[oA]at this;unfold maxLen;omega
   have Q1:(partOf t.info k).length<=10:=by rw[partOf,Nc];omega
   have J1:=sZ t.seq t.info (show k+1<=WA t.info.length 10 by omega);have K9:(revB t).length+(metaB t.seq t.info (k+1)).length<=(logB t).length:=by rw[logB,Yb];omega
   have C1:=GF t.seq t.info k;obtain⟨dd,C2⟩:∃dd,dd=revB t++metaB t.seq t.info k:=⟨_,rfl⟩;have G7:dd.length+(ME t.seq t.info k).length<=(logB t).length:=by rw[C2,Yb];rw[C1,Yb]at K9;omega
   have M4:Hid (revB t++metaB t.seq t.info (k+1)=dd++[encT ⟨2,t.seq,0,tagsOf (partOf t.info k),[]⟩]++textsOf (partOf t.info k)):=by
    rw[Hid,C1,<-od,<-C2,ME];simp
   rw[<-C2]at y
   have C3:Hid (dd.length+(1+(textsOf (partOf t.info k)).length)<=(logB t).length):=by
    have M8:(ME t.seq t.info k).length=1+(textsOf (partOf t.info k)).length:=by rw[ME,Td];omega
    rw[Hid,<-M8];exact G7
   clear G7;have F9:=zA F8;have O1:=zA H5;have H2:=zA y;have O2:=zA R9;clear F8 H5 J1 K9 C1 C2 y R9;rw[<-F4];clear F4;generalize partOf t.info k=part at *
   gi_wp2_with fail
   refine⟨trivial,(CallsIn.inRound l (Dd.2 (CU (J ⟨b,R7+10*k*2,Z⟩) part.length part V F9.o (by omega) O1.o))).mono ?_⟩;rintro e V1 ⟨v1,v2,rfl,hG,I0,B7⟩;have H6:=H2.o.below B7;have A5:=O2.o.trans (Fr.of_below B7 (by omega));have H9:Fr (E.heap.size) (D2.heap.size+1) (D2.heap.size+1+1) V V1:=Fr.of_below B7 (by omega);obtain⟨ga,gc,rfl,J6,_⟩:=SegG.of_owns hG;obtain⟨ta,tc,P1,O5,_⟩:=SegX.of_owns I0;subst P1;have P3:Hid ((textsOf part).length=part.length):=by rw[Hid,textsOf,xd]
   have K5:Hid ((tagsOf part).length=part.length):=by rw[Hid,tagsOf,xd]
   have s:dd.length<PS.length:=by have:=Q.o;have:=C3.o;omega
   have H8:=zA s;have B0:=A0.o;have S0:=A5.box _ _ KT.o (λcs fr e=>by simp only[Obj.cells.injEq]at e;exact absurd e.2.1 (by decide)) (by omega) (by omega);have S2:=(BA S0).1.1;have S1:=(A5.boxed bE.o (by decide) (by omega) (by omega)).cell
   have S4:PlacesAt V1 (D2.heap.size+1+1) (D2.heap.size+1) (PS.getD (dd).length 0::PS.drop ((dd).length+1)):=by
    have:=H6.2.1;rw[tJ s]at this;exact this
   have h:(homeS t.data++putS PS (dd)).length<=900:=by
    rw[Yb,MF (Me s)];have:=E0.o;have:=Q.o;omega
   have C8:=(A5.boxed bM.o (by decide) (by omega) (by omega)).cell
   gi_wp2_with fail
   refine⟨trivial,(CallsIn.inRound l (Dd.2 (lJ (E.heap.size) (D2.heap.size+1) (D2.heap.size+1+1) (w.heap.size+1) (E.heap.size+1) (homeS t.data++putS PS (dd)) (PS.getD (dd).length 0) (PS.drop ((dd).length+1)) ⟨2,0,0,tagsOf part,[]⟩ _ t.seq V1 ⟨ga,gc,Z,0,rfl,J6,.inl rfl,by show(tagsOf part).length<=maxLen;rw[K5.o];unfold maxLen;omega,Vb _⟩ S2 (by have:=A5.size;have:=X.o;omega) S1 (by have:=A5.size;have:=X.o;omega) H6.1 S4 h (by have:=Q.o;have:=B0;simp;omega) (q.o _).1 (q.o _).2 (by have:=A5.size;omega) (by omega) (by omega)))).mono ?_⟩;rintro e V2 ⟨⟨v,rfl⟩,R,k2,L⟩;have C9:LogAt V2 (D2.heap.size+1+1) (E.heap.size) (D2.heap.size+1) (homeS t.data) PS (dd++[encT ⟨2,t.seq,0,tagsOf part,[]⟩]):=LogAt.next s R k2;have K0:=A5.trans L;have I4:OwnT V2 V.heap.size (M ta (textsOf part).length tc) (textsOf part):=GN I0 L (by decide) (by have:=X.o;omega) (by omega);have N9:=zA C9;have F5:=zA K0;have M0:=zA (H9.trans L);have O6:=zA I4;have Q6:=B7.size;clear S0 S2 S1 S4 h C8 R k2 C9 K0 H6 A5 H9 I0 I4 hG J6 O5 K5
   have M6:Hid ((dd++[encT ⟨2,t.seq,0,tagsOf part,[]⟩]).length+(textsOf part).length<PS.length):=by
    rw[Hid,Yb];have:=C3.o;have:=Q.o;simp;omega
   have Q5:(textsOf part).length<=20:=by have:=C3.o;have:=A0.o;omega
   clear s H8 C3 P3;generalize dd++[encT ⟨2,t.seq,0,tagsOf part,[]⟩]=d2 at *;generalize textsOf part=TX at *
   gi_wp2
   gi_loopw [60] (λi wr=>∃j:Nat,j<=TX.length/\i=H G j/\Hid (LogAt wr (D2.heap.size+1+1) (E.heap.size) (D2.heap.size+1) (homeS t.data) PS (d2++TX.take j))/\Hid (Fr (E.heap.size) (D2.heap.size+1) (D2.heap.size+1+1) V2 wr)) (λi _=>TX.length - (intOf i).toNat)
   case atStart=>exact⟨0,Vb _,rfl,by rw[Ee,yd];exact N9,(Fr.of_below (Ub _ _) (by have:=F5.o.size;omega))⟩
   case round=>
    obtain⟨j,hj,rfl,E1,B2⟩:=hrel;have Q9:=F5.o.size;by_cases A4:j<TX.length
    .have M2:(j:Int)<(TX.length:Int):=by omega
     have J9:OwnT wr V.heap.size (M ta TX.length tc) TX:=GN O6.o B2.o (by decide) (by have:=X.o;omega) (by omega);obtain⟨P2,P5,ee,hS,_⟩:=SegX.of_owns J9;obtain⟨rfl,rfl⟩:ta=P2/\tc=P5:=by simpa using ee
     obtain⟨b2,Q3,rfl,B8,K8⟩:=hS.resolve_left (by intro e;rw[e]at A4;simp at A4);have I7:=K8 j A4;have S1:=((F5.o.trans B2.o).boxed bE.o (by decide) (by omega) (by omega)).cell;have s:(d2++TX.take j).length<PS.length:=by rw[Yb,Nc];have:=M6.o;omega
     have S4:PlacesAt wr (D2.heap.size+1+1) (D2.heap.size+1) (PS.getD (d2++TX.take j).length 0::PS.drop ((d2++TX.take j).length+1)):=by
      have:=E1.o.2.1;rw[tJ s]at this;exact this
     have h:(homeS t.data++putS PS (d2++TX.take j)).length<=900:=by
      rw[Yb,MF (Me s)];have:=E0.o;have:=Q.o;have:=A0.o;omega
     have H8:=zA s;have G1:=zA S4;have L0:=zA h;have P7:=zA (nR TX A4);clear J9 hS K8 ee s S4 h;generalize TX.getD j U=tj at *
     gi_wp2_with fail
     refine⟨trivial,(CallsIn.inRound l (Dd.2 (kP (E.heap.size) (D2.heap.size+1) (D2.heap.size+1+1) (homeS t.data++putS PS (d2++TX.take j)) (PS.getD (d2++TX.take j).length 0) (PS.drop ((d2++TX.take j).length+1)) tj wr E1.o.1 G1.o L0.o (by have:=Q.o;have:=A0.o;simp;omega) (q.o _).1 (q.o _).2 (by have:=B2.o.size;omega) (by omega) (by omega)))).mono ?_⟩;rintro e V3 ⟨⟨v,rfl⟩,R,k2,C0⟩;have N1:=zA (LogAt.next H8.o R k2);have N3:=zA (B2.o.trans C0);clear R k2 C0 G1 L0 E1 B2 S1 I7
     gi_wp2
     go_roundw
     case rel=>exact⟨j+1,by omega,by go_num,by rw[P7.o,<-od];exact N1,N3⟩
     case measure=>simp[intOf];omega
    .have M2:¬((j:Int)<(TX.length:Int)):=by omega
     have e:j=TX.length:=by omega
     subst e;rw[Lc]at E1
     gi_wp2
     have hz:=X.o;have D8:=M0.o.trans B2.o;refine⟨D8.others H2.o.1.boxed H2.o.2.1.boxed,KeepsB.of_fr D8 c1 c2 (by decide) (by decide) (by omega) (by omega) (by omega) (by omega),?_,F5.o.trans B2.o,D8.boxed c1 (by decide) (by omega) (by omega),D8.boxed c2 (by decide) (by omega) (by omega),D8.box D _ D7 (λcs fr e=>by cases e) (by omega) (by omega)⟩;rw[M4.o];exact E1.o
  case done2=>
   intro m W3 R5 I G9;obtain⟨I3,S3,_,_,D7⟩:=I;have F3:LogAt W3 (D2.heap.size+1+1) (E.heap.size) (D2.heap.size+1) (homeS t.data) PS (logB t):=I3;have E3:(logB t).length<PS.length:=by have:=Q.o;omega
   have Q4:=S3.size;clear I3;have B0:=A0.o;have S0:=S3.box _ _ KT.o (λcs fr e=>by simp only[Obj.cells.injEq]at e;exact absurd e.2.1 (by decide)) (by omega) (by omega);have S2:=(BA S0).1.1;have S1:=(S3.boxed bE.o (by decide) (by omega) (by omega)).cell
   have S4:PlacesAt W3 (D2.heap.size+1+1) (D2.heap.size+1) (PS.getD (logB t).length 0::PS.drop ((logB t).length+1)):=by
    have:=F3.2.1;rw[tJ E3]at this;exact this
   have h:(homeS t.data++putS PS (logB t)).length<=900:=by
    rw[Yb,MF (Me E3)];have:=E0.o;have:=Q.o;omega
   have I6:=S0;obtain⟨⟨x0,x1,x2,x3,x4,x5,x6,x7,x8,x9⟩,_⟩:=BA I6;clear S0 I6 S2 S1
   have J0:(homeS t.data++putS PS (logB t)).length<=40:=by
    rw[Yb,MF (Me E3)];have:=E0.o;have:=A0.o;omega
   have D5:=X.o;have O3:=zA D5;clear D5;have R6:E.heap.size+1+1<R8.heap.size:=by have:=O3.o;omega
   have Q2:D<m:=by have:=K7.o;omega
   by_cases hz:0<t.rev.length+t.info.length
   .have N8:(0:Int)<(t.rev.length:Int)+(t.info.length:Int):=by omega
    gi_wp2_with fail
    refine⟨trivial,(Dd.2 (yL (E.heap.size) (E.heap.size) (D2.heap.size+1+1) (homeS t.data++putS PS (logB t)) W3 F3.1 h (by omega))).mono ?_⟩;rintro e W4 ⟨⟨v4,rfl⟩,R,C0⟩;have L:Fr (E.heap.size) (D2.heap.size+1) (D2.heap.size+1+1) W3 W4:=C0.weak;have A6:=S3.trans L;have N4:=S4.fr C0 (by omega) (by omega);have M5:=L.box D _ D7 (λcs fr e=>by cases e) (by omega) (by omega);have L9:=L.box m _ G9 (λcs fr e=>by cases e) (by omega) (by omega);have F0:(homeS t.data++putS PS (logB t)++[flushS]).length<=890:=by rw[Yb];show _+1<=890;omega
    clear L C0 F3 S3 D7 G9 S4 h x0 x1 x2 x3 x4 x5 x6 x7 x8 x9;have C8:=(A6.boxed bM.o (by decide) (by omega) (by omega)).cell;have S0:=A6.box _ _ KT.o (λcs fr e=>by simp only[Obj.cells.injEq]at e;exact absurd e.2.1 (by decide)) (by omega) (by omega);have S2:=(BA S0).1.1;have S1:=(A6.boxed bE.o (by decide) (by omega) (by omega)).cell
    gi_wp2_with fail
    refine⟨trivial,(Dd.2 (lJ (E.heap.size) (D2.heap.size+1) (D2.heap.size+1+1) (w.heap.size+1) (E.heap.size+1) (homeS t.data++putS PS (logB t)++[flushS]) (PS.getD (logB t).length 0) (PS.drop ((logB t).length+1)) ⟨4,0,0,[],[]⟩ _ t.seq W4 ⟨Z,0,Z,0,rfl,.inl rfl,.inl rfl,Vb _,Vb _⟩ S2 (by have:=A6.size;have:=X.o;omega) S1 (by have:=A6.size;have:=X.o;omega) R N4 (by omega) (by have:=Q.o;have:=A0.o;simp;omega) (q.o _).1 (q.o _).2 (by have:=A6.size;omega) (by omega) (by omega))).mono ?_⟩;rintro e W5 ⟨⟨v5,rfl⟩,R,k2,L⟩;have C5:=A6.trans L;have B3:=L.box D _ M5 (λcs fr e=>by cases e) (by omega) (by omega);have A7:=L.box m _ L9 (λcs fr e=>by cases e) (by omega) (by omega)
    have A8:(homeS t.data++putS PS (logB t)++[flushS]++[AA (1+PS.getD (logB t).length 0) (encT ⟨4,t.seq,0,[],[]⟩)]).length<=900:=by
     rw[Yb];show _+1<=900;omega
    have G3:=zA R;have D3:=zA C5;have F2:=zA B3;have E5:=zA A7;have E4:=zA A8;clear C8 S0 S2 S1 R k2 L C5 B3 A7 A8 F0
    gi_wp2_with fail
    refine⟨trivial,(Dd.2 (yL (E.heap.size) (D2.heap.size+1) (D2.heap.size+1+1) _ W5 G3.o E4.o (by have:=D3.o.size;omega))).mono ?_⟩;rintro e W6 ⟨⟨v6,rfl⟩,R,L⟩;have A1:=zA (D3.o.trans L);have E9:=zA (L.box D _ F2.o (λcs fr e=>by cases e) (by omega) (by omega));have E8:=zA (L.box m _ E5.o (λcs fr e=>by cases e) (by omega) (by omega));have z:commitS rh ru t=homeS t.data++putS PS (logB t)++[flushS]++[AA (1+PS.getD (logB t).length 0) (encT ⟨4,t.seq,0,[],[]⟩)]++[flushS]:=by rw[HC.o,Rb hz];rfl
    rw[<-z]at R;have M3:=zA z;obtain⟨O4,b6,o6⟩:=R;have I2:=zA o6;obtain⟨fa,fc,rfl,A9,A2⟩:=SegSt.of_owns o6;have F9:=zA A9;have O7:=zA A2;have c6:=b6.cell;have D6:=A1.o.box _ _ KB.o (λcs fr e=>by simp only[Obj.cells.injEq]at e;exact absurd e.2.1 (by decide)) (by omega) (by omega);have B4:=A1.o.box _ _ KZ.o (λcs fr e=>by simp only[Obj.cells.injEq]at e;exact absurd e.2.1 (by decide)) (by omega) (by omega);obtain⟨⟨y0,y1⟩,_⟩:=XA D6;obtain⟨⟨z0,z1⟩,P6,N7⟩:=XA B4;have H7:=zA A1.o.size;have G8:=zA B4;clear L z b6 o6 A9 A2 D6 B4
    gi_wp2
    gi_region
    all_goals
     gi_wp2
     have E2:=ZN G8.o (H G sH) (H G sU);have q2:((W6.setCell ⟨w.heap.size+1+1,0,Z⟩ (H G sH)).setCell ⟨w.heap.size+1+1,1,Z⟩ (H G sU)).drew.heap[m]?=J (.deferred (J [])):=(Sc _ _ _ _ (by simp;omega)).trans ((Sc _ _ _ _ (by simp;omega)).trans E8.o);have q1:(((W6.setCell ⟨w.heap.size+1+1,0,Z⟩ (H G sH)).setCell ⟨w.heap.size+1+1,1,Z⟩ (H G sU)).drew.putObj m (.deferred Z)).heap[D]?=J (.deferred (J [])):=(World.putObj_heap_other (by omega)).trans ((Sc _ _ _ _ (by simp;omega)).trans ((Sc _ _ _ _ (by simp;omega)).trans E9.o));have G0:D2.heap.size+1+1<=W6.heap.size:=by have:=H7.o;omega
     have C6:=ownsRow_putObj (ownsRow_putObj (dA (Jc (Jc I2.o (a:=⟨w.heap.size+1+1,0,Z⟩) (by simp;omega) (H G sH)) (a:=⟨w.heap.size+1+1,1,Z⟩) (by simp;omega) (H G sU)) (Ub _ _).drew) (.deferred Z) q2 rfl) (.deferred Z) q1 rfl;have H1:=((((B5.o.trans (A1.o.below (by omega) (by omega) (by omega))).setCell (p:=⟨w.heap.size+1+1,0,Z⟩) (by simp;omega) (H G sH)).setCell (p:=⟨w.heap.size+1+1,1,Z⟩) (by simp;omega) (H G sU)).drew.trans (belowK_b (w:=w) (Sb _) _ m _ (.deferred Z) (by omega) q2 rfl rfl)).trans (belowK_b (w:=w) (Sb _) _ D _ (.deferred Z) (by omega) q1 rfl rfl);have G2:((((W6.setCell ⟨w.heap.size+1+1,0,Z⟩ (H G sH)).setCell ⟨w.heap.size+1+1,1,Z⟩ (H G sU)).drew.putObj m (.deferred Z)).putObj D (.deferred Z)).heap[w.heap.size+1+1]?=J (T #[H G sH,H G sU] 39 (0,0)):=(World.putObj_heap_other (by omega)).trans ((World.putObj_heap_other (by omega)).trans E2);obtain⟨⟨u0,u1⟩,_⟩:=XA G2;refine⟨by simp,.inl ⟨m,_,rfl,run_takeDeferred q2,?_⟩⟩;refine⟨by simp,.inl ⟨D,_,rfl,run_takeDeferred q1,?_⟩⟩;refine⟨S #[.agg #[H G sH,H G sU],M fa (commitS rh ru t).length fc,H G 0],by simp[results,results114,go_sem,u0,u1],?_⟩;have E6:=OG C6 rfl;obtain⟨H0,G6,e9,I5,H3⟩:=SegSt.of_owns C6;obtain⟨rfl,rfl⟩:fa=H0/\fc=G6:=by simpa using e9
     exact⟨fa,fc,by rw[L2.o,J7.o,J5.o],E6,λb R7 e=>by have:=H3 b R7 e;have:=B5.o.size;omega,I5,H1⟩
   .have N8:¬((0:Int)<(t.rev.length:Int)+(t.info.length:Int)):=by omega
    have F0:(homeS t.data++putS PS (logB t)).length<=890:=by have:=J0;omega
    have C8:=(S3.boxed bM.o (by decide) (by omega) (by omega)).cell;have S0:=S3.box _ _ KT.o (λcs fr e=>by simp only[Obj.cells.injEq]at e;exact absurd e.2.1 (by decide)) (by omega) (by omega);have S2:=(BA S0).1.1;have S1:=(S3.boxed bE.o (by decide) (by omega) (by omega)).cell
    gi_wp2_with fail
    refine⟨trivial,(Dd.2 (lJ (E.heap.size) (D2.heap.size+1) (D2.heap.size+1+1) (w.heap.size+1) (E.heap.size+1) (homeS t.data++putS PS (logB t)) (PS.getD (logB t).length 0) (PS.drop ((logB t).length+1)) ⟨4,0,0,[],[]⟩ _ t.seq W3 ⟨Z,0,Z,0,rfl,.inl rfl,.inl rfl,Vb _,Vb _⟩ S2 (by have:=S3.size;have:=X.o;omega) S1 (by have:=S3.size;have:=X.o;omega) F3.1 S4 (by omega) (by have:=Q.o;have:=A0.o;simp;omega) (q.o _).1 (q.o _).2 (by have:=S3.size;omega) (by omega) (by omega))).mono ?_⟩;rintro e W5 ⟨⟨v5,rfl⟩,R,k2,L⟩;have C5:=S3.trans L;have B3:=L.box D _ D7 (λcs fr e=>by cases e) (by omega) (by omega);have A7:=L.box m _ G9 (λcs fr e=>by cases e) (by omega) (by omega)
    have A8:(homeS t.data++putS PS (logB t)++[AA (1+PS.getD (logB t).length 0) (encT ⟨4,t.seq,0,[],[]⟩)]).length<=900:=by
     rw[Yb];show _+1<=900;omega
    have G3:=zA R;have D3:=zA C5;have F2:=zA B3;have E5:=zA A7;have E4:=zA A8;clear C8 S0 S2 S1 R k2 L C5 B3 A7 A8 F0
    gi_wp2_with fail
    refine⟨trivial,(Dd.2 (yL (E.heap.size) (D2.heap.size+1) (D2.heap.size+1+1) _ W5 G3.o E4.o (by have:=D3.o.size;omega))).mono ?_⟩;rintro e W6 ⟨⟨v6,rfl⟩,R,L⟩;have A1:=zA (D3.o.trans L);have E9:=zA (L.box D _ F2.o (λcs fr e=>by cases e) (by omega) (by omega));have E8:=zA (L.box m _ E5.o (λcs fr e=>by cases e) (by omega) (by omega));have z:commitS rh ru t=homeS t.data++putS PS (logB t)++[AA (1+PS.getD (logB t).length 0) (encT ⟨4,t.seq,0,[],[]⟩)]++[flushS]:=by rw[HC.o,Qb hz,yd];rfl
    rw[<-z]at R;have M3:=zA z;obtain⟨O4,b6,o6⟩:=R;have I2:=zA o6;obtain⟨fa,fc,rfl,A9,A2⟩:=SegSt.of_owns o6;have F9:=zA A9;have O7:=zA A2;have c6:=b6.cell;have D6:=A1.o.box _ _ KB.o (λcs fr e=>by simp only[Obj.cells.injEq]at e;exact absurd e.2.1 (by decide)) (by omega) (by omega);have B4:=A1.o.box _ _ KZ.o (λcs fr e=>by simp only[Obj.cells.injEq]at e;exact absurd e.2.1 (by decide)) (by omega) (by omega);obtain⟨⟨y0,y1⟩,_⟩:=XA D6;obtain⟨⟨z0,z1⟩,P6,N7⟩:=XA B4;have H7:=zA A1.o.size;have G8:=zA B4;clear L z b6 o6 A9 A2 D6 B4
    gi_wp2
    gi_region
    all_goals
     gi_wp2
     have E2:=ZN G8.o (H G sH) (H G sU);have q2:((W6.setCell ⟨w.heap.size+1+1,0,Z⟩ (H G sH)).setCell ⟨w.heap.size+1+1,1,Z⟩ (H G sU)).drew.heap[m]?=J (.deferred (J [])):=(Sc _ _ _ _ (by simp;omega)).trans ((Sc _ _ _ _ (by simp;omega)).trans E8.o);have q1:(((W6.setCell ⟨w.heap.size+1+1,0,Z⟩ (H G sH)).setCell ⟨w.heap.size+1+1,1,Z⟩ (H G sU)).drew.putObj m (.deferred Z)).heap[D]?=J (.deferred (J [])):=(World.putObj_heap_other (by omega)).trans ((Sc _ _ _ _ (by simp;omega)).trans ((Sc _ _ _ _ (by simp;omega)).trans E9.o));have G0:D2.heap.size+1+1<=W6.heap.size:=by have:=H7.o;omega
     have C6:=ownsRow_putObj (ownsRow_putObj (dA (Jc (Jc I2.o (a:=⟨w.heap.size+1+1,0,Z⟩) (by simp;omega) (H G sH)) (a:=⟨w.heap.size+1+1,1,Z⟩) (by simp;omega) (H G sU)) (Ub _ _).drew) (.deferred Z) q2 rfl) (.deferred Z) q1 rfl;have H1:=((((B5.o.trans (A1.o.below (by omega) (by omega) (by omega))).setCell (p:=⟨w.heap.size+1+1,0,Z⟩) (by simp;omega) (H G sH)).setCell (p:=⟨w.heap.size+1+1,1,Z⟩) (by simp;omega) (H G sU)).drew.trans (belowK_b (w:=w) (Sb _) _ m _ (.deferred Z) (by omega) q2 rfl rfl)).trans (belowK_b (w:=w) (Sb _) _ D _ (.deferred Z) (by omega) q1 rfl rfl);have G2:((((W6.setCell ⟨w.heap.size+1+1,0,Z⟩ (H G sH)).setCell ⟨w.heap.size+1+1,1,Z⟩ (H G sU)).drew.putObj m (.deferred Z)).putObj D (.deferred Z)).heap[w.heap.size+1+1]?=J (T #[H G sH,H G sU] 39 (0,0)):=(World.putObj_heap_other (by omega)).trans ((World.putObj_heap_other (by omega)).trans E2);obtain⟨⟨u0,u1⟩,_⟩:=XA G2;refine⟨by simp,.inl ⟨m,_,rfl,run_takeDeferred q2,?_⟩⟩;refine⟨by simp,.inl ⟨D,_,rfl,run_takeDeferred q1,?_⟩⟩;refine⟨S #[.agg #[H G sH,H G sU],M fa (commitS rh ru t).length fc,H G 0],by simp[results,results114,go_sem,u0,u1],?_⟩;have E6:=OG C6 rfl;obtain⟨H0,G6,e9,I5,H3⟩:=SegSt.of_owns C6;obtain⟨rfl,rfl⟩:fa=H0/\fc=G6:=by simpa using e9
     exact⟨fa,fc,by rw[L2.o,J7.o,J5.o],E6,λb R7 e=>by have:=H3 b R7 e;have:=B5.o.size;omega,I5,H1⟩
