/-
  
-/
import Derived.Test.YtjnpndfpajjihacGreatEPure
import Derived.Test.YtjnpndfpajjihacGreatGrTopWhole45
import Derived.Laws.EntriesVeiled
set_option maxRecDepth 100000
set_option maxHeartbeats 40000000
namespace Go.Proofs.YtjnpndfpajjihacGreat
open Tryz
open Go.RowKit Go.Shelf
attribute [local go_sem] Oper.semAt_some
theorem IsTx.segs {w:World}{t:Tx}{a:Option Addr}{c:Nat}{a':Option Addr}{c':Nat}{r:Option Addr}{d:Nat}(h:IsTx w (.agg #[.int .i64 t.seq,.slice a t.info.length c,.slice a' t.data.length c',.slice r t.rev.length d,.bool t.h0.on,.int .i64 t.h0.left,.bool t.h1.on,.int .i64 t.h1.left,.bool t.h2.on,.int .i64 t.h2.left]) t):
  SegW w a t.info∧t.info.length≤maxLen∧SegW w a' t.data∧t.data.length≤maxLen∧SegI w r t.rev∧t.rev.length≤maxLen:=by
 obtain⟨b0,b1,b2,b3,b4,b5,e,f1,A,C,B,D,E⟩:=h;simp only[Value.agg.injEq] at e
 injection e with e
 simp only[List.cons.injEq,Value.slice.injEq,true_and,and_true] at e;obtain⟨⟨rfl,rfl⟩,⟨rfl,rfl⟩,rfl,rfl⟩:=e;exact⟨f1,B,A,D,C,E⟩
theorem z0k (rh ru:Int)(v:Value)(t:Tx)(w:World)(hT:IsTx w v t)(r1:t.info.length*24≤140737488355328)(r2:t.data.length*24≤140737488355328)(he:¬sealE rh ru t=0):
  Calls prog 125 #[.agg #[.int .i64 rh,.int .i64 ru],v] w fun e w'=>∃a c,e=.returned (.tuple #[.agg #[.int .i64 (zcn rh ru t),.int .i64 (zci rh ru t)],.slice a (commitS rh ru t).length c,.int .i64 (sealE rh ru t)])∧SegSt w' a (commitS rh ru t)∧Below w.heap.size w w':=by
 have O:=zab hT;obtain⟨a0,a1,a2,a3,a4,a5,rfl,_,_,_,n1,n2,n3⟩:=hT;have K:zcn rh ru t=rh∧zci rh ru t=ru∧sealP rh ru t=[]∧commitS rh ru t=[]:=by simp[zcn,zci,sealP,commitS,he]
 have B:=zab K;have A1:(sealE rh ru t !=0)=true:=by simpa using he
 go_enter func125,ntmps125;go_wp2_with fail;refine(zuv rh ru _ t _ (O.o.below (zae (zae (zaa _ _) (zaa _ _)) (zaa _ _))) r1 r2).mono ?_;rintro e D ⟨a,c,rfl,_,A⟩;obtain⟨F,N,J,E⟩:=zjz A;have A0:w.heap.size<D.heap.size:=by omega
 have C:w.heap.size+1+1<D.heap.size+1:=by omega
 have I:=zab (zae (zae (zae (zaa _ _) (zaa _ _)) (zaa _ _)) A);obtain⟨⟨r0,A2⟩,_⟩:=zgk F;obtain⟨⟨L,M⟩,f0,f1⟩:=zgk J;clear F N J A K;go_wp2;refine bodyPost_ret (v:=.tuple #[.agg #[.int .i64 rh,.int .i64 ru],.slice none 0 0,.int .i64 (sealE rh ru t)]) (by simp[results,results125,go_sem,E,C,L,M]) rfl ⟨none,0,by rw[B.o.1,B.o.2.1,B.o.2.2.2];rfl,.inl B.o.2.2.2,?_⟩;refine Below.alloc (Below.alloc ?_ ?_ _) ?_ _
 ·refine Below.setCell (Below.setCell I.o ?_ _) ?_ _
  ·simp;omega
  ·simp;omega
 ·simp;omega
 ·simp;omega
theorem Fr.weak {Bs Bp base:Nat}{w w':World}(h:Fr Bs Bs base w w'):Fr Bs Bp base w w':=
 ⟨h.os,h.tape,h.output,h.size,fun k hk _ n2=>h.low k hk n2 n2,fun k o ho hn n1 _=>h.box k o ho hn n1 n1⟩
theorem PlacesAt.fr {w w':World}{base Bs Bp:Nat}{l:List Int}(h:PlacesAt w base Bp l)(hf:Fr Bs Bs base w w')(h1:Bp≠Bs)(h2:base≤Bs):PlacesAt w' base Bp l:=by
 obtain⟨a,c,B,C,A,r⟩:=h;refine⟨a,c,hf.boxed B (by decide) h1 h1,?_,A,r⟩;rcases C with e|⟨b,off,rfl,hlt,hc⟩
 ·exact .inl e
 ·have D:=(A b off rfl).1;exact .inr ⟨b,off,rfl,Nat.lt_of_lt_of_le hlt hf.size,fun i hi=>(World.cell?_of_block (w:=w) (a:=⟨b,off+i,none⟩) (hf.low b D (by omega) (by omega))).trans (hc i hi)⟩
theorem z0l {w w':World}{b Bs Bp base:Nat}{e:TypeId}{size n:Nat}{v:Value}{xs:List Value}(h:w.ownsRow b e size v n xs)(hf:Fr Bs Bp base w w')(he:e≠124)(h1:Bs<b)(h2:Bp<b):w'.ownsRow b e size v n xs:=by
 refine⟨h.1,?_⟩;rcases h.2 with h0|⟨g,cap,cur,hv,hg,hh,r⟩
 ·exact .inl h0
 ·exact .inr ⟨g,cap,cur,hv,hg,hf.box g _ hh (fun cs fr e'=>by simp only[Obj.cells.injEq] at e';exact he e'.2.1) (by omega) (by omega),r⟩
theorem SegW.low {w W0 w':World}{a:Option Addr}{l:List (Int×ByteArray)}{Bs Bp base:Nat}(h:SegW w a l)(hb:Below w.heap.size w W0)(hf:Fr Bs Bp base W0 w')(h1:w.heap.size≤base)(h2:w.heap.size≤Bp)(h3:w.heap.size≤Bs):SegW w' a l:=by
 rcases h with h|⟨b,off,rfl,hlt,hc⟩
 ·exact .inl h
 ·have A:=(hf.low b (by omega) (by omega) (by omega)).trans (hb.block b hlt);exact .inr ⟨b,off,rfl,Nat.lt_of_lt_of_le (Nat.lt_of_lt_of_le hlt hb.size) hf.size,fun i hi=>⟨(World.cell?_of_block (w:=w) (a:=⟨b,off+i*2,none⟩) A).trans (hc i hi).1,(World.cell?_of_block (w:=w) (a:=⟨b,off+i*2+1,none⟩) A).trans (hc i hi).2⟩⟩
theorem z0m {w:World}{b off:Nat}{l:List (Int×ByteArray)}(h:SegW w (some ⟨b,off,none⟩) l)(k:Nat):SegW w (some ⟨b,off+10*k*2,none⟩) (partOf l k):=by
 rcases h with e|⟨b',off',e,hlt,hc⟩
 ·left;rw[e,partOf];simp
 ·cases e;refine .inr ⟨b,off+10*k*2,rfl,hlt,fun i hi=>?_⟩;have A:i<10∧10*k+i<l.length:=by rw[partOf,List.length_take,List.length_drop] at hi;omega
  have B:(partOf l k).getD i (0,ByteArray.empty)=l.getD (10*k+i) (0,ByteArray.empty):=by
   rw[List.getD,List.getD,partOf,List.getElem?_take,if_pos A.1,List.getElem?_drop]
  have:=hc (10*k+i) A.2;rw[B,show off+10*k*2+i*2=off+(10*k+i)*2 from by omega];exact this
theorem zxs (q:Int)(l:List (Int×ByteArray)){j k:Nat}(h:j≤k):(zh0 q l j).length≤(zh0 q l k).length:=by
 induction h with
 |refl=>exact Nat.le_refl _
 |step h ih=>rw[zfs,List.length_append];omega
theorem z0n (l:List ByteArray){j:Nat}(h:j<l.length):l.take (j+1)=l.take j++[l.getD j ByteArray.empty]:=by
 rw[List.take_add_one,zcg l j ByteArray.empty h];rfl
theorem zxt {l:List (Int×ByteArray)}{k:Nat}{x:Int×ByteArray}(h:x∈partOf l k):x∈l:=List.mem_of_mem_drop (List.mem_of_mem_take h)
theorem z0o (rh ru:Int)(t:Tx)(a0 a2 a4:Option Addr)(a1 a3 a5:Nat)(w:World)(hT:IsTx w (.agg #[.int .i64 t.seq,.slice a0 t.info.length a1,.slice a2 t.data.length a3,.slice a4 t.rev.length a5,.bool t.h0.on,.int .i64 t.h0.left,.bool t.h1.on,.int .i64 t.h1.left,.bool t.h2.on,.int .i64 t.h2.left]) t)(hci:t.info.length≤a1)(hcr:t.rev.length≤a5)(he:sealE rh ru t=0):
  Calls prog 125 #[.agg #[.int .i64 rh,.int .i64 ru],.agg #[.int .i64 t.seq,.slice a0 t.info.length a1,.slice a2 t.data.length a3,.slice a4 t.rev.length a5,.bool t.h0.on,.int .i64 t.h0.left,.bool t.h1.on,.int .i64 t.h1.left,.bool t.h2.on,.int .i64 t.h2.left]] w fun e w'=>∃a c,e=.returned (.tuple #[.agg #[.int .i64 (zcn rh ru t),.int .i64 (zci rh ru t)],.slice a (commitS rh ru t).length c,.int .i64 (sealE rh ru t)])∧(commitS rh ru t).length≤c∧(∀b off,a=some ⟨b,off,none⟩→w.heap.size≤b)∧SegSt w' a (commitS rh ru t)∧Below w.heap.size w w':=by
 have HT:=zab hT;obtain⟨hM,n1,hD,n2,hR,n3⟩:=IsTx.segs hT;obtain⟨hg,_,J9,K6⟩:=zlr he;have Q:=zab J9;have s:=zab K6;have HG:=zab hg;have L1:=za1 hg;have C8:=(za6 t).1 hg;have J6:∀x∈t.data,0≤x.1∧x.1≤11:=fun x hx=>((za5 _).1 C8.2.2.1.2.1).1 x.1 (List.mem_map.2 ⟨x,hx,rfl⟩);have N2:=zab J6;have P4:=zab hci;have P1:=zab hcr;have HM:=zab hM;have HD:=zab hD;have HR:=zab hR;have HC:Hid (commitS rh ru t=(homeS t.data++putS (sealP rh ru t) (logB t)++(if 0<t.rev.length+t.info.length then[zb1] else[]))++[zbm (1+(sealP rh ru t).getD (logB t).length 0) (zkq t)]++[zb1]):=by rw[Hid,commitS,if_pos he]
 have K5:(homeS t.data).length≤13:=by
  rw[homeS,List.length_append,zcl];split<;>simp<;>omega
 have C9:=zab K5
 have B4:(logB t).length≤20:=by
  have:=zev t L1.1 L1.2.2;have h2:needN (t.info.length:Int) (t.rev.length:Int)≤20:=by unfold needN;split<;>(try split)<;>(try split)<;>(try split)<;>omega
  omega
 have A0:=zab B4;clear J9 K6 C8 J6 hci hcr hM hD hR n1 n2 n3 hT K5 hg B4;refine(callsIn_wide (n:=9)).1 ?_;refine callsIn_of_wp_marks func125 rfl trivial ?_ rfl;simp only[ntmps125,List.size_toArray,List.length_cons,List.length_nil,Nat.reduceAdd,Nat.reduceSub,Array.replicate_succ,Array.replicate_zero,List.push_toArray,List.append_toArray,List.nil_append,List.cons_append]
 gi_wp2_with fail
 refine⟨trivial,(callsIn_wide.2 (zuv rh ru _ t _ (HT.o.below (zae (zae (zaa _ _) (zaa _ _)) (zaa _ _))) (by omega) (by omega))).mono ?_⟩;rintro e C ⟨pa,pc,rfl,hP,B6⟩;rw[he];obtain⟨K1,K2,K3,O2⟩:=zjz B6;have KT:=zab K2;have KZ:=zab K3;have J3:=zab (zae (zae (zae (zaa _ _) (zaa _ _)) (zaa _ _)) B6);have HP:=zab hP;have Q2:w.heap.size<C.heap.size:=by omega
 have I7:w.heap.size+1<C.heap.size:=by omega
 obtain⟨⟨x0,x1,x2,x3,x4,x5,x6,x7,x8,x9⟩,_⟩:=zaj K2;have L8:=zab he;clear K1 K2 K3 hP he;generalize sealP rh ru t=PS at *;generalize hsH:zcn rh ru t=sH at *;generalize hsU:zci rh ru t=sU at *;have L5:=zab hsH;have K9:=zab hsU;clear hsH hsU
 gi_wp2_with fail
 refine⟨trivial,(callsIn_wide.2 (zus a2 a3 t.data _ ((HD.o.below J3.o).below (zae (zaa _ _) (zaa _ _))) (by omega) N2.o)).mono ?_⟩;rintro e E ⟨v2,rfl,H3,B9⟩;have KB:=zab (zhe B9);have KP:=zab (zhx B9);have A8:Below C.heap.size C E:=zae (zae (zaa _ _) (zaa _ _)) B9
 replace KT:=zab (zad A8 I7 KT.o)
 replace KZ:=zab (zad A8 O2 KZ.o)
 have HS:=zab (HP.o.1.below A8);have HO:Hid (E.ownsRow (C.heap.size+1+1) 124 3 v2 (homeS t.data).length (cellsSt (homeS t.data))):=zab (by simpa using H3);have M6:=zab (zae J3.o A8);have M3:C.heap.size+1<E.heap.size:=by have:=B9.size;simp at this;omega
 obtain⟨ha,hc,rfl,_,_⟩:=SegSt.of_owns H3;clear B9 A8 H3 x0 x1 x2 x3 x4 x5 x6 x7 x8 x9;have I9:w.heap.size+1<E.heap.size:=by omega
 have Q0:w.heap.size+1<E.heap.size+1:=by omega
 have Q1:w.heap.size+1<E.heap.size+1+1:=by omega
 obtain⟨⟨x0,x1,x2,x3,x4,x5,x6,x7,x8,x9⟩,_⟩:=zaj KT.o
 gi_wp2_with fail
 obtain⟨L,C0⟩:∃L,L=((E.alloc (Obj.cells #[.slice ha (homeS t.data).length hc] 91)).alloc (Obj.cells #[.func (.func 165) #[] #[.pointer (some ⟨E.heap.size,0,none⟩),.pointer (some ⟨C.heap.size+1,0,none⟩)]] 229)).alloc (Obj.cells #[.func (.func 166) #[] #[.pointer (some ⟨w.heap.size+1,0,none⟩),.pointer (some ⟨E.heap.size+1,0,none⟩)]] 230):=⟨_,rfl⟩;have h:Below E.heap.size E L:=by rw[C0];exact zae (zae (zaa _ _) (zaa _ _)) (zaa _ _)
 have C5:L.heap.size=E.heap.size+1+1+1:=by rw[C0];simp
 have A1:L.heap[E.heap.size]?=some (Obj.cells #[.slice ha (homeS t.data).length hc] 91)∧L.heap[E.heap.size+1]?=some (Obj.cells #[.func (.func 165) #[] #[.pointer (some ⟨E.heap.size,0,none⟩),.pointer (some ⟨C.heap.size+1,0,none⟩)]] 229)∧L.heap[E.heap.size+1+1]?=some (Obj.cells #[.func (.func 166) #[] #[.pointer (some ⟨w.heap.size+1,0,none⟩),.pointer (some ⟨E.heap.size+1,0,none⟩)]] 230)∧E.heap.size+1+1<L.heap.size:=by rw[C0];exact zjz (Below.refl _ _)
 rw[←C0];clear C0 x0 x1 x2 x3 x4 x5 x6 x7 x8 x9;have bS:Hid (Boxed L (E.heap.size) 91 (.slice ha (homeS t.data).length hc)):=A1.1;have bE:Hid (Boxed L (E.heap.size+1) 229 (.func (.func 165) #[] #[.pointer (some ⟨E.heap.size,0,none⟩),.pointer (some ⟨C.heap.size+1,0,none⟩)])):=A1.2.1;have bM:Hid (Boxed L (E.heap.size+1+1) 230 (.func (.func 166) #[] #[.pointer (some ⟨w.heap.size+1,0,none⟩),.pointer (some ⟨E.heap.size+1,0,none⟩)])):=A1.2.2.1
 have K7:StepsAt L (C.heap.size+1+1) (E.heap.size) (homeS t.data++putS PS []):=by
  rw[show putS PS []=[] from by simp[putS],List.append_nil];exact⟨_,bS.o,zah HO.o h⟩
 have L3:PlacesAt L (C.heap.size+1+1) (C.heap.size+1) (PS.drop ([]:List ByteArray).length):=by
  refine⟨pa,pc,zad h M3 KP.o,HS.o.below h,?_,HP.o.2.2,?_⟩
  ·intro b off e;rcases HP.o.1 with e0|⟨b',off',e',A4,_⟩
   ·have:=Q.o;rw[e0] at this;simp at this
   ·rw[e] at e';cases e';omega
  ·intro e;rcases HP.o.1 with e0|⟨b',off',e',A4,_⟩
   ·exact e0
   ·rw[e] at e';cases e'
 have F7:Hid (LogAt L (C.heap.size+1+1) (E.heap.size) (C.heap.size+1) (homeS t.data) PS []):=⟨K7,L3,Nat.zero_le _⟩
 replace KT:=zab (zad h I9 KT.o)
 replace KZ:=zab (zad h (by omega) KZ.o)
 replace KB:=zab (zad h (by omega) KB.o)
 have B1:=zab (zae M6.o h);have H9:C.heap.size+1+1≤L.heap.size:=by omega
 have U:=zab C5;clear h A1 K7 L3 HO HS HP KP bS C5;refine⟨trivial,(z0i Fence.wide 8 trivial rfl a4 t.rev.length a5 L).mono ?_⟩;rintro e W1 ⟨rfl,C4⟩;have E4:Below L.heap.size L W1:=by rw[C4];exact zae (zaa _ _) (zaa _ _)
 have J5:W1.heap.size=L.heap.size+1+1:=by rw[C4];simp
 have cS:Boxed W1 L.heap.size 35 (.slice a4 t.rev.length a5):=by rw[C4];exact zhe (Below.refl _ _)
 have cN:Boxed W1 (L.heap.size+1) 3 (.int .i64 20):=by rw[C4];exact zhx (Below.refl _ _)
 have L2:=zab J5;clear C4 J5;have F5:0<t.rev.length→t.rev.length≤a5:=fun _=>P1.o
 have D3:0<t.rev.length→∃b off,a4=some ⟨b,off,none⟩:=fun hp=>by
  rcases HR.o with e|⟨b,off,e,_⟩
  ·rw[e] at hp;simp at hp
  ·exact⟨b,off,e⟩
 have J7:=zab D3;have P5:=zab F5;clear D3 F5
 gi_wp2_with fail
 refine zi1 (F:=Fence.wide) (n:=9) rfl (by decide) (gf:=200) (lb:=#[.pointer (some ⟨L.heap.size,0,none⟩),.pointer (some ⟨L.heap.size+1,0,none⟩)]) rfl trivial (enters_of func200 (by kernel_rfl) rfl)
  (zpi Fence.wide 8 trivial rfl (by decide) L.heap.size (L.heap.size+1) t.rev.length a5 a4 (by omega) P5.o J7.o W1 cS cN) (Below.refl _ _) KeepsB.trans KeepsB.put (fun _=>rfl)
  (fun k W=>LogAt W (C.heap.size+1+1) (E.heap.size) (C.heap.size+1) (homeS t.data) PS (if k=0 then[] else zwi t)∧Fr (E.heap.size) (C.heap.size+1) (C.heap.size+1+1) L W∧Boxed W L.heap.size 35 (.slice a4 t.rev.length a5)∧Boxed W (L.heap.size+1) 3 (.int .i64 20))
  ?own ?drew ?start ?a1 ?assign ?body ?done
 case own=>
  intro k A B row I q hr;have B7:∀r,row=some r→∃o:Obj,A.heap[r]?=some o∧o.isCells=false:=fun r e=>(hr r e).2;refine⟨I.1.kept q B7,I.2.1.kept q (fun r e=>by have:=(hr r e).1;have:=L2.o;omega) H9,I.2.2.1.kept q ?_,I.2.2.2.kept q ?_⟩
  ·intro e;obtain⟨o,ho,hc⟩:=B7 _ e.symm;rw[show A.heap[L.heap.size]?=_ from I.2.2.1] at ho;cases ho;cases hc
  ·intro e;obtain⟨o,ho,hc⟩:=B7 _ e.symm;rw[show A.heap[L.heap.size+1]?=_ from I.2.2.2] at ho;cases ho;cases hc
 case drew=>
  intro k V I;exact⟨I.1.below (Below.refl _ _).drew,I.2.1.trans (Fr.of_below (Below.refl _ _).drew (by have:=I.2.1.size;omega)),I.2.2.1,I.2.2.2⟩
 case start=>
  refine⟨?_,Fr.of_below E4 H9,cS,cN⟩;rw[if_pos rfl];exact F7.o.below E4
 case assign=>
  intro l k W K hK
  gi_wp2
  exact hK
 case body=>
  intro l k W hk I;obtain⟨hL,X,c1,c2⟩:=I;have N3:k=0∧0<t.rev.length:=by unfold zc3 at hk;omega
  obtain⟨rfl,hp⟩:=N3;obtain⟨b,off,rfl⟩:=J7.o hp;have R2:zfi t.rev.length 20 0=t.rev.length:=by unfold zfi;split<;>omega
  have R3:=(X.boxed bM.o (by decide) (by omega) (by omega)).cell;rw[if_pos rfl] at hL;have C0:=X.size;have I0:([]:List ByteArray).length<PS.length:=by have:=Q.o;simp;omega
  have N9:SegI W (some ⟨b,off,none⟩) t.rev:=by
   have A4:=HR.o;rcases A4 with e|⟨b',off',e,hl,hc⟩
   ·exact .inl e
   ·cases e;refine .inr ⟨b,off,rfl,Nat.lt_of_lt_of_le (Nat.lt_of_lt_of_le hl B1.o.size) X.size,fun i hi=>?_⟩;have R6:b<w.heap.size:=hl;exact(World.cell?_of_block (w:=L) (a:=⟨b,off+i,none⟩) (X.low b (by omega) (by omega) (by omega))).trans (zac B1.o hl (hc i hi))
  have B4:=A0.o;have M:=X.box _ _ KT.o (fun cs fr e=>by simp only[Obj.cells.injEq] at e;exact absurd e.2.1 (by decide)) (by omega) (by omega);have S:=(zaj M).1.1;have O:=(X.boxed bE.o (by decide) (by omega) (by omega)).cell
  have N:PlacesAt W (C.heap.size+1+1) (C.heap.size+1) (PS.getD ([]:List ByteArray).length 0::PS.drop (([]:List ByteArray).length+1)):=by
   have:=hL.2.1;rw[zi4 I0] at this;exact this
  have Z:(homeS t.data++putS PS ([])).length≤900:=by
   rw[List.length_append,zd5 (Nat.le_of_lt I0)];have:=C9.o;have:=Q.o;omega
  gi_wp2_with fail
  refine⟨trivial,(CallsIn.inRound l (callsIn_wide.2 (zji (E.heap.size) (C.heap.size+1) (C.heap.size+1+1) (w.heap.size+1) (E.heap.size+1) (homeS t.data++putS PS ([])) (PS.getD ([]:List ByteArray).length 0) (PS.drop (([]:List ByteArray).length+1)) ⟨3,0,0,[],t.rev⟩ _ t.seq W ⟨none,0,some ⟨b,off,none⟩,_,rfl,.inl rfl,N9,Nat.zero_le _,by show t.rev.length≤maxLen;unfold maxLen;omega⟩ S (by have:=X.size;have:=U.o;omega) O (by have:=X.size;have:=U.o;omega) hL.1 N Z (by have:=Q.o;have:=B4;simp;omega) (s.o _).1 (s.o _).2 (by have:=X.size;omega) (by omega) (by omega)))).mono ?_⟩;rintro e W' ⟨⟨v,rfl⟩,R,k2,J⟩;clear M S O N Z
  gi_wp2
  have hz:=U.o;refine⟨J.others hL.1.boxed hL.2.1.boxed,KeepsB.of_fr J c1 c2 (by decide) (by decide) (by omega) (by omega) (by omega) (by omega),?_,X.trans J,J.boxed c1 (by decide) (by omega) (by omega),J.boxed c2 (by decide) (by omega) (by omega)⟩;rw[zwi,if_neg (by omega)];exact LogAt.next (d:=[]) I0 R k2
 case done=>
  intro D W hD I hK;obtain⟨hL,X,_,_⟩:=I
  have E1:LogAt W (C.heap.size+1+1) (E.heap.size) (C.heap.size+1) (homeS t.data) PS (zwi t):=by
   by_cases h0:t.rev.length=0
   ·have e1:zc3 t.rev.length 20=0:=by rw[h0];rfl
    have e2:zwi t=[]:=by rw[zwi,if_pos h0]
    rw[e1,if_pos rfl] at hL;rw[e2];exact hL
   ·have e1:zc3 t.rev.length 20≠0:=by unfold zc3;omega
    rw[if_neg e1] at hL;exact hL
  have P7:=zab E1;have O6:=zab X;have N4:=zab hK;have N8:D<W.heap.size:=(Array.getElem?_eq_some_iff.1 hK).1;have Q6:=X.size;have R1:L.heap.size<D:=by have:=L2.o;omega
  have M:=X.box _ _ KT.o (fun cs fr e=>by simp only[Obj.cells.injEq] at e;exact absurd e.2.1 (by decide)) (by omega) (by omega);obtain⟨⟨x0,x1,x2,x3,x4,x5,x6,x7,x8,x9⟩,_⟩:=zaj M;clear hL E1 X hK M cS cN E4 F7
  gi_wp2_with fail
  refine⟨trivial,(z0j Fence.wide 8 trivial rfl a0 t.info.length a1 W).mono ?_⟩;rintro e W2 ⟨rfl,D9⟩;have F2:Below W.heap.size W W2:=by rw[D9];exact zae (zaa _ _) (zaa _ _)
  have H4:W2.heap.size=W.heap.size+1+1:=by rw[D9];simp
  have dS:Boxed W2 W.heap.size 34 (.slice a0 t.info.length a1):=by rw[D9];exact zhe (Below.refl _ _)
  have dN:Boxed W2 (W.heap.size+1) 3 (.int .i64 10):=by rw[D9];exact zhx (Below.refl _ _)
  have K8:=zab H4;clear D9 H4 x0 x1 x2 x3 x4 x5 x6 x7 x8 x9
  have C6:0<t.info.length→∃b off,a0=some ⟨b,off,none⟩:=fun hp=>by
   rcases HM.o with e|⟨b,off,e,_⟩
   ·rw[e] at hp;simp at hp
   ·exact⟨b,off,e⟩
  have J4:=zab C6;clear C6
  gi_wp2_with fail
  refine zi1 (F:=Fence.wide) (n:=9) rfl (by decide) (gf:=201) (lb:=#[.pointer (some ⟨W.heap.size,0,none⟩),.pointer (some ⟨W.heap.size+1,0,none⟩)]) rfl trivial (enters_of func201 (by kernel_rfl) rfl)
   (zpj Fence.wide 8 trivial rfl (by decide) W.heap.size (W.heap.size+1) t.info.length a1 a0 (by omega) (fun _=>P4.o) J4.o W2 dS dN) (Below.refl _ _) KeepsB.trans KeepsB.put (fun _=>rfl)
   (fun k V=>LogAt V (C.heap.size+1+1) (E.heap.size) (C.heap.size+1) (homeS t.data) PS (zwi t++zh0 t.seq t.info k)∧Fr (E.heap.size) (C.heap.size+1) (C.heap.size+1+1) L V∧Boxed V W.heap.size 34 (.slice a0 t.info.length a1)∧Boxed V (W.heap.size+1) 3 (.int .i64 10)∧V.heap[D]?=some (.deferred (some [])))
   ?own2 ?drew2 ?start2 ?a2 ?assign2 ?body2 ?done2
  case own2=>
   intro k A B row I q hr;have B7:∀r,row=some r→∃o:Obj,A.heap[r]?=some o∧o.isCells=false:=fun r e=>(hr r e).2;have H4:=K8.o;refine⟨I.1.kept q B7,I.2.1.kept q (fun r e=>by have:=(hr r e).1;omega) H9,I.2.2.1.kept q ?_,I.2.2.2.1.kept q ?_,(q.block D (Array.getElem?_eq_some_iff.1 I.2.2.2.2).1 (fun e=>by have:=(hr D e.symm).1;omega)).trans I.2.2.2.2⟩
   ·intro e;obtain⟨o,ho,hc⟩:=B7 _ e.symm;rw[show A.heap[W.heap.size]?=_ from I.2.2.1] at ho;cases ho;cases hc
   ·intro e;obtain⟨o,ho,hc⟩:=B7 _ e.symm;rw[show A.heap[W.heap.size+1]?=_ from I.2.2.2.1] at ho;cases ho;cases hc
  case drew2=>
   intro k V I;exact⟨I.1.below (Below.refl _ _).drew,I.2.1.trans (Fr.of_below (Below.refl _ _).drew (by have:=I.2.1.size;omega)),I.2.2.1,I.2.2.2.1,I.2.2.2.2⟩
  case start2=>
   refine⟨?_,O6.o.trans (Fr.of_below F2 (by omega)),dS,dN,zad F2 N8 N4.o⟩;rw[show zh0 t.seq t.info 0=[] from rfl,List.append_nil];exact P7.o.below F2
  case assign2=>
   intro l k V K hK
   gi_wp2
   exact hK
  case body2=>
   intro l k V hk I;obtain⟨hL,X,c1,c2,C7⟩:=I;have hp:0<t.info.length:=by unfold zc3 at hk;omega
   obtain⟨b,off,rfl⟩:=J4.o hp;have R0:=X.size;have G2:SegW V (some ⟨b,off+10*k*2,none⟩) (partOf t.info k):=z0m (HM.o.low B1.o X (by omega) (by omega) (by omega)) k;have F4:=zgb t.info k
   have G0:∀x∈partOf t.info k,x.2.size≤maxLen:=by
    intro x hx;have C8:=((za6 t).1 HG.o).2.1.1;unfold zb7 at C8;have:=List.all_eq_true.1 C8 x (zxt hx);simp[zbd] at this;unfold maxLen;omega
   have P9:(partOf t.info k).length≤10:=by rw[partOf,List.length_take];omega
   have J1:=zxs t.seq t.info (show k+1≤zc3 t.info.length 10 by omega);have L4:(zwi t).length+(zh0 t.seq t.info (k+1)).length≤(logB t).length:=by rw[logB,List.length_append];omega
   have C1:=zfs t.seq t.info k;obtain⟨z,C2⟩:∃z,z=zwi t++zh0 t.seq t.info k:=⟨_,rfl⟩;have I2:z.length+(zqr t.seq t.info k).length≤(logB t).length:=by rw[C2,List.length_append];rw[C1,List.length_append] at L4;omega
   have M5:Hid (zwi t++zh0 t.seq t.info (k+1)=z++[encT ⟨2,t.seq,0,tagsOf (partOf t.info k),[]⟩]++textsOf (partOf t.info k)):=by
    rw[Hid,C1,←List.append_assoc,←C2,zqr];simp
   rw[←C2] at hL
   have C3:Hid (z.length+(1+(textsOf (partOf t.info k)).length)≤(logB t).length):=by
    have N1:(zqr t.seq t.info k).length=1+(textsOf (partOf t.info k)).length:=by rw[zqr,List.length_cons];omega
    rw[Hid,←N1];exact I2
   clear I2;have G9:=zab G2;have P2:=zab G0;have G5:=zab hL;have O8:=zab X;clear G2 G0 J1 L4 C1 C2 hL X;rw[←F4];clear F4;generalize partOf t.info k=part at *
   gi_wp2_with fail
   refine⟨trivial,(CallsIn.inRound l (callsIn_wide.2 (zms (some ⟨b,off+10*k*2,none⟩) part.length part V G9.o (by omega) P2.o))).mono ?_⟩;rintro e V1 ⟨v1,v2,rfl,hG,H1,B6⟩;have H5:=G5.o.below B6;have A5:=O8.o.trans (Fr.of_below B6 (by omega));have F8:Fr (E.heap.size) (C.heap.size+1) (C.heap.size+1+1) V V1:=Fr.of_below B6 (by omega);obtain⟨ga,gc,rfl,K4,_⟩:=SegG.of_owns hG;obtain⟨ta,tc,O5,P0,_⟩:=SegX.of_owns H1;subst O5;have M8:Hid ((textsOf part).length=part.length):=by rw[Hid,textsOf,List.length_map]
   have L0:Hid ((tagsOf part).length=part.length):=by rw[Hid,tagsOf,List.length_map]
   have u:z.length<PS.length:=by have:=Q.o;have:=C3.o;omega
   have I4:=zab u;have B4:=A0.o;have M:=A5.box _ _ KT.o (fun cs fr e=>by simp only[Obj.cells.injEq] at e;exact absurd e.2.1 (by decide)) (by omega) (by omega);have S:=(zaj M).1.1;have O:=(A5.boxed bE.o (by decide) (by omega) (by omega)).cell
   have N:PlacesAt V1 (C.heap.size+1+1) (C.heap.size+1) (PS.getD (z).length 0::PS.drop ((z).length+1)):=by
    have:=H5.2.1;rw[zi4 u] at this;exact this
   have Z:(homeS t.data++putS PS (z)).length≤900:=by
    rw[List.length_append,zd5 (Nat.le_of_lt u)];have:=C9.o;have:=Q.o;omega
   have D4:=(A5.boxed bM.o (by decide) (by omega) (by omega)).cell
   gi_wp2_with fail
   refine⟨trivial,(CallsIn.inRound l (callsIn_wide.2 (zji (E.heap.size) (C.heap.size+1) (C.heap.size+1+1) (w.heap.size+1) (E.heap.size+1) (homeS t.data++putS PS (z)) (PS.getD (z).length 0) (PS.drop ((z).length+1)) ⟨2,0,0,tagsOf part,[]⟩ _ t.seq V1 ⟨ga,gc,none,0,rfl,K4,.inl rfl,by show(tagsOf part).length≤maxLen;rw[L0.o];unfold maxLen;omega,Nat.zero_le _⟩ S (by have:=A5.size;have:=U.o;omega) O (by have:=A5.size;have:=U.o;omega) H5.1 N Z (by have:=Q.o;have:=B4;simp;omega) (s.o _).1 (s.o _).2 (by have:=A5.size;omega) (by omega) (by omega)))).mono ?_⟩;rintro e V2 ⟨⟨v,rfl⟩,R,k2,J⟩;have E1:LogAt V2 (C.heap.size+1+1) (E.heap.size) (C.heap.size+1) (homeS t.data) PS (z++[encT ⟨2,t.seq,0,tagsOf part,[]⟩]):=LogAt.next u R k2;have K0:=A5.trans J;have G6:z3t V2 V.heap.size (.slice ta (textsOf part).length tc) (textsOf part):=z0l H1 J (by decide) (by have:=U.o;omega) (by omega);have O7:=zab E1;have F3:=zab K0;have M0:=zab (F8.trans J);have O3:=zab G6;have Q4:=B6.size;clear M S O N Z D4 R k2 E1 K0 H5 A5 F8 H1 G6 hG K4 P0 L0
   have M7:Hid ((z++[encT ⟨2,t.seq,0,tagsOf part,[]⟩]).length+(textsOf part).length<PS.length):=by
    rw[Hid,List.length_append];have:=C3.o;have:=Q.o;simp;omega
   have Q5:(textsOf part).length≤20:=by have:=C3.o;have:=A0.o;omega
   clear u I4 C3 M8;generalize z++[encT ⟨2,t.seq,0,tagsOf part,[]⟩]=d2 at *;generalize textsOf part=TX at *
   gi_wp2
   gi_loopw [60] (fun i wr=>∃j:Nat,j≤TX.length∧i=.int .i64 j∧Hid (LogAt wr (C.heap.size+1+1) (E.heap.size) (C.heap.size+1) (homeS t.data) PS (d2++TX.take j))∧Hid (Fr (E.heap.size) (C.heap.size+1) (C.heap.size+1+1) V2 wr)) (fun i _=>TX.length - (intOf i).toNat)
   case atStart=>exact⟨0,Nat.zero_le _,rfl,by rw[List.take_zero,List.append_nil];exact O7,(Fr.of_below (Below.refl _ _) (by have:=F3.o.size;omega))⟩
   case round=>
    obtain⟨j,hj,rfl,D8,B3⟩:=hrel;have Q7:=F3.o.size;by_cases A4:j<TX.length
    ·have M4:(j:Int)<(TX.length:Int):=by omega
     have L6:z3t wr V.heap.size (.slice ta TX.length tc) TX:=z0l O3.o B3.o (by decide) (by have:=U.o;omega) (by omega);obtain⟨P6,O0,ee,hS,_⟩:=SegX.of_owns L6;obtain⟨rfl,rfl⟩:ta=P6∧tc=O0:=by simpa using ee
     obtain⟨b2,Q8,rfl,B9,J2⟩:=hS.resolve_left (by intro e;rw[e] at A4;simp at A4);have I8:=J2 j A4;have O:=((F3.o.trans B3.o).boxed bE.o (by decide) (by omega) (by omega)).cell;have u:(d2++TX.take j).length<PS.length:=by rw[List.length_append,List.length_take];have:=M7.o;omega
     have N:PlacesAt wr (C.heap.size+1+1) (C.heap.size+1) (PS.getD (d2++TX.take j).length 0::PS.drop ((d2++TX.take j).length+1)):=by
      have:=D8.o.2.1;rw[zi4 u] at this;exact this
     have Z:(homeS t.data++putS PS (d2++TX.take j)).length≤900:=by
      rw[List.length_append,zd5 (Nat.le_of_lt u)];have:=C9.o;have:=Q.o;have:=A0.o;omega
     have I4:=zab u;have F9:=zab N;have J8:=zab Z;have P3:=zab (z0n TX A4);clear L6 hS J2 ee u N Z;generalize TX.getD j ByteArray.empty=tj at *
     gi_wp2_with fail
     refine⟨trivial,(CallsIn.inRound l (callsIn_wide.2 (zrv (E.heap.size) (C.heap.size+1) (C.heap.size+1+1) (homeS t.data++putS PS (d2++TX.take j)) (PS.getD (d2++TX.take j).length 0) (PS.drop ((d2++TX.take j).length+1)) tj wr D8.o.1 F9.o J8.o (by have:=Q.o;have:=A0.o;simp;omega) (s.o _).1 (s.o _).2 (by have:=B3.o.size;omega) (by omega) (by omega)))).mono ?_⟩;rintro e V3 ⟨⟨v,rfl⟩,R,k2,B8⟩;have N7:=zab (LogAt.next I4.o R k2);have N0:=zab (B3.o.trans B8);clear R k2 B8 F9 J8 D8 B3 O I8
     gi_wp2
     go_roundw
     case rel=>exact⟨j+1,by omega,by go_num,by rw[P3.o,←List.append_assoc];exact N7,N0⟩
     case measure=>simp[intOf];omega
    ·have M4:¬((j:Int)<(TX.length:Int)):=by omega
     have e:j=TX.length:=by omega
     subst e;rw[List.take_length] at D8
     gi_wp2
     have hz:=U.o;have D6:=M0.o.trans B3.o;refine⟨D6.others G5.o.1.boxed G5.o.2.1.boxed,KeepsB.of_fr D6 c1 c2 (by decide) (by decide) (by omega) (by omega) (by omega) (by omega),?_,F3.o.trans B3.o,D6.boxed c1 (by decide) (by omega) (by omega),D6.boxed c2 (by decide) (by omega) (by omega),D6.box D _ C7 (fun cs fr e=>by cases e) (by omega) (by omega)⟩;rw[M5.o];exact D8.o
  case done2=>
   intro m W3 R5 I H6;obtain⟨H7,Y,_,_,C7⟩:=I;have F6:LogAt W3 (C.heap.size+1+1) (E.heap.size) (C.heap.size+1) (homeS t.data) PS (logB t):=H7;have E5:(logB t).length<PS.length:=by have:=Q.o;omega
   have Q9:=Y.size;clear H7;have B4:=A0.o;have M:=Y.box _ _ KT.o (fun cs fr e=>by simp only[Obj.cells.injEq] at e;exact absurd e.2.1 (by decide)) (by omega) (by omega);have S:=(zaj M).1.1;have O:=(Y.boxed bE.o (by decide) (by omega) (by omega)).cell
   have N:PlacesAt W3 (C.heap.size+1+1) (C.heap.size+1) (PS.getD (logB t).length 0::PS.drop ((logB t).length+1)):=by
    have:=F6.2.1;rw[zi4 E5] at this;exact this
   have Z:(homeS t.data++putS PS (logB t)).length≤900:=by
    rw[List.length_append,zd5 (Nat.le_of_lt E5)];have:=C9.o;have:=Q.o;omega
   have G1:=M;obtain⟨⟨x0,x1,x2,x3,x4,x5,x6,x7,x8,x9⟩,_⟩:=zaj G1;clear M G1 S O
   have J0:(homeS t.data++putS PS (logB t)).length≤40:=by
    rw[List.length_append,zd5 (Nat.le_of_lt E5)];have:=C9.o;have:=A0.o;omega
   have C5:=U.o;have N6:=zab C5;clear C5;have R4:E.heap.size+1+1<L.heap.size:=by have:=N6.o;omega
   have Q3:D<m:=by have:=K8.o;omega
   by_cases hz:0<t.rev.length+t.info.length
   ·have N5:(0:Int)<(t.rev.length:Int)+(t.info.length:Int):=by omega
    gi_wp2_with fail
    refine⟨trivial,(callsIn_wide.2 (zph (E.heap.size) (E.heap.size) (C.heap.size+1+1) (homeS t.data++putS PS (logB t)) W3 F6.1 Z (by omega))).mono ?_⟩;rintro e W4 ⟨⟨v4,rfl⟩,R,B8⟩;have J:Fr (E.heap.size) (C.heap.size+1) (C.heap.size+1+1) W3 W4:=B8.weak;have B0:=Y.trans J;have O9:=N.fr B8 (by omega) (by omega);have M2:=J.box D _ C7 (fun cs fr e=>by cases e) (by omega) (by omega);have M1:=J.box m _ H6 (fun cs fr e=>by cases e) (by omega) (by omega);have E3:(homeS t.data++putS PS (logB t)++[zb1]).length≤890:=by rw[List.length_append];show _+1≤890;omega
    clear J B8 F6 Y C7 H6 N Z x0 x1 x2 x3 x4 x5 x6 x7 x8 x9;have D4:=(B0.boxed bM.o (by decide) (by omega) (by omega)).cell;have M:=B0.box _ _ KT.o (fun cs fr e=>by simp only[Obj.cells.injEq] at e;exact absurd e.2.1 (by decide)) (by omega) (by omega);have S:=(zaj M).1.1;have O:=(B0.boxed bE.o (by decide) (by omega) (by omega)).cell
    gi_wp2_with fail
    refine⟨trivial,(callsIn_wide.2 (zji (E.heap.size) (C.heap.size+1) (C.heap.size+1+1) (w.heap.size+1) (E.heap.size+1) (homeS t.data++putS PS (logB t)++[zb1]) (PS.getD (logB t).length 0) (PS.drop ((logB t).length+1)) ⟨4,0,0,[],[]⟩ _ t.seq W4 ⟨none,0,none,0,rfl,.inl rfl,.inl rfl,Nat.zero_le _,Nat.zero_le _⟩ S (by have:=B0.size;have:=U.o;omega) O (by have:=B0.size;have:=U.o;omega) R O9 (by omega) (by have:=Q.o;have:=A0.o;simp;omega) (s.o _).1 (s.o _).2 (by have:=B0.size;omega) (by omega) (by omega))).mono ?_⟩;rintro e W5 ⟨⟨v5,rfl⟩,R,k2,J⟩;have D5:=B0.trans J;have B5:=J.box D _ M2 (fun cs fr e=>by cases e) (by omega) (by omega);have A6:=J.box m _ M1 (fun cs fr e=>by cases e) (by omega) (by omega)
    have B2:(homeS t.data++putS PS (logB t)++[zb1]++[zbm (1+PS.getD (logB t).length 0) (encT ⟨4,t.seq,0,[],[]⟩)]).length≤900:=by
     rw[List.length_append];show _+1≤900;omega
    have I3:=zab R;have E0:=zab D5;have F1:=zab B5;have E6:=zab A6;have E9:=zab B2;clear D4 M S O R k2 J D5 B5 A6 B2 E3
    gi_wp2_with fail
    refine⟨trivial,(callsIn_wide.2 (zph (E.heap.size) (C.heap.size+1) (C.heap.size+1+1) _ W5 I3.o E9.o (by have:=E0.o.size;omega))).mono ?_⟩;rintro e W6 ⟨⟨v6,rfl⟩,R,J⟩;have A2:=zab (E0.o.trans J);have E2:=zab (J.box D _ F1.o (fun cs fr e=>by cases e) (by omega) (by omega));have E7:=zab (J.box m _ E6.o (fun cs fr e=>by cases e) (by omega) (by omega));have y:commitS rh ru t=homeS t.data++putS PS (logB t)++[zb1]++[zbm (1+PS.getD (logB t).length 0) (encT ⟨4,t.seq,0,[],[]⟩)]++[zb1]:=by rw[HC.o,if_pos hz];rfl
    rw[←y] at R;have L9:=zab y;obtain⟨O1,b6,o6⟩:=R;have H0:=zab o6;obtain⟨fa,fc,rfl,A9,A3⟩:=SegSt.of_owns o6;have G9:=zab A9;have O4:=zab A3;have c6:=b6.cell;have D7:=A2.o.box _ _ KB.o (fun cs fr e=>by simp only[Obj.cells.injEq] at e;exact absurd e.2.1 (by decide)) (by omega) (by omega);have A7:=A2.o.box _ _ KZ.o (fun cs fr e=>by simp only[Obj.cells.injEq] at e;exact absurd e.2.1 (by decide)) (by omega) (by omega);obtain⟨⟨y0,y1⟩,_⟩:=zgk D7;obtain⟨⟨z0,z1⟩,M9,P8⟩:=zgk A7;have I1:=zab A2.o.size;have H2:=zab A7;clear J y b6 o6 A9 A3 D7 A7
    gi_wp2
    gi_region
    all_goals
     gi_wp2
     have F0:=zjj H2.o (.int .i64 sH) (.int .i64 sU);have q2:((W6.setCell ⟨w.heap.size+1+1,0,none⟩ (.int .i64 sH)).setCell ⟨w.heap.size+1+1,1,none⟩ (.int .i64 sU)).drew.heap[m]?=some (.deferred (some [])):=(Below.heap_setCell _ _ _ _ (by simp;omega)).trans ((Below.heap_setCell _ _ _ _ (by simp;omega)).trans E7.o);have q1:(((W6.setCell ⟨w.heap.size+1+1,0,none⟩ (.int .i64 sH)).setCell ⟨w.heap.size+1+1,1,none⟩ (.int .i64 sU)).drew.putObj m (.deferred none)).heap[D]?=some (.deferred (some [])):=(World.putObj_heap_other (by omega)).trans ((Below.heap_setCell _ _ _ _ (by simp;omega)).trans ((Below.heap_setCell _ _ _ _ (by simp;omega)).trans E2.o));have G3:C.heap.size+1+1≤W6.heap.size:=by have:=I1.o;omega
     have D1:=ownsRow_putObj (ownsRow_putObj (zah (ownsRow_setCell_below (ownsRow_setCell_below H0.o (a:=⟨w.heap.size+1+1,0,none⟩) (by simp;omega) (.int .i64 sH)) (a:=⟨w.heap.size+1+1,1,none⟩) (by simp;omega) (.int .i64 sU)) (Below.refl _ _).drew) (.deferred none) q2 rfl) (.deferred none) q1 rfl;have G4:=((((B1.o.trans (A2.o.below (by omega) (by omega) (by omega))).setCell (p:=⟨w.heap.size+1+1,0,none⟩) (by simp;omega) (.int .i64 sH)).setCell (p:=⟨w.heap.size+1+1,1,none⟩) (by simp;omega) (.int .i64 sU)).drew.trans (belowK_b (w:=w) (Nat.le_refl _) _ m _ (.deferred none) (by omega) q2 rfl rfl)).trans (belowK_b (w:=w) (Nat.le_refl _) _ D _ (.deferred none) (by omega) q1 rfl rfl);have I6:((((W6.setCell ⟨w.heap.size+1+1,0,none⟩ (.int .i64 sH)).setCell ⟨w.heap.size+1+1,1,none⟩ (.int .i64 sU)).drew.putObj m (.deferred none)).putObj D (.deferred none)).heap[w.heap.size+1+1]?=some (.cells #[.int .i64 sH,.int .i64 sU] 26 (0,0)):=(World.putObj_heap_other (by omega)).trans ((World.putObj_heap_other (by omega)).trans F0);obtain⟨⟨u0,u1⟩,_⟩:=zgk I6;refine⟨by simp,.inl ⟨m,_,rfl,run_takeDeferred q2,?_⟩⟩;refine⟨by simp,.inl ⟨D,_,rfl,run_takeDeferred q1,?_⟩⟩;refine⟨.tuple #[.agg #[.int .i64 sH,.int .i64 sU],.slice fa (commitS rh ru t).length fc,.int .i64 0],by simp[results,results125,go_sem,u0,u1],?_⟩;have E8:=zr6 D1 rfl;obtain⟨I5,G7,e9,H8,G8⟩:=SegSt.of_owns D1;obtain⟨rfl,rfl⟩:fa=I5∧fc=G7:=by simpa using e9
     exact⟨fa,fc,by rw[L5.o,K9.o,L8.o],E8,fun b off e=>by have:=G8 b off e;have:=B1.o.size;omega,H8,G4⟩
   ·have N5:¬((0:Int)<(t.rev.length:Int)+(t.info.length:Int)):=by omega
    have E3:(homeS t.data++putS PS (logB t)).length≤890:=by have:=J0;omega
    have D4:=(Y.boxed bM.o (by decide) (by omega) (by omega)).cell;have M:=Y.box _ _ KT.o (fun cs fr e=>by simp only[Obj.cells.injEq] at e;exact absurd e.2.1 (by decide)) (by omega) (by omega);have S:=(zaj M).1.1;have O:=(Y.boxed bE.o (by decide) (by omega) (by omega)).cell
    gi_wp2_with fail
    refine⟨trivial,(callsIn_wide.2 (zji (E.heap.size) (C.heap.size+1) (C.heap.size+1+1) (w.heap.size+1) (E.heap.size+1) (homeS t.data++putS PS (logB t)) (PS.getD (logB t).length 0) (PS.drop ((logB t).length+1)) ⟨4,0,0,[],[]⟩ _ t.seq W3 ⟨none,0,none,0,rfl,.inl rfl,.inl rfl,Nat.zero_le _,Nat.zero_le _⟩ S (by have:=Y.size;have:=U.o;omega) O (by have:=Y.size;have:=U.o;omega) F6.1 N (by omega) (by have:=Q.o;have:=A0.o;simp;omega) (s.o _).1 (s.o _).2 (by have:=Y.size;omega) (by omega) (by omega))).mono ?_⟩;rintro e W5 ⟨⟨v5,rfl⟩,R,k2,J⟩;have D5:=Y.trans J;have B5:=J.box D _ C7 (fun cs fr e=>by cases e) (by omega) (by omega);have A6:=J.box m _ H6 (fun cs fr e=>by cases e) (by omega) (by omega)
    have B2:(homeS t.data++putS PS (logB t)++[zbm (1+PS.getD (logB t).length 0) (encT ⟨4,t.seq,0,[],[]⟩)]).length≤900:=by
     rw[List.length_append];show _+1≤900;omega
    have I3:=zab R;have E0:=zab D5;have F1:=zab B5;have E6:=zab A6;have E9:=zab B2;clear D4 M S O R k2 J D5 B5 A6 B2 E3
    gi_wp2_with fail
    refine⟨trivial,(callsIn_wide.2 (zph (E.heap.size) (C.heap.size+1) (C.heap.size+1+1) _ W5 I3.o E9.o (by have:=E0.o.size;omega))).mono ?_⟩;rintro e W6 ⟨⟨v6,rfl⟩,R,J⟩;have A2:=zab (E0.o.trans J);have E2:=zab (J.box D _ F1.o (fun cs fr e=>by cases e) (by omega) (by omega));have E7:=zab (J.box m _ E6.o (fun cs fr e=>by cases e) (by omega) (by omega));have y:commitS rh ru t=homeS t.data++putS PS (logB t)++[zbm (1+PS.getD (logB t).length 0) (encT ⟨4,t.seq,0,[],[]⟩)]++[zb1]:=by rw[HC.o,if_neg hz,List.append_nil];rfl
    rw[←y] at R;have L9:=zab y;obtain⟨O1,b6,o6⟩:=R;have H0:=zab o6;obtain⟨fa,fc,rfl,A9,A3⟩:=SegSt.of_owns o6;have G9:=zab A9;have O4:=zab A3;have c6:=b6.cell;have D7:=A2.o.box _ _ KB.o (fun cs fr e=>by simp only[Obj.cells.injEq] at e;exact absurd e.2.1 (by decide)) (by omega) (by omega);have A7:=A2.o.box _ _ KZ.o (fun cs fr e=>by simp only[Obj.cells.injEq] at e;exact absurd e.2.1 (by decide)) (by omega) (by omega);obtain⟨⟨y0,y1⟩,_⟩:=zgk D7;obtain⟨⟨z0,z1⟩,M9,P8⟩:=zgk A7;have I1:=zab A2.o.size;have H2:=zab A7;clear J y b6 o6 A9 A3 D7 A7
    gi_wp2
    gi_region
    all_goals
     gi_wp2
     have F0:=zjj H2.o (.int .i64 sH) (.int .i64 sU);have q2:((W6.setCell ⟨w.heap.size+1+1,0,none⟩ (.int .i64 sH)).setCell ⟨w.heap.size+1+1,1,none⟩ (.int .i64 sU)).drew.heap[m]?=some (.deferred (some [])):=(Below.heap_setCell _ _ _ _ (by simp;omega)).trans ((Below.heap_setCell _ _ _ _ (by simp;omega)).trans E7.o);have q1:(((W6.setCell ⟨w.heap.size+1+1,0,none⟩ (.int .i64 sH)).setCell ⟨w.heap.size+1+1,1,none⟩ (.int .i64 sU)).drew.putObj m (.deferred none)).heap[D]?=some (.deferred (some [])):=(World.putObj_heap_other (by omega)).trans ((Below.heap_setCell _ _ _ _ (by simp;omega)).trans ((Below.heap_setCell _ _ _ _ (by simp;omega)).trans E2.o));have G3:C.heap.size+1+1≤W6.heap.size:=by have:=I1.o;omega
     have D1:=ownsRow_putObj (ownsRow_putObj (zah (ownsRow_setCell_below (ownsRow_setCell_below H0.o (a:=⟨w.heap.size+1+1,0,none⟩) (by simp;omega) (.int .i64 sH)) (a:=⟨w.heap.size+1+1,1,none⟩) (by simp;omega) (.int .i64 sU)) (Below.refl _ _).drew) (.deferred none) q2 rfl) (.deferred none) q1 rfl;have G4:=((((B1.o.trans (A2.o.below (by omega) (by omega) (by omega))).setCell (p:=⟨w.heap.size+1+1,0,none⟩) (by simp;omega) (.int .i64 sH)).setCell (p:=⟨w.heap.size+1+1,1,none⟩) (by simp;omega) (.int .i64 sU)).drew.trans (belowK_b (w:=w) (Nat.le_refl _) _ m _ (.deferred none) (by omega) q2 rfl rfl)).trans (belowK_b (w:=w) (Nat.le_refl _) _ D _ (.deferred none) (by omega) q1 rfl rfl);have I6:((((W6.setCell ⟨w.heap.size+1+1,0,none⟩ (.int .i64 sH)).setCell ⟨w.heap.size+1+1,1,none⟩ (.int .i64 sU)).drew.putObj m (.deferred none)).putObj D (.deferred none)).heap[w.heap.size+1+1]?=some (.cells #[.int .i64 sH,.int .i64 sU] 26 (0,0)):=(World.putObj_heap_other (by omega)).trans ((World.putObj_heap_other (by omega)).trans F0);obtain⟨⟨u0,u1⟩,_⟩:=zgk I6;refine⟨by simp,.inl ⟨m,_,rfl,run_takeDeferred q2,?_⟩⟩;refine⟨by simp,.inl ⟨D,_,rfl,run_takeDeferred q1,?_⟩⟩;refine⟨.tuple #[.agg #[.int .i64 sH,.int .i64 sU],.slice fa (commitS rh ru t).length fc,.int .i64 0],by simp[results,results125,go_sem,u0,u1],?_⟩;have E8:=zr6 D1 rfl;obtain⟨I5,G7,e9,H8,G8⟩:=SegSt.of_owns D1;obtain⟨rfl,rfl⟩:fa=I5∧fc=G7:=by simpa using e9
     exact⟨fa,fc,by rw[L5.o,K9.o,L8.o],E8,fun b off e=>by have:=G8 b off e;have:=B1.o.size;omega,H8,G4⟩
end Go.Proofs.YtjnpndfpajjihacGreat


namespace Go.Proofs.YtjnpndfpajjihacGreat
open Go.RowKit
end Go.Proofs.YtjnpndfpajjihacGreat

