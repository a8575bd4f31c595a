/-
  
-/
import Derived.Test.YtjnpndfpajjihacGreatEPure
import Derived.Test.YtjnpndfpajjihacGreatGrTopOrdered44
import Derived.Laws.EntriesVeiled
set_option maxRecDepth 100000
set_option maxHeartbeats 40000000
namespace Go.Proofs.YtjnpndfpajjihacGreat
open Go.Proofs.Tryz
open Go.RowKit Go.Shelf
attribute [local go_sem] Oper.semAt_some
theorem IsTx.segs{w:World}{t:Tx}{a:Option Addr}{c:Nat}{a':Option Addr}{c':Nat}{r:Option Addr}{d:Nat}(h:IsTx w (.agg #[.int .i64 t.seq,.slice a t.info.length c,.slice a' t.data.length c',.slice r t.rev.length d,.bool t.h0.on,.int .i64 t.h0.left,.bool t.h1.on,.int .i64 t.h1.left,.bool t.h2.on,.int .i64 t.h2.left]) t):
  SegW w a t.info∧t.info.length≤maxLen∧SegW w a' t.data∧t.data.length≤maxLen∧SegI w r t.rev∧t.rev.length≤maxLen:=by
 obtain⟨b0,b1,b2,b3,b4,b5,e,f1,A,B,C,D,E⟩:=h;simp only[Value.agg.injEq]at e
 injection e with e
 simp only[List.cons.injEq,Value.slice.injEq,true_and,and_true]at e;obtain⟨⟨rfl,rfl⟩,⟨rfl,rfl⟩,rfl,rfl⟩:=e;exact⟨f1,C,A,D,B,E⟩
theorem z0o(rh ru:Int)(v:Value)(t:Tx)(w:World)(hT:IsTx w v t)(r1:t.info.length*24≤140737488355328)(r2:t.data.length*24≤140737488355328)(he:¬sealE rh ru t=0):
  Calls prog 125 #[.agg #[.int .i64 rh,.int .i64 ru],v] w fun e w'=>∃a c,e=.returned (.tuple #[.agg #[.int .i64 (zcl rh ru t),.int .i64 (zce rh ru t)],.slice a (commitS rh ru t).length c,.int .i64 (sealE rh ru t)])∧SegSt w' a (commitS rh ru t)∧Below w.heap.size w w':=by
 have N:=zab hT;obtain⟨a0,a1,a2,a3,a4,a5,rfl,_,_,_,n1,n2,n3⟩:=hT;have K:zcl rh ru t=rh∧zce rh ru t=ru∧sealP rh ru t=[]∧commitS rh ru t=[]:=by simp[zcl,zce,sealP,commitS,he]
 have B:=zab K;have A1:(sealE rh ru t !=0)=true:=by simpa using he
 go_enter func125,ntmps125;go_wp2_with fail;refine(zu3 rh ru _ t _ (N.o.below (zae (zae (zaa _ _) (zaa _ _)) (zaa _ _))) r1 r2).mono ?_;rintro e I ⟨a,c,rfl,_,A⟩;obtain⟨J,L,D,F⟩:=zkb A;have A0:w.heap.size<I.heap.size:=by omega
 have C:w.heap.size+1+1<I.heap.size+1:=by omega
 have E:=zab (zae (zae (zae (zaa _ _) (zaa _ _)) (zaa _ _)) A);obtain⟨⟨r0,A2⟩,_⟩:=zgq J;obtain⟨⟨M,O⟩,f0,f1⟩:=zgq D;clear J L D A K;go_wp2;refine bodyPost_ret (v:=.tuple #[.agg #[.int .i64 rh,.int .i64 ru],.slice none 0 0,.int .i64 (sealE rh ru t)]) (by simp[results,results125,go_sem,F,C,M,O]) rfl ⟨none,0,by rw[B.o.1,B.o.2.1,B.o.2.2.2];rfl,.inl B.o.2.2.2,?_⟩;refine Below.alloc (Below.alloc ?_ ?_ _) ?_ _
 ·refine Below.setCell (Below.setCell E.o ?_ _) ?_ _
  ·simp;omega
  ·simp;omega
 ·simp;omega
 ·simp;omega
theorem Fr.weak{Bs Bp base:Nat}{w w':World}(h:Fr Bs Bs base w w'):Fr Bs Bp base w w':=
 ⟨h.os,h.tape,h.output,h.size,fun k hk _ n2=>h.low k hk n2 n2,fun k o ho hn n1 _=>h.box k o ho hn n1 n1⟩
theorem PlacesAt.fr{w w':World}{base Bs Bp:Nat}{l:List Int}(h:PlacesAt w base Bp l)(hf:Fr Bs Bs base w w')(h1:Bp≠Bs)(h2:base≤Bs):PlacesAt w' base Bp l:=by
 obtain⟨a,c,D,C,A,r⟩:=h;refine⟨a,c,hf.boxed D (by decide) h1 h1,?_,A,r⟩;rcases C with e|⟨b,off,rfl,hlt,hc⟩
 ·exact .inl e
 ·have B:=(A b off rfl).1;exact .inr ⟨b,off,rfl,Nat.lt_of_lt_of_le hlt hf.size,fun i hi=>(World.cell?_of_block (w:=w) (a:=⟨b,off+i,none⟩) (hf.low b B (by omega) (by omega))).trans (hc i hi)⟩
theorem z0p{w w':World}{b Bs Bp base:Nat}{e:TypeId}{size n:Nat}{v:Value}{xs:List Value}(h:w.ownsRow b e size v n xs)(hf:Fr Bs Bp base w w')(he:e≠124)(h1:Bs<b)(h2:Bp<b):w'.ownsRow b e size v n xs:=by
 refine⟨h.1,?_⟩;rcases h.2 with h0|⟨g,cap,cur,hv,hg,hh,r⟩
 ·exact .inl h0
 ·exact .inr ⟨g,cap,cur,hv,hg,hf.box g _ hh (fun cs fr e'=>by simp only[Obj.cells.injEq]at e';exact he e'.2.1) (by omega) (by omega),r⟩
theorem SegW.low{w W0 w':World}{a:Option Addr}{l:List (Int×ByteArray)}{Bs Bp base:Nat}(h:SegW w a l)(hb:Below w.heap.size w W0)(hf:Fr Bs Bp base W0 w')(h1:w.heap.size≤base)(h2:w.heap.size≤Bp)(h3:w.heap.size≤Bs):SegW w' a l:=by
 rcases h with h|⟨b,off,rfl,hlt,hc⟩
 ·exact .inl h
 ·have A:=(hf.low b (by omega) (by omega) (by omega)).trans (hb.block b hlt);exact .inr ⟨b,off,rfl,Nat.lt_of_lt_of_le (Nat.lt_of_lt_of_le hlt hb.size) hf.size,fun i hi=>⟨(World.cell?_of_block (w:=w) (a:=⟨b,off+i*2,none⟩) A).trans (hc i hi).1,(World.cell?_of_block (w:=w) (a:=⟨b,off+i*2+1,none⟩) A).trans (hc i hi).2⟩⟩
theorem z0q{w:World}{b off:Nat}{l:List (Int×ByteArray)}(h:SegW w (some ⟨b,off,none⟩) l)(k:Nat):SegW w (some ⟨b,off+10*k*2,none⟩) (partOf l k):=by
 rcases h with e|⟨b',off',e,hlt,hc⟩
 ·left;rw[e,partOf];simp
 ·cases e;refine .inr ⟨b,off+10*k*2,rfl,hlt,fun i hi=>?_⟩;have A:i<10∧10*k+i<l.length:=by rw[partOf,List.length_take,List.length_drop]at hi;omega
  have B:(partOf l k).getD i (0,ByteArray.empty)=l.getD (10*k+i) (0,ByteArray.empty):=by
   rw[List.getD,List.getD,partOf,List.getElem?_take,if_pos A.1,List.getElem?_drop]
  have:=hc (10*k+i) A.2;rw[B,show off+10*k*2+i*2=off+(10*k+i)*2 from by omega];exact this
theorem zxy(q:Int)(l:List (Int×ByteArray)){j k:Nat}(h:j≤k):(zh4 q l j).length≤(zh4 q l k).length:=by
 induction h with
 |refl=>exact Nat.le_refl _
 |step h ih=>rw[zfw,List.length_append];omega
theorem z0r(l:List ByteArray){j:Nat}(h:j<l.length):l.take (j+1)=l.take j++[l.getD j ByteArray.empty]:=by
 rw[List.take_add_one,zcd l j ByteArray.empty h];rfl
theorem zxz{l:List (Int×ByteArray)}{k:Nat}{x:Int×ByteArray}(h:x∈partOf l k):x∈l:=List.mem_of_mem_drop (List.mem_of_mem_take h)
theorem z0s(rh ru:Int)(t:Tx)(a0 a2 a4:Option Addr)(a1 a3 a5:Nat)(w:World)(hT:IsTx w (.agg #[.int .i64 t.seq,.slice a0 t.info.length a1,.slice a2 t.data.length a3,.slice a4 t.rev.length a5,.bool t.h0.on,.int .i64 t.h0.left,.bool t.h1.on,.int .i64 t.h1.left,.bool t.h2.on,.int .i64 t.h2.left]) t)(hci:t.info.length≤a1)(hcr:t.rev.length≤a5)(he:sealE rh ru t=0):
  Calls prog 125 #[.agg #[.int .i64 rh,.int .i64 ru],.agg #[.int .i64 t.seq,.slice a0 t.info.length a1,.slice a2 t.data.length a3,.slice a4 t.rev.length a5,.bool t.h0.on,.int .i64 t.h0.left,.bool t.h1.on,.int .i64 t.h1.left,.bool t.h2.on,.int .i64 t.h2.left]] w fun e w'=>∃a c,e=.returned (.tuple #[.agg #[.int .i64 (zcl rh ru t),.int .i64 (zce rh ru t)],.slice a (commitS rh ru t).length c,.int .i64 (sealE rh ru t)])∧(commitS rh ru t).length≤c∧(∀b off,a=some ⟨b,off,none⟩→w.heap.size≤b)∧SegSt w' a (commitS rh ru t)∧Below w.heap.size w w':=by
 have HT:=zab hT;obtain⟨hM,n1,hD,n2,hR,n3⟩:=IsTx.segs hT;obtain⟨hg,_,J6,K9⟩:=zl1 he;have Q:=zab J6;have u:=zab K9;have HG:=zab hg;have J3:=zaz hg;have C8:=(za9 t).1 hg;have L2:∀x∈t.data,0≤x.1∧x.1≤11:=fun x hx=>((za8 _).1 C8.2.2.1.2.1).1 x.1 (List.mem_map.2 ⟨x,hx,rfl⟩);have O2:=zab L2;have N0:=zab hci;have O1:=zab hcr;have HM:=zab hM;have HD:=zab hD;have HR:=zab hR;have HC:Hid (commitS rh ru t=(homeS t.data++putS (sealP rh ru t) (logB t)++(if 0<t.rev.length+t.info.length then[zb1] else[]))++[zbl (1+(sealP rh ru t).getD (logB t).length 0) (zk1 t)]++[zb1]):=by rw[Hid,commitS,if_pos he]
 have L4:(homeS t.data).length≤13:=by
  rw[homeS,List.length_append,zcj];split<;>simp<;>omega
 have D4:=zab L4
 have A9:(logB t).length≤20:=by
  have:=zex t J3.1 J3.2.2;have h2:needN (t.info.length:Int) (t.rev.length:Int)≤20:=by unfold needN;split<;>(try split)<;>(try split)<;>(try split)<;>omega
  omega
 have A2:=zab A9;clear J6 K9 C8 L2 hci hcr hM hD hR n1 n2 n3 hT L4 hg A9;refine(callsIn_wide (n:=9)).1 ?_;refine callsIn_of_wp_marks func125 rfl trivial ?_ rfl;simp only[ntmps125,List.size_toArray,List.length_cons,List.length_nil,Nat.reduceAdd,Nat.reduceSub,Array.replicate_succ,Array.replicate_zero,List.push_toArray,List.append_toArray,List.nil_append,List.cons_append]
 gi_wp2_with fail
 refine⟨trivial,(callsIn_wide.2 (zu3 rh ru _ t _ (HT.o.below (zae (zae (zaa _ _) (zaa _ _)) (zaa _ _))) (by omega) (by omega))).mono ?_⟩;rintro e C ⟨pa,pc,rfl,hP,A7⟩;rw[he];obtain⟨K1,K2,K3,N4⟩:=zkb A7;have KT:=zab K2;have KZ:=zab K3;have K7:=zab (zae (zae (zae (zaa _ _) (zaa _ _)) (zaa _ _)) A7);have HP:=zab hP;have Q7:w.heap.size<C.heap.size:=by omega
 have J0:w.heap.size+1<C.heap.size:=by omega
 obtain⟨⟨x0,x1,x2,x3,x4,x5,x6,x7,x8,x9⟩,_⟩:=zaj K2;have L3:=zab he;clear K1 K2 K3 hP he;generalize sealP rh ru t=PS at *;generalize hsH:zcl rh ru t=sH at *;generalize hsU:zce rh ru t=sU at *;have J8:=zab hsH;have K8:=zab hsU;clear hsH hsU
 gi_wp2_with fail
 refine⟨trivial,(callsIn_wide.2 (zu0 a2 a3 t.data _ ((HD.o.below K7.o).below (zae (zaa _ _) (zaa _ _))) (by omega) O2.o)).mono ?_⟩;rintro e E ⟨v2,rfl,G0,B9⟩;have KB:=zab (zgr B9);have KP:=zab (zhl B9);have A6:Below C.heap.size C E:=zae (zae (zaa _ _) (zaa _ _)) B9
 replace KT:=zab (zad A6 J0 KT.o)
 replace KZ:=zab (zad A6 N4 KZ.o)
 have HS:=zab (HP.o.1.below A6);have HO:Hid (E.ownsRow (C.heap.size+1+1) 124 3 v2 (homeS t.data).length (cellsSt (homeS t.data))):=zab (by simpa using G0);have M7:=zab (zae K7.o A6);have M5:C.heap.size+1<E.heap.size:=by have:=B9.size;simp at this;omega
 obtain⟨ha,hc,rfl,_,_⟩:=SegSt.of_owns G0;clear B9 A6 G0 x0 x1 x2 x3 x4 x5 x6 x7 x8 x9;have I7:w.heap.size+1<E.heap.size:=by omega
 have Q1:w.heap.size+1<E.heap.size+1:=by omega
 have P9:w.heap.size+1<E.heap.size+1+1:=by omega
 obtain⟨⟨x0,x1,x2,x3,x4,x5,x6,x7,x8,x9⟩,_⟩:=zaj KT.o
 gi_wp2_with fail
 obtain⟨J,C0⟩:∃J,J=((E.alloc (Obj.cells #[.slice ha (homeS t.data).length hc] 91)).alloc (Obj.cells #[.func (.func 165) #[] #[.pointer (some ⟨E.heap.size,0,none⟩),.pointer (some ⟨C.heap.size+1,0,none⟩)]] 229)).alloc (Obj.cells #[.func (.func 166) #[] #[.pointer (some ⟨w.heap.size+1,0,none⟩),.pointer (some ⟨E.heap.size+1,0,none⟩)]] 230):=⟨_,rfl⟩;have Z:Below E.heap.size E J:=by rw[C0];exact zae (zae (zaa _ _) (zaa _ _)) (zaa _ _)
 have C6:J.heap.size=E.heap.size+1+1+1:=by rw[C0];simp
 have A3:J.heap[E.heap.size]?=some (Obj.cells #[.slice ha (homeS t.data).length hc] 91)∧J.heap[E.heap.size+1]?=some (Obj.cells #[.func (.func 165) #[] #[.pointer (some ⟨E.heap.size,0,none⟩),.pointer (some ⟨C.heap.size+1,0,none⟩)]] 229)∧J.heap[E.heap.size+1+1]?=some (Obj.cells #[.func (.func 166) #[] #[.pointer (some ⟨w.heap.size+1,0,none⟩),.pointer (some ⟨E.heap.size+1,0,none⟩)]] 230)∧E.heap.size+1+1<J.heap.size:=by rw[C0];exact zkb (Below.refl _ _)
 rw[←C0];clear C0 x0 x1 x2 x3 x4 x5 x6 x7 x8 x9;have bS:Hid (Boxed J (E.heap.size) 91 (.slice ha (homeS t.data).length hc)):=A3.1;have bE:Hid (Boxed J (E.heap.size+1) 229 (.func (.func 165) #[] #[.pointer (some ⟨E.heap.size,0,none⟩),.pointer (some ⟨C.heap.size+1,0,none⟩)])):=A3.2.1;have bM:Hid (Boxed J (E.heap.size+1+1) 230 (.func (.func 166) #[] #[.pointer (some ⟨w.heap.size+1,0,none⟩),.pointer (some ⟨E.heap.size+1,0,none⟩)])):=A3.2.2.1
 have J9:StepsAt J (C.heap.size+1+1) (E.heap.size) (homeS t.data++putS PS []):=by
  rw[show putS PS []=[] from by simp[putS],List.append_nil];exact⟨_,bS.o,zah HO.o Z⟩
 have J5:PlacesAt J (C.heap.size+1+1) (C.heap.size+1) (PS.drop ([]:List ByteArray).length):=by
  refine⟨pa,pc,zad Z M5 KP.o,HS.o.below Z,?_,HP.o.2.2,?_⟩
  ·intro b off e;rcases HP.o.1 with e0|⟨b',off',e',A5,_⟩
   ·have:=Q.o;rw[e0]at this;simp at this
   ·rw[e]at e';cases e';omega
  ·intro e;rcases HP.o.1 with e0|⟨b',off',e',A5,_⟩
   ·exact e0
   ·rw[e]at e';cases e'
 have G9:Hid (LogAt J (C.heap.size+1+1) (E.heap.size) (C.heap.size+1) (homeS t.data) PS []):=⟨J9,J5,Nat.zero_le _⟩
 replace KT:=zab (zad Z I7 KT.o)
 replace KZ:=zab (zad Z (by omega) KZ.o)
 replace KB:=zab (zad Z (by omega) KB.o)
 have B7:=zab (zae M7.o Z);have G5:C.heap.size+1+1≤J.heap.size:=by omega
 have X:=zab C6;clear Z A3 J9 J5 HO HS HP KP bS C6;refine⟨trivial,(z0m Fence.wide 8 trivial rfl a4 t.rev.length a5 J).mono ?_⟩;rintro e W1 ⟨rfl,D5⟩;have E2:Below J.heap.size J W1:=by rw[D5];exact zae (zaa _ _) (zaa _ _)
 have L6:W1.heap.size=J.heap.size+1+1:=by rw[D5];simp
 have cS:Boxed W1 J.heap.size 35 (.slice a4 t.rev.length a5):=by rw[D5];exact zgr (Below.refl _ _)
 have cN:Boxed W1 (J.heap.size+1) 3 (.int .i64 20):=by rw[D5];exact zhl (Below.refl _ _)
 have K5:=zab L6;clear D5 L6;have F4:0<t.rev.length→t.rev.length≤a5:=fun _=>O1.o
 have E1:0<t.rev.length→∃b off,a4=some ⟨b,off,none⟩:=fun hp=>by
  rcases HR.o with e|⟨b,off,e,_⟩
  ·rw[e]at hp;simp at hp
  ·exact⟨b,off,e⟩
 have K6:=zab E1;have N7:=zab F4;clear E1 F4
 gi_wp2_with fail
 refine zi8 (F:=Fence.wide) (n:=9) rfl (by decide) (gf:=200) (lb:=#[.pointer (some ⟨J.heap.size,0,none⟩),.pointer (some ⟨J.heap.size+1,0,none⟩)]) rfl trivial (enters_of func200 (by kernel_rfl) rfl)
  (zpo Fence.wide 8 trivial rfl (by decide) J.heap.size (J.heap.size+1) t.rev.length a5 a4 (by omega) N7.o K6.o W1 cS cN) (Below.refl _ _) KeepsB.trans KeepsB.put (fun _=>rfl)
  (fun k W=>LogAt W (C.heap.size+1+1) (E.heap.size) (C.heap.size+1) (homeS t.data) PS (if k=0 then[] else zwp t)∧Fr (E.heap.size) (C.heap.size+1) (C.heap.size+1+1) J W∧Boxed W J.heap.size 35 (.slice a4 t.rev.length a5)∧Boxed W (J.heap.size+1) 3 (.int .i64 20))
  ?own ?drew ?start ?a1 ?assign ?body ?done
 case own=>
  intro k A B row I q hr;have B1:∀r,row=some r→∃o:Obj,A.heap[r]?=some o∧o.isCells=false:=fun r e=>(hr r e).2;refine⟨I.1.kept q B1,I.2.1.kept q (fun r e=>by have:=(hr r e).1;have:=K5.o;omega) G5,I.2.2.1.kept q ?_,I.2.2.2.kept q ?_⟩
  ·intro e;obtain⟨o,ho,hc⟩:=B1 _ e.symm;rw[show A.heap[J.heap.size]?=_ from I.2.2.1]at ho;cases ho;cases hc
  ·intro e;obtain⟨o,ho,hc⟩:=B1 _ e.symm;rw[show A.heap[J.heap.size+1]?=_ from I.2.2.2]at ho;cases ho;cases hc
 case drew=>
  intro k V I;exact⟨I.1.below (Below.refl _ _).drew,I.2.1.trans (Fr.of_below (Below.refl _ _).drew (by have:=I.2.1.size;omega)),I.2.2.1,I.2.2.2⟩
 case start=>
  refine⟨?_,Fr.of_below E2 G5,cS,cN⟩;rw[if_pos rfl];exact G9.o.below E2
 case assign=>
  intro l k W K hK
  gi_wp2
  exact hK
 case body=>
  intro l k W hk I;obtain⟨y,U,c1,c2⟩:=I;have N1:k=0∧0<t.rev.length:=by unfold zc6 at hk;omega
  obtain⟨rfl,hp⟩:=N1;obtain⟨b,off,rfl⟩:=K6.o hp;have R3:zfk t.rev.length 20 0=t.rev.length:=by unfold zfk;split<;>omega
  have R0:=(U.boxed bM.o (by decide) (by omega) (by omega)).cell;rw[if_pos rfl]at y;have C0:=U.size;have I0:([]:List ByteArray).length<PS.length:=by have:=Q.o;simp;omega
  have P0:SegI W (some ⟨b,off,none⟩) t.rev:=by
   have A5:=HR.o;rcases A5 with e|⟨b',off',e,hl,hc⟩
   ·exact .inl e
   ·cases e;refine .inr ⟨b,off,rfl,Nat.lt_of_lt_of_le (Nat.lt_of_lt_of_le hl B7.o.size) U.size,fun i hi=>?_⟩;have R1:b<w.heap.size:=hl;exact(World.cell?_of_block (w:=J) (a:=⟨b,off+i,none⟩) (U.low b (by omega) (by omega) (by omega))).trans (zac B7.o hl (hc i hi))
  have A9:=A2.o;have M:=U.box _ _ KT.o (fun cs fr e=>by simp only[Obj.cells.injEq]at e;exact absurd e.2.1 (by decide)) (by omega) (by omega);have S:=(zaj M).1.1;have O:=(U.boxed bE.o (by decide) (by omega) (by omega)).cell
  have N:PlacesAt W (C.heap.size+1+1) (C.heap.size+1) (PS.getD ([]:List ByteArray).length 0::PS.drop (([]:List ByteArray).length+1)):=by
   have:=y.2.1;rw[zjb I0]at this;exact this
  have h:(homeS t.data++putS PS ([])).length≤900:=by
   rw[List.length_append,zd4 (Nat.le_of_lt I0)];have:=D4.o;have:=Q.o;omega
  gi_wp2_with fail
  refine⟨trivial,(CallsIn.inRound l (callsIn_wide.2 (zjp (E.heap.size) (C.heap.size+1) (C.heap.size+1+1) (w.heap.size+1) (E.heap.size+1) (homeS t.data++putS PS ([])) (PS.getD ([]:List ByteArray).length 0) (PS.drop (([]:List ByteArray).length+1)) ⟨3,0,0,[],t.rev⟩ _ t.seq W ⟨none,0,some ⟨b,off,none⟩,_,rfl,.inl rfl,P0,Nat.zero_le _,by show t.rev.length≤maxLen;unfold maxLen;omega⟩ S (by have:=U.size;have:=X.o;omega) O (by have:=U.size;have:=X.o;omega) y.1 N h (by have:=Q.o;have:=A9;simp;omega) (u.o _).1 (u.o _).2 (by have:=U.size;omega) (by omega) (by omega)))).mono ?_⟩;rintro e W' ⟨⟨v,rfl⟩,R,k2,L⟩;clear M S O N h
  gi_wp2
  have hz:=X.o;refine⟨L.others y.1.boxed y.2.1.boxed,KeepsB.of_fr L c1 c2 (by decide) (by decide) (by omega) (by omega) (by omega) (by omega),?_,U.trans L,L.boxed c1 (by decide) (by omega) (by omega),L.boxed c2 (by decide) (by omega) (by omega)⟩;rw[zwp,if_neg (by omega)];exact LogAt.next (d:=[]) I0 R k2
 case done=>
  intro D W hD I hK;obtain⟨y,U,_,_⟩:=I
  have D9:LogAt W (C.heap.size+1+1) (E.heap.size) (C.heap.size+1) (homeS t.data) PS (zwp t):=by
   by_cases h0:t.rev.length=0
   ·have e1:zc6 t.rev.length 20=0:=by rw[h0];rfl
    have e2:zwp t=[]:=by rw[zwp,if_pos h0]
    rw[e1,if_pos rfl]at y;rw[e2];exact y
   ·have e1:zc6 t.rev.length 20≠0:=by unfold zc6;omega
    rw[if_neg e1]at y;exact y
  have P7:=zab D9;have N3:=zab U;have P5:=zab hK;have N5:D<W.heap.size:=(Array.getElem?_eq_some_iff.1 hK).1;have Q8:=U.size;have R4:J.heap.size<D:=by have:=K5.o;omega
  have M:=U.box _ _ KT.o (fun cs fr e=>by simp only[Obj.cells.injEq]at e;exact absurd e.2.1 (by decide)) (by omega) (by omega);obtain⟨⟨x0,x1,x2,x3,x4,x5,x6,x7,x8,x9⟩,_⟩:=zaj M;clear y D9 U hK M cS cN E2 G9
  gi_wp2_with fail
  refine⟨trivial,(z0n Fence.wide 8 trivial rfl a0 t.info.length a1 W).mono ?_⟩;rintro e W2 ⟨rfl,C5⟩;have E5:Below W.heap.size W W2:=by rw[C5];exact zae (zaa _ _) (zaa _ _)
  have H6:W2.heap.size=W.heap.size+1+1:=by rw[C5];simp
  have dS:Boxed W2 W.heap.size 34 (.slice a0 t.info.length a1):=by rw[C5];exact zgr (Below.refl _ _)
  have dN:Boxed W2 (W.heap.size+1) 3 (.int .i64 10):=by rw[C5];exact zhl (Below.refl _ _)
  have J4:=zab H6;clear C5 H6 x0 x1 x2 x3 x4 x5 x6 x7 x8 x9
  have D3:0<t.info.length→∃b off,a0=some ⟨b,off,none⟩:=fun hp=>by
   rcases HM.o with e|⟨b,off,e,_⟩
   ·rw[e]at hp;simp at hp
   ·exact⟨b,off,e⟩
  have L0:=zab D3;clear D3
  gi_wp2_with fail
  refine zi8 (F:=Fence.wide) (n:=9) rfl (by decide) (gf:=201) (lb:=#[.pointer (some ⟨W.heap.size,0,none⟩),.pointer (some ⟨W.heap.size+1,0,none⟩)]) rfl trivial (enters_of func201 (by kernel_rfl) rfl)
   (zpp Fence.wide 8 trivial rfl (by decide) W.heap.size (W.heap.size+1) t.info.length a1 a0 (by omega) (fun _=>N0.o) L0.o W2 dS dN) (Below.refl _ _) KeepsB.trans KeepsB.put (fun _=>rfl)
   (fun k V=>LogAt V (C.heap.size+1+1) (E.heap.size) (C.heap.size+1) (homeS t.data) PS (zwp t++zh4 t.seq t.info k)∧Fr (E.heap.size) (C.heap.size+1) (C.heap.size+1+1) J V∧Boxed V W.heap.size 34 (.slice a0 t.info.length a1)∧Boxed V (W.heap.size+1) 3 (.int .i64 10)∧V.heap[D]?=some (.deferred (some [])))
   ?own2 ?drew2 ?start2 ?a2 ?assign2 ?body2 ?done2
  case own2=>
   intro k A B row I q hr;have B1:∀r,row=some r→∃o:Obj,A.heap[r]?=some o∧o.isCells=false:=fun r e=>(hr r e).2;have H6:=J4.o;refine⟨I.1.kept q B1,I.2.1.kept q (fun r e=>by have:=(hr r e).1;omega) G5,I.2.2.1.kept q ?_,I.2.2.2.1.kept q ?_,(q.block D (Array.getElem?_eq_some_iff.1 I.2.2.2.2).1 (fun e=>by have:=(hr D e.symm).1;omega)).trans I.2.2.2.2⟩
   ·intro e;obtain⟨o,ho,hc⟩:=B1 _ e.symm;rw[show A.heap[W.heap.size]?=_ from I.2.2.1]at ho;cases ho;cases hc
   ·intro e;obtain⟨o,ho,hc⟩:=B1 _ e.symm;rw[show A.heap[W.heap.size+1]?=_ from I.2.2.2.1]at ho;cases ho;cases hc
  case drew2=>
   intro k V I;exact⟨I.1.below (Below.refl _ _).drew,I.2.1.trans (Fr.of_below (Below.refl _ _).drew (by have:=I.2.1.size;omega)),I.2.2.1,I.2.2.2.1,I.2.2.2.2⟩
  case start2=>
   refine⟨?_,N3.o.trans (Fr.of_below E5 (by omega)),dS,dN,zad E5 N5 P5.o⟩;rw[show zh4 t.seq t.info 0=[] from rfl,List.append_nil];exact P7.o.below E5
  case assign2=>
   intro l k V K hK
   gi_wp2
   exact hK
  case body2=>
   intro l k V hk I;obtain⟨y,U,c1,c2,C9⟩:=I;have hp:0<t.info.length:=by unfold zc6 at hk;omega
   obtain⟨b,off,rfl⟩:=L0.o hp;have R5:=U.size;have H7:SegW V (some ⟨b,off+10*k*2,none⟩) (partOf t.info k):=z0q (HM.o.low B7.o U (by omega) (by omega) (by omega)) k;have F5:=zgg t.info k
   have F9:∀x∈partOf t.info k,x.2.size≤maxLen:=by
    intro x hx;have C8:=((za9 t).1 HG.o).2.1.1;unfold zb6 at C8;have:=List.all_eq_true.1 C8 x (zxz hx);simp[zbb]at this;unfold maxLen;omega
   have Q0:(partOf t.info k).length≤10:=by rw[partOf,List.length_take];omega
   have J1:=zxy t.seq t.info (show k+1≤zc6 t.info.length 10 by omega);have L1:(zwp t).length+(zh4 t.seq t.info (k+1)).length≤(logB t).length:=by rw[logB,List.length_append];omega
   have C1:=zfw t.seq t.info k;obtain⟨dd,C3⟩:∃dd,dd=zwp t++zh4 t.seq t.info k:=⟨_,rfl⟩;have G1:dd.length+(zqv t.seq t.info k).length≤(logB t).length:=by rw[C3,List.length_append];rw[C1,List.length_append]at L1;omega
   have M4:Hid (zwp t++zh4 t.seq t.info (k+1)=dd++[encT ⟨2,t.seq,0,tagsOf (partOf t.info k),[]⟩]++textsOf (partOf t.info k)):=by
    rw[Hid,C1,←List.append_assoc,←C3,zqv];simp
   rw[←C3]at y
   have C2:Hid (dd.length+(1+(textsOf (partOf t.info k)).length)≤(logB t).length):=by
    have O3:(zqv t.seq t.info k).length=1+(textsOf (partOf t.info k)).length:=by rw[zqv,List.length_cons];omega
    rw[Hid,←O3];exact G1
   clear G1;have I3:=zab H7;have O5:=zab F9;have H1:=zab y;have N2:=zab U;clear H7 F9 J1 L1 C1 C3 y U;rw[←F5];clear F5;generalize partOf t.info k=part at *
   gi_wp2_with fail
   refine⟨trivial,(CallsIn.inRound l (callsIn_wide.2 (zm1 (some ⟨b,off+10*k*2,none⟩) part.length part V I3.o (by omega) O5.o))).mono ?_⟩;rintro e V1 ⟨v1,v2,rfl,hG,H4,A7⟩;have I5:=H1.o.below A7;have A4:=N2.o.trans (Fr.of_below A7 (by omega));have H9:Fr (E.heap.size) (C.heap.size+1) (C.heap.size+1+1) V V1:=Fr.of_below A7 (by omega);obtain⟨ga,gc,rfl,L8,_⟩:=SegG.of_owns hG;obtain⟨ta,tc,O8,P2,_⟩:=SegX.of_owns H4;subst O8;have O0:Hid ((textsOf part).length=part.length):=by rw[Hid,textsOf,List.length_map]
   have J7:Hid ((tagsOf part).length=part.length):=by rw[Hid,tagsOf,List.length_map]
   have s:dd.length<PS.length:=by have:=Q.o;have:=C2.o;omega
   have H5:=zab s;have A9:=A2.o;have M:=A4.box _ _ KT.o (fun cs fr e=>by simp only[Obj.cells.injEq]at e;exact absurd e.2.1 (by decide)) (by omega) (by omega);have S:=(zaj M).1.1;have O:=(A4.boxed bE.o (by decide) (by omega) (by omega)).cell
   have N:PlacesAt V1 (C.heap.size+1+1) (C.heap.size+1) (PS.getD (dd).length 0::PS.drop ((dd).length+1)):=by
    have:=I5.2.1;rw[zjb s]at this;exact this
   have h:(homeS t.data++putS PS (dd)).length≤900:=by
    rw[List.length_append,zd4 (Nat.le_of_lt s)];have:=D4.o;have:=Q.o;omega
   have E0:=(A4.boxed bM.o (by decide) (by omega) (by omega)).cell
   gi_wp2_with fail
   refine⟨trivial,(CallsIn.inRound l (callsIn_wide.2 (zjp (E.heap.size) (C.heap.size+1) (C.heap.size+1+1) (w.heap.size+1) (E.heap.size+1) (homeS t.data++putS PS (dd)) (PS.getD (dd).length 0) (PS.drop ((dd).length+1)) ⟨2,0,0,tagsOf part,[]⟩ _ t.seq V1 ⟨ga,gc,none,0,rfl,L8,.inl rfl,by show(tagsOf part).length≤maxLen;rw[J7.o];unfold maxLen;omega,Nat.zero_le _⟩ S (by have:=A4.size;have:=X.o;omega) O (by have:=A4.size;have:=X.o;omega) I5.1 N h (by have:=Q.o;have:=A9;simp;omega) (u.o _).1 (u.o _).2 (by have:=A4.size;omega) (by omega) (by omega)))).mono ?_⟩;rintro e V2 ⟨⟨v,rfl⟩,R,k2,L⟩;have D9:LogAt V2 (C.heap.size+1+1) (E.heap.size) (C.heap.size+1) (homeS t.data) PS (dd++[encT ⟨2,t.seq,0,tagsOf part,[]⟩]):=LogAt.next s R k2;have K4:=A4.trans L;have H8:z3u V2 V.heap.size (.slice ta (textsOf part).length tc) (textsOf part):=z0p H4 L (by decide) (by have:=X.o;omega) (by omega);have M9:=zab D9;have F3:=zab K4;have M0:=zab (H9.trans L);have N6:=zab H8;have Q9:=A7.size;clear M S O N h E0 R k2 D9 K4 I5 A4 H9 H4 H8 hG L8 P2 J7
   have P6:Hid ((dd++[encT ⟨2,t.seq,0,tagsOf part,[]⟩]).length+(textsOf part).length<PS.length):=by
    rw[Hid,List.length_append];have:=C2.o;have:=Q.o;simp;omega
   have Q6:(textsOf part).length≤20:=by have:=C2.o;have:=A2.o;omega
   clear s H5 C2 O0;generalize dd++[encT ⟨2,t.seq,0,tagsOf part,[]⟩]=d2 at *;generalize textsOf part=TX at *
   gi_wp2
   gi_loopw [60] (fun i wr=>∃j:Nat,j≤TX.length∧i=.int .i64 j∧Hid (LogAt wr (C.heap.size+1+1) (E.heap.size) (C.heap.size+1) (homeS t.data) PS (d2++TX.take j))∧Hid (Fr (E.heap.size) (C.heap.size+1) (C.heap.size+1+1) V2 wr)) (fun i _=>TX.length - (intOf i).toNat)
   case atStart=>exact⟨0,Nat.zero_le _,rfl,by rw[List.take_zero,List.append_nil];exact M9,(Fr.of_below (Below.refl _ _) (by have:=F3.o.size;omega))⟩
   case round=>
    obtain⟨j,hj,rfl,D8,B2⟩:=hrel;have Q3:=F3.o.size;by_cases A5:j<TX.length
    ·have M2:(j:Int)<(TX.length:Int):=by omega
     have K0:z3u wr V.heap.size (.slice ta TX.length tc) TX:=z0p N6.o B2.o (by decide) (by have:=X.o;omega) (by omega);obtain⟨N9,O6,ee,hS,_⟩:=SegX.of_owns K0;obtain⟨rfl,rfl⟩:ta=N9∧tc=O6:=by simpa using ee
     obtain⟨b2,Q2,rfl,B9,L5⟩:=hS.resolve_left (by intro e;rw[e]at A5;simp at A5);have I8:=L5 j A5;have O:=((F3.o.trans B2.o).boxed bE.o (by decide) (by omega) (by omega)).cell;have s:(d2++TX.take j).length<PS.length:=by rw[List.length_append,List.length_take];have:=P6.o;omega
     have N:PlacesAt wr (C.heap.size+1+1) (C.heap.size+1) (PS.getD (d2++TX.take j).length 0::PS.drop ((d2++TX.take j).length+1)):=by
      have:=D8.o.2.1;rw[zjb s]at this;exact this
     have h:(homeS t.data++putS PS (d2++TX.take j)).length≤900:=by
      rw[List.length_append,zd4 (Nat.le_of_lt s)];have:=D4.o;have:=Q.o;have:=A2.o;omega
     have H5:=zab s;have F8:=zab N;have J2:=zab h;have P1:=zab (z0r TX A5);clear K0 hS L5 ee s N h;generalize TX.getD j ByteArray.empty=tj at *
     gi_wp2_with fail
     refine⟨trivial,(CallsIn.inRound l (callsIn_wide.2 (zrz (E.heap.size) (C.heap.size+1) (C.heap.size+1+1) (homeS t.data++putS PS (d2++TX.take j)) (PS.getD (d2++TX.take j).length 0) (PS.drop ((d2++TX.take j).length+1)) tj wr D8.o.1 F8.o J2.o (by have:=Q.o;have:=A2.o;simp;omega) (u.o _).1 (u.o _).2 (by have:=B2.o.size;omega) (by omega) (by omega)))).mono ?_⟩;rintro e V3 ⟨⟨v,rfl⟩,R,k2,B8⟩;have N8:=zab (LogAt.next H5.o R k2);have P3:=zab (B2.o.trans B8);clear R k2 B8 F8 J2 D8 B2 O I8
     gi_wp2
     go_roundw
     case rel=>exact⟨j+1,by omega,by go_num,by rw[P1.o,←List.append_assoc];exact N8,P3⟩
     case measure=>simp[intOf];omega
    ·have M2:¬((j:Int)<(TX.length:Int)):=by omega
     have e:j=TX.length:=by omega
     subst e;rw[List.take_length]at D8
     gi_wp2
     have hz:=X.o;have D7:=M0.o.trans B2.o;refine⟨D7.others H1.o.1.boxed H1.o.2.1.boxed,KeepsB.of_fr D7 c1 c2 (by decide) (by decide) (by omega) (by omega) (by omega) (by omega),?_,F3.o.trans B2.o,D7.boxed c1 (by decide) (by omega) (by omega),D7.boxed c2 (by decide) (by omega) (by omega),D7.box D _ C9 (fun cs fr e=>by cases e) (by omega) (by omega)⟩;rw[M4.o];exact D8.o
  case done2=>
   intro m W3 R2 I G6;obtain⟨G7,Y,_,_,C9⟩:=I;have F6:LogAt W3 (C.heap.size+1+1) (E.heap.size) (C.heap.size+1) (homeS t.data) PS (logB t):=G7;have F0:(logB t).length<PS.length:=by have:=Q.o;omega
   have Q4:=Y.size;clear G7;have A9:=A2.o;have M:=Y.box _ _ KT.o (fun cs fr e=>by simp only[Obj.cells.injEq]at e;exact absurd e.2.1 (by decide)) (by omega) (by omega);have S:=(zaj M).1.1;have O:=(Y.boxed bE.o (by decide) (by omega) (by omega)).cell
   have N:PlacesAt W3 (C.heap.size+1+1) (C.heap.size+1) (PS.getD (logB t).length 0::PS.drop ((logB t).length+1)):=by
    have:=F6.2.1;rw[zjb F0]at this;exact this
   have h:(homeS t.data++putS PS (logB t)).length≤900:=by
    rw[List.length_append,zd4 (Nat.le_of_lt F0)];have:=D4.o;have:=Q.o;omega
   have I1:=M;obtain⟨⟨x0,x1,x2,x3,x4,x5,x6,x7,x8,x9⟩,_⟩:=zaj I1;clear M I1 S O
   have I9:(homeS t.data++putS PS (logB t)).length≤40:=by
    rw[List.length_append,zd4 (Nat.le_of_lt F0)];have:=D4.o;have:=A2.o;omega
   have C6:=X.o;have O4:=zab C6;clear C6;have R6:E.heap.size+1+1<J.heap.size:=by have:=O4.o;omega
   have Q5:D<m:=by have:=J4.o;omega
   by_cases hz:0<t.rev.length+t.info.length
   ·have O7:(0:Int)<(t.rev.length:Int)+(t.info.length:Int):=by omega
    gi_wp2_with fail
    refine⟨trivial,(callsIn_wide.2 (zpn (E.heap.size) (E.heap.size) (C.heap.size+1+1) (homeS t.data++putS PS (logB t)) W3 F6.1 h (by omega))).mono ?_⟩;rintro e W4 ⟨⟨v4,rfl⟩,R,B8⟩;have L:Fr (E.heap.size) (C.heap.size+1) (C.heap.size+1+1) W3 W4:=B8.weak;have A8:=Y.trans L;have M8:=N.fr B8 (by omega) (by omega);have M1:=L.box D _ C9 (fun cs fr e=>by cases e) (by omega) (by omega);have L9:=L.box m _ G6 (fun cs fr e=>by cases e) (by omega) (by omega);have E3:(homeS t.data++putS PS (logB t)++[zb1]).length≤890:=by rw[List.length_append];show _+1≤890;omega
    clear L B8 F6 Y C9 G6 N h x0 x1 x2 x3 x4 x5 x6 x7 x8 x9;have E0:=(A8.boxed bM.o (by decide) (by omega) (by omega)).cell;have M:=A8.box _ _ KT.o (fun cs fr e=>by simp only[Obj.cells.injEq]at e;exact absurd e.2.1 (by decide)) (by omega) (by omega);have S:=(zaj M).1.1;have O:=(A8.boxed bE.o (by decide) (by omega) (by omega)).cell
    gi_wp2_with fail
    refine⟨trivial,(callsIn_wide.2 (zjp (E.heap.size) (C.heap.size+1) (C.heap.size+1+1) (w.heap.size+1) (E.heap.size+1) (homeS t.data++putS PS (logB t)++[zb1]) (PS.getD (logB t).length 0) (PS.drop ((logB t).length+1)) ⟨4,0,0,[],[]⟩ _ t.seq W4 ⟨none,0,none,0,rfl,.inl rfl,.inl rfl,Nat.zero_le _,Nat.zero_le _⟩ S (by have:=A8.size;have:=X.o;omega) O (by have:=A8.size;have:=X.o;omega) R M8 (by omega) (by have:=Q.o;have:=A2.o;simp;omega) (u.o _).1 (u.o _).2 (by have:=A8.size;omega) (by omega) (by omega))).mono ?_⟩;rintro e W5 ⟨⟨v5,rfl⟩,R,k2,L⟩;have C4:=A8.trans L;have B0:=L.box D _ M1 (fun cs fr e=>by cases e) (by omega) (by omega);have B5:=L.box m _ L9 (fun cs fr e=>by cases e) (by omega) (by omega)
    have B6:(homeS t.data++putS PS (logB t)++[zb1]++[zbl (1+PS.getD (logB t).length 0) (encT ⟨4,t.seq,0,[],[]⟩)]).length≤900:=by
     rw[List.length_append];show _+1≤900;omega
    have G8:=zab R;have C7:=zab C4;have F1:=zab B0;have E7:=zab B5;have E4:=zab B6;clear E0 M S O R k2 L C4 B0 B5 B6 E3
    gi_wp2_with fail
    refine⟨trivial,(callsIn_wide.2 (zpn (E.heap.size) (C.heap.size+1) (C.heap.size+1+1) _ W5 G8.o E4.o (by have:=C7.o.size;omega))).mono ?_⟩;rintro e W6 ⟨⟨v6,rfl⟩,R,L⟩;have A0:=zab (C7.o.trans L);have F2:=zab (L.box D _ F1.o (fun cs fr e=>by cases e) (by omega) (by omega));have E6:=zab (L.box m _ E7.o (fun cs fr e=>by cases e) (by omega) (by omega));have z:commitS rh ru t=homeS t.data++putS PS (logB t)++[zb1]++[zbl (1+PS.getD (logB t).length 0) (encT ⟨4,t.seq,0,[],[]⟩)]++[zb1]:=by rw[HC.o,if_pos hz];rfl
    rw[←z]at R;have M3:=zab z;obtain⟨P4,b6,o6⟩:=R;have H3:=zab o6;obtain⟨fa,fc,rfl,B4,A1⟩:=SegSt.of_owns o6;have I3:=zab B4;have O9:=zab A1;have c6:=b6.cell;have D6:=A0.o.box _ _ KB.o (fun cs fr e=>by simp only[Obj.cells.injEq]at e;exact absurd e.2.1 (by decide)) (by omega) (by omega);have B3:=A0.o.box _ _ KZ.o (fun cs fr e=>by simp only[Obj.cells.injEq]at e;exact absurd e.2.1 (by decide)) (by omega) (by omega);obtain⟨⟨y0,y1⟩,_⟩:=zgq D6;obtain⟨⟨z0,z1⟩,P8,M6⟩:=zgq B3;have I4:=zab A0.o.size;have I2:=zab B3;clear L z b6 o6 B4 A1 D6 B3
    gi_wp2
    gi_region
    all_goals
     gi_wp2
     have E8:=zjs I2.o (.int .i64 sH) (.int .i64 sU);have q2:((W6.setCell ⟨w.heap.size+1+1,0,none⟩ (.int .i64 sH)).setCell ⟨w.heap.size+1+1,1,none⟩ (.int .i64 sU)).drew.heap[m]?=some (.deferred (some [])):=(Below.heap_setCell _ _ _ _ (by simp;omega)).trans ((Below.heap_setCell _ _ _ _ (by simp;omega)).trans E6.o);have q1:(((W6.setCell ⟨w.heap.size+1+1,0,none⟩ (.int .i64 sH)).setCell ⟨w.heap.size+1+1,1,none⟩ (.int .i64 sU)).drew.putObj m (.deferred none)).heap[D]?=some (.deferred (some [])):=(World.putObj_heap_other (by omega)).trans ((Below.heap_setCell _ _ _ _ (by simp;omega)).trans ((Below.heap_setCell _ _ _ _ (by simp;omega)).trans F2.o));have F7:C.heap.size+1+1≤W6.heap.size:=by have:=I4.o;omega
     have D1:=ownsRow_putObj (ownsRow_putObj (zah (ownsRow_setCell_below (ownsRow_setCell_below H3.o (a:=⟨w.heap.size+1+1,0,none⟩) (by simp;omega) (.int .i64 sH)) (a:=⟨w.heap.size+1+1,1,none⟩) (by simp;omega) (.int .i64 sU)) (Below.refl _ _).drew) (.deferred none) q2 rfl) (.deferred none) q1 rfl;have G3:=((((B7.o.trans (A0.o.below (by omega) (by omega) (by omega))).setCell (p:=⟨w.heap.size+1+1,0,none⟩) (by simp;omega) (.int .i64 sH)).setCell (p:=⟨w.heap.size+1+1,1,none⟩) (by simp;omega) (.int .i64 sU)).drew.trans (belowK_b (w:=w) (Nat.le_refl _) _ m _ (.deferred none) (by omega) q2 rfl rfl)).trans (belowK_b (w:=w) (Nat.le_refl _) _ D _ (.deferred none) (by omega) q1 rfl rfl);have G4:((((W6.setCell ⟨w.heap.size+1+1,0,none⟩ (.int .i64 sH)).setCell ⟨w.heap.size+1+1,1,none⟩ (.int .i64 sU)).drew.putObj m (.deferred none)).putObj D (.deferred none)).heap[w.heap.size+1+1]?=some (.cells #[.int .i64 sH,.int .i64 sU] 26 (0,0)):=(World.putObj_heap_other (by omega)).trans ((World.putObj_heap_other (by omega)).trans E8);obtain⟨⟨u0,u1⟩,_⟩:=zgq G4;refine⟨by simp,.inl ⟨m,_,rfl,run_takeDeferred q2,?_⟩⟩;refine⟨by simp,.inl ⟨D,_,rfl,run_takeDeferred q1,?_⟩⟩;refine⟨.tuple #[.agg #[.int .i64 sH,.int .i64 sU],.slice fa (commitS rh ru t).length fc,.int .i64 0],by simp[results,results125,go_sem,u0,u1],?_⟩;have E9:=zsg D1 rfl;obtain⟨H0,H2,e9,I6,G2⟩:=SegSt.of_owns D1;obtain⟨rfl,rfl⟩:fa=H0∧fc=H2:=by simpa using e9
     exact⟨fa,fc,by rw[J8.o,K8.o,L3.o],E9,fun b off e=>by have:=G2 b off e;have:=B7.o.size;omega,I6,G3⟩
   ·have O7:¬((0:Int)<(t.rev.length:Int)+(t.info.length:Int)):=by omega
    have E3:(homeS t.data++putS PS (logB t)).length≤890:=by have:=I9;omega
    have E0:=(Y.boxed bM.o (by decide) (by omega) (by omega)).cell;have M:=Y.box _ _ KT.o (fun cs fr e=>by simp only[Obj.cells.injEq]at e;exact absurd e.2.1 (by decide)) (by omega) (by omega);have S:=(zaj M).1.1;have O:=(Y.boxed bE.o (by decide) (by omega) (by omega)).cell
    gi_wp2_with fail
    refine⟨trivial,(callsIn_wide.2 (zjp (E.heap.size) (C.heap.size+1) (C.heap.size+1+1) (w.heap.size+1) (E.heap.size+1) (homeS t.data++putS PS (logB t)) (PS.getD (logB t).length 0) (PS.drop ((logB t).length+1)) ⟨4,0,0,[],[]⟩ _ t.seq W3 ⟨none,0,none,0,rfl,.inl rfl,.inl rfl,Nat.zero_le _,Nat.zero_le _⟩ S (by have:=Y.size;have:=X.o;omega) O (by have:=Y.size;have:=X.o;omega) F6.1 N (by omega) (by have:=Q.o;have:=A2.o;simp;omega) (u.o _).1 (u.o _).2 (by have:=Y.size;omega) (by omega) (by omega))).mono ?_⟩;rintro e W5 ⟨⟨v5,rfl⟩,R,k2,L⟩;have C4:=Y.trans L;have B0:=L.box D _ C9 (fun cs fr e=>by cases e) (by omega) (by omega);have B5:=L.box m _ G6 (fun cs fr e=>by cases e) (by omega) (by omega)
    have B6:(homeS t.data++putS PS (logB t)++[zbl (1+PS.getD (logB t).length 0) (encT ⟨4,t.seq,0,[],[]⟩)]).length≤900:=by
     rw[List.length_append];show _+1≤900;omega
    have G8:=zab R;have C7:=zab C4;have F1:=zab B0;have E7:=zab B5;have E4:=zab B6;clear E0 M S O R k2 L C4 B0 B5 B6 E3
    gi_wp2_with fail
    refine⟨trivial,(callsIn_wide.2 (zpn (E.heap.size) (C.heap.size+1) (C.heap.size+1+1) _ W5 G8.o E4.o (by have:=C7.o.size;omega))).mono ?_⟩;rintro e W6 ⟨⟨v6,rfl⟩,R,L⟩;have A0:=zab (C7.o.trans L);have F2:=zab (L.box D _ F1.o (fun cs fr e=>by cases e) (by omega) (by omega));have E6:=zab (L.box m _ E7.o (fun cs fr e=>by cases e) (by omega) (by omega));have z:commitS rh ru t=homeS t.data++putS PS (logB t)++[zbl (1+PS.getD (logB t).length 0) (encT ⟨4,t.seq,0,[],[]⟩)]++[zb1]:=by rw[HC.o,if_neg hz,List.append_nil];rfl
    rw[←z]at R;have M3:=zab z;obtain⟨P4,b6,o6⟩:=R;have H3:=zab o6;obtain⟨fa,fc,rfl,B4,A1⟩:=SegSt.of_owns o6;have I3:=zab B4;have O9:=zab A1;have c6:=b6.cell;have D6:=A0.o.box _ _ KB.o (fun cs fr e=>by simp only[Obj.cells.injEq]at e;exact absurd e.2.1 (by decide)) (by omega) (by omega);have B3:=A0.o.box _ _ KZ.o (fun cs fr e=>by simp only[Obj.cells.injEq]at e;exact absurd e.2.1 (by decide)) (by omega) (by omega);obtain⟨⟨y0,y1⟩,_⟩:=zgq D6;obtain⟨⟨z0,z1⟩,P8,M6⟩:=zgq B3;have I4:=zab A0.o.size;have I2:=zab B3;clear L z b6 o6 B4 A1 D6 B3
    gi_wp2
    gi_region
    all_goals
     gi_wp2
     have E8:=zjs I2.o (.int .i64 sH) (.int .i64 sU);have q2:((W6.setCell ⟨w.heap.size+1+1,0,none⟩ (.int .i64 sH)).setCell ⟨w.heap.size+1+1,1,none⟩ (.int .i64 sU)).drew.heap[m]?=some (.deferred (some [])):=(Below.heap_setCell _ _ _ _ (by simp;omega)).trans ((Below.heap_setCell _ _ _ _ (by simp;omega)).trans E6.o);have q1:(((W6.setCell ⟨w.heap.size+1+1,0,none⟩ (.int .i64 sH)).setCell ⟨w.heap.size+1+1,1,none⟩ (.int .i64 sU)).drew.putObj m (.deferred none)).heap[D]?=some (.deferred (some [])):=(World.putObj_heap_other (by omega)).trans ((Below.heap_setCell _ _ _ _ (by simp;omega)).trans ((Below.heap_setCell _ _ _ _ (by simp;omega)).trans F2.o));have F7:C.heap.size+1+1≤W6.heap.size:=by have:=I4.o;omega
     have D1:=ownsRow_putObj (ownsRow_putObj (zah (ownsRow_setCell_below (ownsRow_setCell_below H3.o (a:=⟨w.heap.size+1+1,0,none⟩) (by simp;omega) (.int .i64 sH)) (a:=⟨w.heap.size+1+1,1,none⟩) (by simp;omega) (.int .i64 sU)) (Below.refl _ _).drew) (.deferred none) q2 rfl) (.deferred none) q1 rfl;have G3:=((((B7.o.trans (A0.o.below (by omega) (by omega) (by omega))).setCell (p:=⟨w.heap.size+1+1,0,none⟩) (by simp;omega) (.int .i64 sH)).setCell (p:=⟨w.heap.size+1+1,1,none⟩) (by simp;omega) (.int .i64 sU)).drew.trans (belowK_b (w:=w) (Nat.le_refl _) _ m _ (.deferred none) (by omega) q2 rfl rfl)).trans (belowK_b (w:=w) (Nat.le_refl _) _ D _ (.deferred none) (by omega) q1 rfl rfl);have G4:((((W6.setCell ⟨w.heap.size+1+1,0,none⟩ (.int .i64 sH)).setCell ⟨w.heap.size+1+1,1,none⟩ (.int .i64 sU)).drew.putObj m (.deferred none)).putObj D (.deferred none)).heap[w.heap.size+1+1]?=some (.cells #[.int .i64 sH,.int .i64 sU] 26 (0,0)):=(World.putObj_heap_other (by omega)).trans ((World.putObj_heap_other (by omega)).trans E8);obtain⟨⟨u0,u1⟩,_⟩:=zgq G4;refine⟨by simp,.inl ⟨m,_,rfl,run_takeDeferred q2,?_⟩⟩;refine⟨by simp,.inl ⟨D,_,rfl,run_takeDeferred q1,?_⟩⟩;refine⟨.tuple #[.agg #[.int .i64 sH,.int .i64 sU],.slice fa (commitS rh ru t).length fc,.int .i64 0],by simp[results,results125,go_sem,u0,u1],?_⟩;have E9:=zsg D1 rfl;obtain⟨H0,H2,e9,I6,G2⟩:=SegSt.of_owns D1;obtain⟨rfl,rfl⟩:fa=H0∧fc=H2:=by simpa using e9
     exact⟨fa,fc,by rw[J8.o,K8.o,L3.o],E9,fun b off e=>by have:=G2 b off e;have:=B7.o.size;omega,I6,G3⟩
open Go.RowKit
