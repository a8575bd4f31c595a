/-
  
-/
import Derived.Test.YtjnpndfpajjihacGreatEPure
import Derived.Test.YtjnpndfpajjihacGreatGrTopAnywhere45
import Derived.Laws.EntriesVeiled
set_option maxRecDepth 100000
set_option maxHeartbeats 40000000
namespace Go.Proofs.YtjnpndfpajjihacGreat
open Go.Proofs.Tryz
open Go.RowKit Go.Shelf
attribute [local go_sem] Oper.semAt_some
theorem IsTx.segs{w:World}{t:Tx}{a:Option Addr}{c:Nat}{a':Option Addr}{c':Nat}{r:Option Addr}{d:Nat}(h:IsTx w (.agg #[.int .i64 t.seq,.slice a t.info.length c,.slice a' t.data.length c',.slice r t.rev.length d,.bool t.h0.on,.int .i64 t.h0.left,.bool t.h1.on,.int .i64 t.h1.left,.bool t.h2.on,.int .i64 t.h2.left]) t):
  SegW w a t.info∧t.info.length≤maxLen∧SegW w a' t.data∧t.data.length≤maxLen∧SegI w r t.rev∧t.rev.length≤maxLen:=by
 obtain⟨b0,b1,b2,b3,b4,b5,e,f1,C,B,A,D,E⟩:=h;simp only[Value.agg.injEq]at e
 injection e with e
 simp only[List.cons.injEq,Value.slice.injEq,true_and,and_true]at e;obtain⟨⟨rfl,rfl⟩,⟨rfl,rfl⟩,rfl,rfl⟩:=e;exact⟨f1,A,C,D,B,E⟩
theorem z0p(rh ru:Int)(v:Value)(t:Tx)(w:World)(hT:IsTx w v t)(r1:t.info.length*24≤140737488355328)(r2:t.data.length*24≤140737488355328)(he:¬sealE rh ru t=0):
  Calls prog 125 #[.agg #[.int .i64 rh,.int .i64 ru],v] w fun e w'=>∃a c,e=.returned (.tuple #[.agg #[.int .i64 (zcm rh ru t),.int .i64 (zch rh ru t)],.slice a (commitS rh ru t).length c,.int .i64 (sealE rh ru t)])∧SegSt w' a (commitS rh ru t)∧Below w.heap.size w w':=by
 have L:=zaa hT;obtain⟨a0,a1,a2,a3,a4,a5,rfl,_,_,_,n1,n2,n3⟩:=hT;have K:zcm rh ru t=rh∧zch rh ru t=ru∧sealP rh ru t=[]∧commitS rh ru t=[]:=by simp[zcm,zch,sealP,commitS,he]
 have B:=zaa K;have A2:(sealE rh ru t !=0)=true:=by simpa using he
 go_enter func125,ntmps125;go_wp2_with fail;refine(zu1 rh ru _ t _ (L.o.below (zae (zae (zab _ _) (zab _ _)) (zab _ _))) r1 r2).mono ?_;rintro e I ⟨a,c,rfl,_,A⟩;obtain⟨D,M,J,F⟩:=zj9 A;have A0:w.heap.size<I.heap.size:=by omega
 have C:w.heap.size+1+1<I.heap.size+1:=by omega
 have E:=zaa (zae (zae (zae (zab _ _) (zab _ _)) (zab _ _)) A);obtain⟨⟨r0,A1⟩,_⟩:=zgo D;obtain⟨⟨O,N⟩,f0,f1⟩:=zgo J;clear D M J A K;go_wp2;refine bodyPost_ret (v:=.tuple #[.agg #[.int .i64 rh,.int .i64 ru],.slice none 0 0,.int .i64 (sealE rh ru t)]) (by simp[results,results125,go_sem,F,C,O,N]) rfl ⟨none,0,by rw[B.o.1,B.o.2.1,B.o.2.2.2];rfl,.inl B.o.2.2.2,?_⟩;refine Below.alloc (Below.alloc ?_ ?_ _) ?_ _
 ·refine Below.setCell (Below.setCell E.o ?_ _) ?_ _
  ·simp;omega
  ·simp;omega
 ·simp;omega
 ·simp;omega
theorem Fr.weak{Bs Bp base:Nat}{w w':World}(h:Fr Bs Bs base w w'):Fr Bs Bp base w w':=
 ⟨h.os,h.tape,h.output,h.size,fun k hk _ n2=>h.low k hk n2 n2,fun k o ho hn n1 _=>h.box k o ho hn n1 n1⟩
theorem PlacesAt.fr{w w':World}{base Bs Bp:Nat}{l:List Int}(h:PlacesAt w base Bp l)(hf:Fr Bs Bs base w w')(h1:Bp≠Bs)(h2:base≤Bs):PlacesAt w' base Bp l:=by
 obtain⟨a,c,D,B,A,r⟩:=h;refine⟨a,c,hf.boxed D (by decide) h1 h1,?_,A,r⟩;rcases B with e|⟨b,off,rfl,hlt,hc⟩
 ·exact .inl e
 ·have C:=(A b off rfl).1;exact .inr ⟨b,off,rfl,Nat.lt_of_lt_of_le hlt hf.size,fun i hi=>(World.cell?_of_block (w:=w) (a:=⟨b,off+i,none⟩) (hf.low b C (by omega) (by omega))).trans (hc i hi)⟩
theorem z0q{w w':World}{b Bs Bp base:Nat}{e:TypeId}{size n:Nat}{v:Value}{xs:List Value}(h:w.ownsRow b e size v n xs)(hf:Fr Bs Bp base w w')(he:e≠124)(h1:Bs<b)(h2:Bp<b):w'.ownsRow b e size v n xs:=by
 refine⟨h.1,?_⟩;rcases h.2 with h0|⟨g,cap,cur,hv,hg,hh,r⟩
 ·exact .inl h0
 ·exact .inr ⟨g,cap,cur,hv,hg,hf.box g _ hh (fun cs fr e'=>by simp only[Obj.cells.injEq]at e';exact he e'.2.1) (by omega) (by omega),r⟩
theorem SegW.low{w W0 w':World}{a:Option Addr}{l:List (Int×ByteArray)}{Bs Bp base:Nat}(h:SegW w a l)(hb:Below w.heap.size w W0)(hf:Fr Bs Bp base W0 w')(h1:w.heap.size≤base)(h2:w.heap.size≤Bp)(h3:w.heap.size≤Bs):SegW w' a l:=by
 rcases h with h|⟨b,off,rfl,hlt,hc⟩
 ·exact .inl h
 ·have A:=(hf.low b (by omega) (by omega) (by omega)).trans (hb.block b hlt);exact .inr ⟨b,off,rfl,Nat.lt_of_lt_of_le (Nat.lt_of_lt_of_le hlt hb.size) hf.size,fun i hi=>⟨(World.cell?_of_block (w:=w) (a:=⟨b,off+i*2,none⟩) A).trans (hc i hi).1,(World.cell?_of_block (w:=w) (a:=⟨b,off+i*2+1,none⟩) A).trans (hc i hi).2⟩⟩
theorem z0r{w:World}{b off:Nat}{l:List (Int×ByteArray)}(h:SegW w (some ⟨b,off,none⟩) l)(k:Nat):SegW w (some ⟨b,off+10*k*2,none⟩) (partOf l k):=by
 rcases h with e|⟨b',off',e,hlt,hc⟩
 ·left;rw[e,partOf];simp
 ·cases e;refine .inr ⟨b,off+10*k*2,rfl,hlt,fun i hi=>?_⟩;have A:i<10∧10*k+i<l.length:=by rw[partOf,List.length_take,List.length_drop]at hi;omega
  have B:(partOf l k).getD i (0,ByteArray.empty)=l.getD (10*k+i) (0,ByteArray.empty):=by
   rw[List.getD,List.getD,partOf,List.getElem?_take,if_pos A.1,List.getElem?_drop]
  have:=hc (10*k+i) A.2;rw[B,show off+10*k*2+i*2=off+(10*k+i)*2 from by omega];exact this
theorem zxw(q:Int)(l:List (Int×ByteArray)){j k:Nat}(h:j≤k):(zh6 q l j).length≤(zh6 q l k).length:=by
 induction h with
 |refl=>exact Nat.le_refl _
 |step h ih=>rw[zft,List.length_append];omega
theorem z0s(l:List ByteArray){j:Nat}(h:j<l.length):l.take (j+1)=l.take j++[l.getD j ByteArray.empty]:=by
 rw[List.take_add_one,zcf l j ByteArray.empty h];rfl
theorem zxx{l:List (Int×ByteArray)}{k:Nat}{x:Int×ByteArray}(h:x∈partOf l k):x∈l:=List.mem_of_mem_drop (List.mem_of_mem_take h)
theorem z0t(rh ru:Int)(t:Tx)(a0 a2 a4:Option Addr)(a1 a3 a5:Nat)(w:World)(hT:IsTx w (.agg #[.int .i64 t.seq,.slice a0 t.info.length a1,.slice a2 t.data.length a3,.slice a4 t.rev.length a5,.bool t.h0.on,.int .i64 t.h0.left,.bool t.h1.on,.int .i64 t.h1.left,.bool t.h2.on,.int .i64 t.h2.left]) t)(hci:t.info.length≤a1)(hcr:t.rev.length≤a5)(he:sealE rh ru t=0):
  Calls prog 125 #[.agg #[.int .i64 rh,.int .i64 ru],.agg #[.int .i64 t.seq,.slice a0 t.info.length a1,.slice a2 t.data.length a3,.slice a4 t.rev.length a5,.bool t.h0.on,.int .i64 t.h0.left,.bool t.h1.on,.int .i64 t.h1.left,.bool t.h2.on,.int .i64 t.h2.left]] w fun e w'=>∃a c,e=.returned (.tuple #[.agg #[.int .i64 (zcm rh ru t),.int .i64 (zch rh ru t)],.slice a (commitS rh ru t).length c,.int .i64 (sealE rh ru t)])∧(commitS rh ru t).length≤c∧(∀b off,a=some ⟨b,off,none⟩→w.heap.size≤b)∧SegSt w' a (commitS rh ru t)∧Below w.heap.size w w':=by
 have HT:=zaa hT;obtain⟨hM,n1,hD,n2,hR,n3⟩:=IsTx.segs hT;obtain⟨hg,_,L0,K4⟩:=zl0 he;have Q:=zaa L0;have u:=zaa K4;have HG:=zaa hg;have J5:=za3 hg;have E1:=(za7 t).1 hg;have L2:∀x∈t.data,0≤x.1∧x.1≤11:=fun x hx=>((za6 _).1 E1.2.2.1.2.1).1 x.1 (List.mem_map.2 ⟨x,hx,rfl⟩);have O9:=zaa L2;have O6:=zaa hci;have N8:=zaa hcr;have HM:=zaa hM;have HD:=zaa hD;have HR:=zaa hR;have HC:Hid (commitS rh ru t=(homeS t.data++putS (sealP rh ru t) (logB t)++(if 0<t.rev.length+t.info.length then[zb1] else[]))++[zbm (1+(sealP rh ru t).getD (logB t).length 0) (zk0 t)]++[zb1]):=by rw[Hid,commitS,if_pos he]
 have L3:(homeS t.data).length≤13:=by
  rw[homeS,List.length_append,zck];split<;>simp<;>omega
 have E0:=zaa L3
 have B6:(logB t).length≤20:=by
  have:=zez t J5.1 J5.2.2;have h2:needN (t.info.length:Int) (t.rev.length:Int)≤20:=by unfold needN;split<;>(try split)<;>(try split)<;>(try split)<;>omega
  omega
 have A2:=zaa B6;clear L0 K4 E1 L2 hci hcr hM hD hR n1 n2 n3 hT L3 hg B6;refine(callsIn_wide (n:=9)).1 ?_;refine callsIn_of_wp_marks func125 rfl trivial ?_ rfl;simp only[ntmps125,List.size_toArray,List.length_cons,List.length_nil,Nat.reduceAdd,Nat.reduceSub,Array.replicate_succ,Array.replicate_zero,List.push_toArray,List.append_toArray,List.nil_append,List.cons_append]
 gi_wp2_with fail
 refine⟨trivial,(callsIn_wide.2 (zu1 rh ru _ t _ (HT.o.below (zae (zae (zab _ _) (zab _ _)) (zab _ _))) (by omega) (by omega))).mono ?_⟩;rintro e C ⟨pa,pc,rfl,hP,B8⟩;rw[he];obtain⟨K1,K2,K3,N9⟩:=zj9 B8;have KT:=zaa K2;have KZ:=zaa K3;have L1:=zaa (zae (zae (zae (zab _ _) (zab _ _)) (zab _ _)) B8);have HP:=zaa hP;have Q6:w.heap.size<C.heap.size:=by omega
 have I9:w.heap.size+1<C.heap.size:=by omega
 obtain⟨⟨x0,x1,x2,x3,x4,x5,x6,x7,x8,x9⟩,_⟩:=zaj K2;have K0:=zaa he;clear K1 K2 K3 hP he;generalize sealP rh ru t=PS at *;generalize hsH:zcm rh ru t=sH at *;generalize hsU:zch rh ru t=sU at *;have L4:=zaa hsH;have K5:=zaa hsU;clear hsH hsU
 gi_wp2_with fail
 refine⟨trivial,(callsIn_wide.2 (zuy a2 a3 t.data _ ((HD.o.below L1.o).below (zae (zab _ _) (zab _ _))) (by omega) O9.o)).mono ?_⟩;rintro e E ⟨v2,rfl,H8,B9⟩;have KB:=zaa (zhm B9);have KP:=zaa (zh4 B9);have B1:Below C.heap.size C E:=zae (zae (zab _ _) (zab _ _)) B9
 replace KT:=zaa (zad B1 I9 KT.o)
 replace KZ:=zaa (zad B1 N9 KZ.o)
 have HS:=zaa (HP.o.1.below B1);have HO:Hid (E.ownsRow (C.heap.size+1+1) 124 3 v2 (homeS t.data).length (cellsSt (homeS t.data))):=zaa (by simpa using H8);have O2:=zaa (zae L1.o B1);have M2:C.heap.size+1<E.heap.size:=by have:=B9.size;simp at this;omega
 obtain⟨ha,hc,rfl,_,_⟩:=SegSt.of_owns H8;clear B9 B1 H8 x0 x1 x2 x3 x4 x5 x6 x7 x8 x9;have I8:w.heap.size+1<E.heap.size:=by omega
 have Q2:w.heap.size+1<E.heap.size+1:=by omega
 have Q0:w.heap.size+1<E.heap.size+1+1:=by omega
 obtain⟨⟨x0,x1,x2,x3,x4,x5,x6,x7,x8,x9⟩,_⟩:=zaj KT.o
 gi_wp2_with fail
 obtain⟨L,C1⟩:∃L,L=((E.alloc (Obj.cells #[.slice ha (homeS t.data).length hc] 91)).alloc (Obj.cells #[.func (.func 165) #[] #[.pointer (some ⟨E.heap.size,0,none⟩),.pointer (some ⟨C.heap.size+1,0,none⟩)]] 229)).alloc (Obj.cells #[.func (.func 166) #[] #[.pointer (some ⟨w.heap.size+1,0,none⟩),.pointer (some ⟨E.heap.size+1,0,none⟩)]] 230):=⟨_,rfl⟩;have Z:Below E.heap.size E L:=by rw[C1];exact zae (zae (zab _ _) (zab _ _)) (zab _ _)
 have C6:L.heap.size=E.heap.size+1+1+1:=by rw[C1];simp
 have A4:L.heap[E.heap.size]?=some (Obj.cells #[.slice ha (homeS t.data).length hc] 91)∧L.heap[E.heap.size+1]?=some (Obj.cells #[.func (.func 165) #[] #[.pointer (some ⟨E.heap.size,0,none⟩),.pointer (some ⟨C.heap.size+1,0,none⟩)]] 229)∧L.heap[E.heap.size+1+1]?=some (Obj.cells #[.func (.func 166) #[] #[.pointer (some ⟨w.heap.size+1,0,none⟩),.pointer (some ⟨E.heap.size+1,0,none⟩)]] 230)∧E.heap.size+1+1<L.heap.size:=by rw[C1];exact zj9 (Below.refl _ _)
 rw[←C1];clear C1 x0 x1 x2 x3 x4 x5 x6 x7 x8 x9;have bS:Hid (Boxed L (E.heap.size) 91 (.slice ha (homeS t.data).length hc)):=A4.1;have bE:Hid (Boxed L (E.heap.size+1) 229 (.func (.func 165) #[] #[.pointer (some ⟨E.heap.size,0,none⟩),.pointer (some ⟨C.heap.size+1,0,none⟩)])):=A4.2.1;have bM:Hid (Boxed L (E.heap.size+1+1) 230 (.func (.func 166) #[] #[.pointer (some ⟨w.heap.size+1,0,none⟩),.pointer (some ⟨E.heap.size+1,0,none⟩)])):=A4.2.2.1
 have L9:StepsAt L (C.heap.size+1+1) (E.heap.size) (homeS t.data++putS PS []):=by
  rw[show putS PS []=[] from by simp[putS],List.append_nil];exact⟨_,bS.o,zah HO.o Z⟩
 have L6:PlacesAt L (C.heap.size+1+1) (C.heap.size+1) (PS.drop ([]:List ByteArray).length):=by
  refine⟨pa,pc,zad Z M2 KP.o,HS.o.below Z,?_,HP.o.2.2,?_⟩
  ·intro b off e;rcases HP.o.1 with e0|⟨b',off',e',A5,_⟩
   ·have:=Q.o;rw[e0]at this;simp at this
   ·rw[e]at e';cases e';omega
  ·intro e;rcases HP.o.1 with e0|⟨b',off',e',A5,_⟩
   ·exact e0
   ·rw[e]at e';cases e'
 have G1:Hid (LogAt L (C.heap.size+1+1) (E.heap.size) (C.heap.size+1) (homeS t.data) PS []):=⟨L9,L6,Nat.zero_le _⟩
 replace KT:=zaa (zad Z I8 KT.o)
 replace KZ:=zaa (zad Z (by omega) KZ.o)
 replace KB:=zaa (zad Z (by omega) KB.o)
 have A8:=zaa (zae O2.o Z);have I1:C.heap.size+1+1≤L.heap.size:=by omega
 have X:=zaa C6;clear Z A4 L9 L6 HO HS HP KP bS C6;refine⟨trivial,(z0n Fence.wide 8 trivial rfl a4 t.rev.length a5 L).mono ?_⟩;rintro e W1 ⟨rfl,C9⟩;have F3:Below L.heap.size L W1:=by rw[C9];exact zae (zab _ _) (zab _ _)
 have K6:W1.heap.size=L.heap.size+1+1:=by rw[C9];simp
 have cS:Boxed W1 L.heap.size 35 (.slice a4 t.rev.length a5):=by rw[C9];exact zhm (Below.refl _ _)
 have cN:Boxed W1 (L.heap.size+1) 3 (.int .i64 20):=by rw[C9];exact zh4 (Below.refl _ _)
 have K7:=zaa K6;clear C9 K6;have F4:0<t.rev.length→t.rev.length≤a5:=fun _=>N8.o
 have D7:0<t.rev.length→∃b off,a4=some ⟨b,off,none⟩:=fun hp=>by
  rcases HR.o with e|⟨b,off,e,_⟩
  ·rw[e]at hp;simp at hp
  ·exact⟨b,off,e⟩
 have J4:=zaa D7;have N3:=zaa F4;clear D7 F4
 gi_wp2_with fail
 refine zi7 (F:=Fence.wide) (n:=9) rfl (by decide) (gf:=200) (lb:=#[.pointer (some ⟨L.heap.size,0,none⟩),.pointer (some ⟨L.heap.size+1,0,none⟩)]) rfl trivial (enters_of func200 (by kernel_rfl) rfl)
  (zpn Fence.wide 8 trivial rfl (by decide) L.heap.size (L.heap.size+1) t.rev.length a5 a4 (by omega) N3.o J4.o W1 cS cN) (Below.refl _ _) KeepsB.trans KeepsB.put (fun _=>rfl)
  (fun k W=>LogAt W (C.heap.size+1+1) (E.heap.size) (C.heap.size+1) (homeS t.data) PS (if k=0 then[] else zwo t)∧Fr (E.heap.size) (C.heap.size+1) (C.heap.size+1+1) L W∧Boxed W L.heap.size 35 (.slice a4 t.rev.length a5)∧Boxed W (L.heap.size+1) 3 (.int .i64 20))
  ?own ?drew ?start ?a1 ?assign ?body ?done
 case own=>
  intro k A B row I q hr;have B7:∀r,row=some r→∃o:Obj,A.heap[r]?=some o∧o.isCells=false:=fun r e=>(hr r e).2;refine⟨I.1.kept q B7,I.2.1.kept q (fun r e=>by have:=(hr r e).1;have:=K7.o;omega) I1,I.2.2.1.kept q ?_,I.2.2.2.kept q ?_⟩
  ·intro e;obtain⟨o,ho,hc⟩:=B7 _ e.symm;rw[show A.heap[L.heap.size]?=_ from I.2.2.1]at ho;cases ho;cases hc
  ·intro e;obtain⟨o,ho,hc⟩:=B7 _ e.symm;rw[show A.heap[L.heap.size+1]?=_ from I.2.2.2]at ho;cases ho;cases hc
 case drew=>
  intro k V I;exact⟨I.1.below (Below.refl _ _).drew,I.2.1.trans (Fr.of_below (Below.refl _ _).drew (by have:=I.2.1.size;omega)),I.2.2.1,I.2.2.2⟩
 case start=>
  refine⟨?_,Fr.of_below F3 I1,cS,cN⟩;rw[if_pos rfl];exact G1.o.below F3
 case assign=>
  intro l k W K hK
  gi_wp2
  exact hK
 case body=>
  intro l k W hk I;obtain⟨z,U,c1,c2⟩:=I;have P5:k=0∧0<t.rev.length:=by unfold zc3 at hk;omega
  obtain⟨rfl,hp⟩:=P5;obtain⟨b,off,rfl⟩:=J4.o hp;have R2:zfi t.rev.length 20 0=t.rev.length:=by unfold zfi;split<;>omega
  have R7:=(U.boxed bM.o (by decide) (by omega) (by omega)).cell;rw[if_pos rfl]at z;have C1:=U.size;have G8:([]:List ByteArray).length<PS.length:=by have:=Q.o;simp;omega
  have M7:SegI W (some ⟨b,off,none⟩) t.rev:=by
   have A5:=HR.o;rcases A5 with e|⟨b',off',e,hl,hc⟩
   ·exact .inl e
   ·cases e;refine .inr ⟨b,off,rfl,Nat.lt_of_lt_of_le (Nat.lt_of_lt_of_le hl A8.o.size) U.size,fun i hi=>?_⟩;have R4:b<w.heap.size:=hl;exact(World.cell?_of_block (w:=L) (a:=⟨b,off+i,none⟩) (U.low b (by omega) (by omega) (by omega))).trans (zac A8.o hl (hc i hi))
  have B6:=A2.o;have M:=U.box _ _ KT.o (fun cs fr e=>by simp only[Obj.cells.injEq]at e;exact absurd e.2.1 (by decide)) (by omega) (by omega);have S:=(zaj M).1.1;have O:=(U.boxed bE.o (by decide) (by omega) (by omega)).cell
  have N:PlacesAt W (C.heap.size+1+1) (C.heap.size+1) (PS.getD ([]:List ByteArray).length 0::PS.drop (([]:List ByteArray).length+1)):=by
   have:=z.2.1;rw[zja G8]at this;exact this
  have h:(homeS t.data++putS PS ([])).length≤900:=by
   rw[List.length_append,zd4 (Nat.le_of_lt G8)];have:=E0.o;have:=Q.o;omega
  gi_wp2_with fail
  refine⟨trivial,(CallsIn.inRound l (callsIn_wide.2 (zjn (E.heap.size) (C.heap.size+1) (C.heap.size+1+1) (w.heap.size+1) (E.heap.size+1) (homeS t.data++putS PS ([])) (PS.getD ([]:List ByteArray).length 0) (PS.drop (([]:List ByteArray).length+1)) ⟨3,0,0,[],t.rev⟩ _ t.seq W ⟨none,0,some ⟨b,off,none⟩,_,rfl,.inl rfl,M7,Nat.zero_le _,by show t.rev.length≤maxLen;unfold maxLen;omega⟩ S (by have:=U.size;have:=X.o;omega) O (by have:=U.size;have:=X.o;omega) z.1 N h (by have:=Q.o;have:=B6;simp;omega) (u.o _).1 (u.o _).2 (by have:=U.size;omega) (by omega) (by omega)))).mono ?_⟩;rintro e W' ⟨⟨v,rfl⟩,R,k2,J⟩;clear M S O N h
  gi_wp2
  have hz:=X.o;refine⟨J.others z.1.boxed z.2.1.boxed,KeepsB.of_fr J c1 c2 (by decide) (by decide) (by omega) (by omega) (by omega) (by omega),?_,U.trans J,J.boxed c1 (by decide) (by omega) (by omega),J.boxed c2 (by decide) (by omega) (by omega)⟩;rw[zwo,if_neg (by omega)];exact LogAt.next (d:=[]) G8 R k2
 case done=>
  intro D W hD I hK;obtain⟨z,U,_,_⟩:=I
  have D1:LogAt W (C.heap.size+1+1) (E.heap.size) (C.heap.size+1) (homeS t.data) PS (zwo t):=by
   by_cases h0:t.rev.length=0
   ·have e1:zc3 t.rev.length 20=0:=by rw[h0];rfl
    have e2:zwo t=[]:=by rw[zwo,if_pos h0]
    rw[e1,if_pos rfl]at z;rw[e2];exact z
   ·have e1:zc3 t.rev.length 20≠0:=by unfold zc3;omega
    rw[if_neg e1]at z;exact z
  have O1:=zaa D1;have O8:=zaa U;have N1:=zaa hK;have M9:D<W.heap.size:=(Array.getElem?_eq_some_iff.1 hK).1;have Q5:=U.size;have R3:L.heap.size<D:=by have:=K7.o;omega
  have M:=U.box _ _ KT.o (fun cs fr e=>by simp only[Obj.cells.injEq]at e;exact absurd e.2.1 (by decide)) (by omega) (by omega);obtain⟨⟨x0,x1,x2,x3,x4,x5,x6,x7,x8,x9⟩,_⟩:=zaj M;clear z D1 U hK M cS cN F3 G1
  gi_wp2_with fail
  refine⟨trivial,(z0o Fence.wide 8 trivial rfl a0 t.info.length a1 W).mono ?_⟩;rintro e W2 ⟨rfl,C5⟩;have F0:Below W.heap.size W W2:=by rw[C5];exact zae (zab _ _) (zab _ _)
  have G6:W2.heap.size=W.heap.size+1+1:=by rw[C5];simp
  have dS:Boxed W2 W.heap.size 34 (.slice a0 t.info.length a1):=by rw[C5];exact zhm (Below.refl _ _)
  have dN:Boxed W2 (W.heap.size+1) 3 (.int .i64 10):=by rw[C5];exact zh4 (Below.refl _ _)
  have J3:=zaa G6;clear C5 G6 x0 x1 x2 x3 x4 x5 x6 x7 x8 x9
  have D9:0<t.info.length→∃b off,a0=some ⟨b,off,none⟩:=fun hp=>by
   rcases HM.o with e|⟨b,off,e,_⟩
   ·rw[e]at hp;simp at hp
   ·exact⟨b,off,e⟩
  have K9:=zaa D9;clear D9
  gi_wp2_with fail
  refine zi7 (F:=Fence.wide) (n:=9) rfl (by decide) (gf:=201) (lb:=#[.pointer (some ⟨W.heap.size,0,none⟩),.pointer (some ⟨W.heap.size+1,0,none⟩)]) rfl trivial (enters_of func201 (by kernel_rfl) rfl)
   (zpo Fence.wide 8 trivial rfl (by decide) W.heap.size (W.heap.size+1) t.info.length a1 a0 (by omega) (fun _=>O6.o) K9.o W2 dS dN) (Below.refl _ _) KeepsB.trans KeepsB.put (fun _=>rfl)
   (fun k V=>LogAt V (C.heap.size+1+1) (E.heap.size) (C.heap.size+1) (homeS t.data) PS (zwo t++zh6 t.seq t.info k)∧Fr (E.heap.size) (C.heap.size+1) (C.heap.size+1+1) L V∧Boxed V W.heap.size 34 (.slice a0 t.info.length a1)∧Boxed V (W.heap.size+1) 3 (.int .i64 10)∧V.heap[D]?=some (.deferred (some [])))
   ?own2 ?drew2 ?start2 ?a2 ?assign2 ?body2 ?done2
  case own2=>
   intro k A B row I q hr;have B7:∀r,row=some r→∃o:Obj,A.heap[r]?=some o∧o.isCells=false:=fun r e=>(hr r e).2;have G6:=J3.o;refine⟨I.1.kept q B7,I.2.1.kept q (fun r e=>by have:=(hr r e).1;omega) I1,I.2.2.1.kept q ?_,I.2.2.2.1.kept q ?_,(q.block D (Array.getElem?_eq_some_iff.1 I.2.2.2.2).1 (fun e=>by have:=(hr D e.symm).1;omega)).trans I.2.2.2.2⟩
   ·intro e;obtain⟨o,ho,hc⟩:=B7 _ e.symm;rw[show A.heap[W.heap.size]?=_ from I.2.2.1]at ho;cases ho;cases hc
   ·intro e;obtain⟨o,ho,hc⟩:=B7 _ e.symm;rw[show A.heap[W.heap.size+1]?=_ from I.2.2.2.1]at ho;cases ho;cases hc
  case drew2=>
   intro k V I;exact⟨I.1.below (Below.refl _ _).drew,I.2.1.trans (Fr.of_below (Below.refl _ _).drew (by have:=I.2.1.size;omega)),I.2.2.1,I.2.2.2.1,I.2.2.2.2⟩
  case start2=>
   refine⟨?_,O8.o.trans (Fr.of_below F0 (by omega)),dS,dN,zad F0 M9 N1.o⟩;rw[show zh6 t.seq t.info 0=[] from rfl,List.append_nil];exact O1.o.below F0
  case assign2=>
   intro l k V K hK
   gi_wp2
   exact hK
  case body2=>
   intro l k V hk I;obtain⟨z,U,c1,c2,C8⟩:=I;have hp:0<t.info.length:=by unfold zc3 at hk;omega
   obtain⟨b,off,rfl⟩:=K9.o hp;have R6:=U.size;have H1:SegW V (some ⟨b,off+10*k*2,none⟩) (partOf t.info k):=z0r (HM.o.low A8.o U (by omega) (by omega) (by omega)) k;have F6:=zge t.info k
   have G3:∀x∈partOf t.info k,x.2.size≤maxLen:=by
    intro x hx;have E1:=((za7 t).1 HG.o).2.1.1;unfold zb7 at E1;have:=List.all_eq_true.1 E1 x (zxx hx);simp[zbc]at this;unfold maxLen;omega
   have Q1:(partOf t.info k).length≤10:=by rw[partOf,List.length_take];omega
   have J0:=zxw t.seq t.info (show k+1≤zc3 t.info.length 10 by omega);have L8:(zwo t).length+(zh6 t.seq t.info (k+1)).length≤(logB t).length:=by rw[logB,List.length_append];omega
   have C3:=zft t.seq t.info k;obtain⟨y,C2⟩:∃y,y=zwo t++zh6 t.seq t.info k:=⟨_,rfl⟩;have I6:y.length+(zqx t.seq t.info k).length≤(logB t).length:=by rw[C2,List.length_append];rw[C3,List.length_append]at L8;omega
   have M5:Hid (zwo t++zh6 t.seq t.info (k+1)=y++[encT ⟨2,t.seq,0,tagsOf (partOf t.info k),[]⟩]++textsOf (partOf t.info k)):=by
    rw[Hid,C3,←List.append_assoc,←C2,zqx];simp
   rw[←C2]at z
   have C4:Hid (y.length+(1+(textsOf (partOf t.info k)).length)≤(logB t).length):=by
    have O3:(zqx t.seq t.info k).length=1+(textsOf (partOf t.info k)).length:=by rw[zqx,List.length_cons];omega
    rw[Hid,←O3];exact I6
   clear I6;have H6:=zaa H1;have P9:=zaa G3;have G2:=zaa z;have N2:=zaa U;clear H1 G3 J0 L8 C3 C2 z U;rw[←F6];clear F6;generalize partOf t.info k=part at *
   gi_wp2_with fail
   refine⟨trivial,(CallsIn.inRound l (callsIn_wide.2 (zm0 (some ⟨b,off+10*k*2,none⟩) part.length part V H6.o (by omega) P9.o))).mono ?_⟩;rintro e V1 ⟨v1,v2,rfl,hG,F9,B8⟩;have F8:=G2.o.below B8;have A6:=N2.o.trans (Fr.of_below B8 (by omega));have I7:Fr (E.heap.size) (C.heap.size+1) (C.heap.size+1+1) V V1:=Fr.of_below B8 (by omega);obtain⟨ga,gc,rfl,J9,_⟩:=SegG.of_owns hG;obtain⟨ta,tc,P2,P0,_⟩:=SegX.of_owns F9;subst P2;have N7:Hid ((textsOf part).length=part.length):=by rw[Hid,textsOf,List.length_map]
   have K8:Hid ((tagsOf part).length=part.length):=by rw[Hid,tagsOf,List.length_map]
   have s:y.length<PS.length:=by have:=Q.o;have:=C4.o;omega
   have G9:=zaa s;have B6:=A2.o;have M:=A6.box _ _ KT.o (fun cs fr e=>by simp only[Obj.cells.injEq]at e;exact absurd e.2.1 (by decide)) (by omega) (by omega);have S:=(zaj M).1.1;have O:=(A6.boxed bE.o (by decide) (by omega) (by omega)).cell
   have N:PlacesAt V1 (C.heap.size+1+1) (C.heap.size+1) (PS.getD (y).length 0::PS.drop ((y).length+1)):=by
    have:=F8.2.1;rw[zja s]at this;exact this
   have h:(homeS t.data++putS PS (y)).length≤900:=by
    rw[List.length_append,zd4 (Nat.le_of_lt s)];have:=E0.o;have:=Q.o;omega
   have D6:=(A6.boxed bM.o (by decide) (by omega) (by omega)).cell
   gi_wp2_with fail
   refine⟨trivial,(CallsIn.inRound l (callsIn_wide.2 (zjn (E.heap.size) (C.heap.size+1) (C.heap.size+1+1) (w.heap.size+1) (E.heap.size+1) (homeS t.data++putS PS (y)) (PS.getD (y).length 0) (PS.drop ((y).length+1)) ⟨2,0,0,tagsOf part,[]⟩ _ t.seq V1 ⟨ga,gc,none,0,rfl,J9,.inl rfl,by show(tagsOf part).length≤maxLen;rw[K8.o];unfold maxLen;omega,Nat.zero_le _⟩ S (by have:=A6.size;have:=X.o;omega) O (by have:=A6.size;have:=X.o;omega) F8.1 N h (by have:=Q.o;have:=B6;simp;omega) (u.o _).1 (u.o _).2 (by have:=A6.size;omega) (by omega) (by omega)))).mono ?_⟩;rintro e V2 ⟨⟨v,rfl⟩,R,k2,J⟩;have D1:LogAt V2 (C.heap.size+1+1) (E.heap.size) (C.heap.size+1) (homeS t.data) PS (y++[encT ⟨2,t.seq,0,tagsOf part,[]⟩]):=LogAt.next s R k2;have J7:=A6.trans J;have G5:z33 V2 V.heap.size (.slice ta (textsOf part).length tc) (textsOf part):=z0q F9 J (by decide) (by have:=X.o;omega) (by omega);have P1:=zaa D1;have F7:=zaa J7;have M1:=zaa (I7.trans J);have P4:=zaa G5;have Q4:=B8.size;clear M S O N h D6 R k2 D1 J7 F8 A6 I7 F9 G5 hG J9 P0 K8
   have N5:Hid ((y++[encT ⟨2,t.seq,0,tagsOf part,[]⟩]).length+(textsOf part).length<PS.length):=by
    rw[Hid,List.length_append];have:=C4.o;have:=Q.o;simp;omega
   have Q8:(textsOf part).length≤20:=by have:=C4.o;have:=A2.o;omega
   clear s G9 C4 N7;generalize y++[encT ⟨2,t.seq,0,tagsOf part,[]⟩]=d2 at *;generalize textsOf part=TX at *
   gi_wp2
   gi_loopw [60] (fun i wr=>∃j:Nat,j≤TX.length∧i=.int .i64 j∧Hid (LogAt wr (C.heap.size+1+1) (E.heap.size) (C.heap.size+1) (homeS t.data) PS (d2++TX.take j))∧Hid (Fr (E.heap.size) (C.heap.size+1) (C.heap.size+1+1) V2 wr)) (fun i _=>TX.length - (intOf i).toNat)
   case atStart=>exact⟨0,Nat.zero_le _,rfl,by rw[List.take_zero,List.append_nil];exact P1,(Fr.of_below (Below.refl _ _) (by have:=F7.o.size;omega))⟩
   case round=>
    obtain⟨j,hj,rfl,D3,B3⟩:=hrel;have Q9:=F7.o.size;by_cases A5:j<TX.length
    ·have M6:(j:Int)<(TX.length:Int):=by omega
     have L5:z33 wr V.heap.size (.slice ta TX.length tc) TX:=z0q P4.o B3.o (by decide) (by have:=X.o;omega) (by omega);obtain⟨N4,O7,ee,hS,_⟩:=SegX.of_owns L5;obtain⟨rfl,rfl⟩:ta=N4∧tc=O7:=by simpa using ee
     obtain⟨b2,Q7,rfl,B9,J6⟩:=hS.resolve_left (by intro e;rw[e]at A5;simp at A5);have J2:=J6 j A5;have O:=((F7.o.trans B3.o).boxed bE.o (by decide) (by omega) (by omega)).cell;have s:(d2++TX.take j).length<PS.length:=by rw[List.length_append,List.length_take];have:=N5.o;omega
     have N:PlacesAt wr (C.heap.size+1+1) (C.heap.size+1) (PS.getD (d2++TX.take j).length 0::PS.drop ((d2++TX.take j).length+1)):=by
      have:=D3.o.2.1;rw[zja s]at this;exact this
     have h:(homeS t.data++putS PS (d2++TX.take j)).length≤900:=by
      rw[List.length_append,zd4 (Nat.le_of_lt s)];have:=E0.o;have:=Q.o;have:=A2.o;omega
     have G9:=zaa s;have H0:=zaa N;have J8:=zaa h;have P3:=zaa (z0s TX A5);clear L5 hS J6 ee s N h;generalize TX.getD j ByteArray.empty=tj at *
     gi_wp2_with fail
     refine⟨trivial,(CallsIn.inRound l (callsIn_wide.2 (zr1 (E.heap.size) (C.heap.size+1) (C.heap.size+1+1) (homeS t.data++putS PS (d2++TX.take j)) (PS.getD (d2++TX.take j).length 0) (PS.drop ((d2++TX.take j).length+1)) tj wr D3.o.1 H0.o J8.o (by have:=Q.o;have:=A2.o;simp;omega) (u.o _).1 (u.o _).2 (by have:=B3.o.size;omega) (by omega) (by omega)))).mono ?_⟩;rintro e V3 ⟨⟨v,rfl⟩,R,k2,C0⟩;have O0:=zaa (LogAt.next G9.o R k2);have N6:=zaa (B3.o.trans C0);clear R k2 C0 H0 J8 D3 B3 O J2
     gi_wp2
     go_roundw
     case rel=>exact⟨j+1,by omega,by go_num,by rw[P3.o,←List.append_assoc];exact O0,N6⟩
     case measure=>simp[intOf];omega
    ·have M6:¬((j:Int)<(TX.length:Int)):=by omega
     have e:j=TX.length:=by omega
     subst e;rw[List.take_length]at D3
     gi_wp2
     have hz:=X.o;have D4:=M1.o.trans B3.o;refine⟨D4.others G2.o.1.boxed G2.o.2.1.boxed,KeepsB.of_fr D4 c1 c2 (by decide) (by decide) (by omega) (by omega) (by omega) (by omega),?_,F7.o.trans B3.o,D4.boxed c1 (by decide) (by omega) (by omega),D4.boxed c2 (by decide) (by omega) (by omega),D4.box D _ C8 (fun cs fr e=>by cases e) (by omega) (by omega)⟩;rw[M5.o];exact D3.o
  case done2=>
   intro m W3 R5 I H2;obtain⟨I5,Y,_,_,C8⟩:=I;have F5:LogAt W3 (C.heap.size+1+1) (E.heap.size) (C.heap.size+1) (homeS t.data) PS (logB t):=I5;have F1:(logB t).length<PS.length:=by have:=Q.o;omega
   have R0:=Y.size;clear I5;have B6:=A2.o;have M:=Y.box _ _ KT.o (fun cs fr e=>by simp only[Obj.cells.injEq]at e;exact absurd e.2.1 (by decide)) (by omega) (by omega);have S:=(zaj M).1.1;have O:=(Y.boxed bE.o (by decide) (by omega) (by omega)).cell
   have N:PlacesAt W3 (C.heap.size+1+1) (C.heap.size+1) (PS.getD (logB t).length 0::PS.drop ((logB t).length+1)):=by
    have:=F5.2.1;rw[zja F1]at this;exact this
   have h:(homeS t.data++putS PS (logB t)).length≤900:=by
    rw[List.length_append,zd4 (Nat.le_of_lt F1)];have:=E0.o;have:=Q.o;omega
   have I0:=M;obtain⟨⟨x0,x1,x2,x3,x4,x5,x6,x7,x8,x9⟩,_⟩:=zaj I0;clear M I0 S O
   have J1:(homeS t.data++putS PS (logB t)).length≤40:=by
    rw[List.length_append,zd4 (Nat.le_of_lt F1)];have:=E0.o;have:=A2.o;omega
   have C6:=X.o;have O4:=zaa C6;clear C6;have R1:E.heap.size+1+1<L.heap.size:=by have:=O4.o;omega
   have Q3:D<m:=by have:=J3.o;omega
   by_cases hz:0<t.rev.length+t.info.length
   ·have N0:(0:Int)<(t.rev.length:Int)+(t.info.length:Int):=by omega
    gi_wp2_with fail
    refine⟨trivial,(callsIn_wide.2 (zpm (E.heap.size) (E.heap.size) (C.heap.size+1+1) (homeS t.data++putS PS (logB t)) W3 F5.1 h (by omega))).mono ?_⟩;rintro e W4 ⟨⟨v4,rfl⟩,R,C0⟩;have J:Fr (E.heap.size) (C.heap.size+1) (C.heap.size+1+1) W3 W4:=C0.weak;have B5:=Y.trans J;have P8:=N.fr C0 (by omega) (by omega);have M0:=J.box D _ C8 (fun cs fr e=>by cases e) (by omega) (by omega);have M4:=J.box m _ H2 (fun cs fr e=>by cases e) (by omega) (by omega);have E9:(homeS t.data++putS PS (logB t)++[zb1]).length≤890:=by rw[List.length_append];show _+1≤890;omega
    clear J C0 F5 Y C8 H2 N h x0 x1 x2 x3 x4 x5 x6 x7 x8 x9;have D6:=(B5.boxed bM.o (by decide) (by omega) (by omega)).cell;have M:=B5.box _ _ KT.o (fun cs fr e=>by simp only[Obj.cells.injEq]at e;exact absurd e.2.1 (by decide)) (by omega) (by omega);have S:=(zaj M).1.1;have O:=(B5.boxed bE.o (by decide) (by omega) (by omega)).cell
    gi_wp2_with fail
    refine⟨trivial,(callsIn_wide.2 (zjn (E.heap.size) (C.heap.size+1) (C.heap.size+1+1) (w.heap.size+1) (E.heap.size+1) (homeS t.data++putS PS (logB t)++[zb1]) (PS.getD (logB t).length 0) (PS.drop ((logB t).length+1)) ⟨4,0,0,[],[]⟩ _ t.seq W4 ⟨none,0,none,0,rfl,.inl rfl,.inl rfl,Nat.zero_le _,Nat.zero_le _⟩ S (by have:=B5.size;have:=X.o;omega) O (by have:=B5.size;have:=X.o;omega) R P8 (by omega) (by have:=Q.o;have:=A2.o;simp;omega) (u.o _).1 (u.o _).2 (by have:=B5.size;omega) (by omega) (by omega))).mono ?_⟩;rintro e W5 ⟨⟨v5,rfl⟩,R,k2,J⟩;have C7:=B5.trans J;have A9:=J.box D _ M0 (fun cs fr e=>by cases e) (by omega) (by omega);have B2:=J.box m _ M4 (fun cs fr e=>by cases e) (by omega) (by omega)
    have B4:(homeS t.data++putS PS (logB t)++[zb1]++[zbm (1+PS.getD (logB t).length 0) (encT ⟨4,t.seq,0,[],[]⟩)]).length≤900:=by
     rw[List.length_append];show _+1≤900;omega
    have I2:=zaa R;have E2:=zaa C7;have E6:=zaa A9;have E3:=zaa B2;have E8:=zaa B4;clear D6 M S O R k2 J C7 A9 B2 B4 E9
    gi_wp2_with fail
    refine⟨trivial,(callsIn_wide.2 (zpm (E.heap.size) (C.heap.size+1) (C.heap.size+1+1) _ W5 I2.o E8.o (by have:=E2.o.size;omega))).mono ?_⟩;rintro e W6 ⟨⟨v6,rfl⟩,R,J⟩;have A1:=zaa (E2.o.trans J);have E5:=zaa (J.box D _ E6.o (fun cs fr e=>by cases e) (by omega) (by omega));have E7:=zaa (J.box m _ E3.o (fun cs fr e=>by cases e) (by omega) (by omega));have A0:commitS rh ru t=homeS t.data++putS PS (logB t)++[zb1]++[zbm (1+PS.getD (logB t).length 0) (encT ⟨4,t.seq,0,[],[]⟩)]++[zb1]:=by rw[HC.o,if_pos hz];rfl
    rw[←A0]at R;have M3:=zaa A0;obtain⟨O5,b6,o6⟩:=R;have H3:=zaa o6;obtain⟨fa,fc,rfl,B0,A3⟩:=SegSt.of_owns o6;have H6:=zaa B0;have P6:=zaa A3;have c6:=b6.cell;have D8:=A1.o.box _ _ KB.o (fun cs fr e=>by simp only[Obj.cells.injEq]at e;exact absurd e.2.1 (by decide)) (by omega) (by omega);have A7:=A1.o.box _ _ KZ.o (fun cs fr e=>by simp only[Obj.cells.injEq]at e;exact absurd e.2.1 (by decide)) (by omega) (by omega);obtain⟨⟨y0,y1⟩,_⟩:=zgo D8;obtain⟨⟨z0,z1⟩,M8,P7⟩:=zgo A7;have G0:=zaa A1.o.size;have G4:=zaa A7;clear J A0 b6 o6 B0 A3 D8 A7
    gi_wp2
    gi_region
    all_goals
     gi_wp2
     have F2:=zjq G4.o (.int .i64 sH) (.int .i64 sU);have q2:((W6.setCell ⟨w.heap.size+1+1,0,none⟩ (.int .i64 sH)).setCell ⟨w.heap.size+1+1,1,none⟩ (.int .i64 sU)).drew.heap[m]?=some (.deferred (some [])):=(Below.heap_setCell _ _ _ _ (by simp;omega)).trans ((Below.heap_setCell _ _ _ _ (by simp;omega)).trans E7.o);have q1:(((W6.setCell ⟨w.heap.size+1+1,0,none⟩ (.int .i64 sH)).setCell ⟨w.heap.size+1+1,1,none⟩ (.int .i64 sU)).drew.putObj m (.deferred none)).heap[D]?=some (.deferred (some [])):=(World.putObj_heap_other (by omega)).trans ((Below.heap_setCell _ _ _ _ (by simp;omega)).trans ((Below.heap_setCell _ _ _ _ (by simp;omega)).trans E5.o));have G7:C.heap.size+1+1≤W6.heap.size:=by have:=G0.o;omega
     have D5:=ownsRow_putObj (ownsRow_putObj (zah (ownsRow_setCell_below (ownsRow_setCell_below H3.o (a:=⟨w.heap.size+1+1,0,none⟩) (by simp;omega) (.int .i64 sH)) (a:=⟨w.heap.size+1+1,1,none⟩) (by simp;omega) (.int .i64 sU)) (Below.refl _ _).drew) (.deferred none) q2 rfl) (.deferred none) q1 rfl;have H7:=((((A8.o.trans (A1.o.below (by omega) (by omega) (by omega))).setCell (p:=⟨w.heap.size+1+1,0,none⟩) (by simp;omega) (.int .i64 sH)).setCell (p:=⟨w.heap.size+1+1,1,none⟩) (by simp;omega) (.int .i64 sU)).drew.trans (belowK_b (w:=w) (Nat.le_refl _) _ m _ (.deferred none) (by omega) q2 rfl rfl)).trans (belowK_b (w:=w) (Nat.le_refl _) _ D _ (.deferred none) (by omega) q1 rfl rfl);have H9:((((W6.setCell ⟨w.heap.size+1+1,0,none⟩ (.int .i64 sH)).setCell ⟨w.heap.size+1+1,1,none⟩ (.int .i64 sU)).drew.putObj m (.deferred none)).putObj D (.deferred none)).heap[w.heap.size+1+1]?=some (.cells #[.int .i64 sH,.int .i64 sU] 26 (0,0)):=(World.putObj_heap_other (by omega)).trans ((World.putObj_heap_other (by omega)).trans F2);obtain⟨⟨u0,u1⟩,_⟩:=zgo H9;refine⟨by simp,.inl ⟨m,_,rfl,run_takeDeferred q2,?_⟩⟩;refine⟨by simp,.inl ⟨D,_,rfl,run_takeDeferred q1,?_⟩⟩;refine⟨.tuple #[.agg #[.int .i64 sH,.int .i64 sU],.slice fa (commitS rh ru t).length fc,.int .i64 0],by simp[results,results125,go_sem,u0,u1],?_⟩;have E4:=zsd D5 rfl;obtain⟨I4,H4,e9,I3,H5⟩:=SegSt.of_owns D5;obtain⟨rfl,rfl⟩:fa=I4∧fc=H4:=by simpa using e9
     exact⟨fa,fc,by rw[L4.o,K5.o,K0.o],E4,fun b off e=>by have:=H5 b off e;have:=A8.o.size;omega,I3,H7⟩
   ·have N0:¬((0:Int)<(t.rev.length:Int)+(t.info.length:Int)):=by omega
    have E9:(homeS t.data++putS PS (logB t)).length≤890:=by have:=J1;omega
    have D6:=(Y.boxed bM.o (by decide) (by omega) (by omega)).cell;have M:=Y.box _ _ KT.o (fun cs fr e=>by simp only[Obj.cells.injEq]at e;exact absurd e.2.1 (by decide)) (by omega) (by omega);have S:=(zaj M).1.1;have O:=(Y.boxed bE.o (by decide) (by omega) (by omega)).cell
    gi_wp2_with fail
    refine⟨trivial,(callsIn_wide.2 (zjn (E.heap.size) (C.heap.size+1) (C.heap.size+1+1) (w.heap.size+1) (E.heap.size+1) (homeS t.data++putS PS (logB t)) (PS.getD (logB t).length 0) (PS.drop ((logB t).length+1)) ⟨4,0,0,[],[]⟩ _ t.seq W3 ⟨none,0,none,0,rfl,.inl rfl,.inl rfl,Nat.zero_le _,Nat.zero_le _⟩ S (by have:=Y.size;have:=X.o;omega) O (by have:=Y.size;have:=X.o;omega) F5.1 N (by omega) (by have:=Q.o;have:=A2.o;simp;omega) (u.o _).1 (u.o _).2 (by have:=Y.size;omega) (by omega) (by omega))).mono ?_⟩;rintro e W5 ⟨⟨v5,rfl⟩,R,k2,J⟩;have C7:=Y.trans J;have A9:=J.box D _ C8 (fun cs fr e=>by cases e) (by omega) (by omega);have B2:=J.box m _ H2 (fun cs fr e=>by cases e) (by omega) (by omega)
    have B4:(homeS t.data++putS PS (logB t)++[zbm (1+PS.getD (logB t).length 0) (encT ⟨4,t.seq,0,[],[]⟩)]).length≤900:=by
     rw[List.length_append];show _+1≤900;omega
    have I2:=zaa R;have E2:=zaa C7;have E6:=zaa A9;have E3:=zaa B2;have E8:=zaa B4;clear D6 M S O R k2 J C7 A9 B2 B4 E9
    gi_wp2_with fail
    refine⟨trivial,(callsIn_wide.2 (zpm (E.heap.size) (C.heap.size+1) (C.heap.size+1+1) _ W5 I2.o E8.o (by have:=E2.o.size;omega))).mono ?_⟩;rintro e W6 ⟨⟨v6,rfl⟩,R,J⟩;have A1:=zaa (E2.o.trans J);have E5:=zaa (J.box D _ E6.o (fun cs fr e=>by cases e) (by omega) (by omega));have E7:=zaa (J.box m _ E3.o (fun cs fr e=>by cases e) (by omega) (by omega));have A0:commitS rh ru t=homeS t.data++putS PS (logB t)++[zbm (1+PS.getD (logB t).length 0) (encT ⟨4,t.seq,0,[],[]⟩)]++[zb1]:=by rw[HC.o,if_neg hz,List.append_nil];rfl
    rw[←A0]at R;have M3:=zaa A0;obtain⟨O5,b6,o6⟩:=R;have H3:=zaa o6;obtain⟨fa,fc,rfl,B0,A3⟩:=SegSt.of_owns o6;have H6:=zaa B0;have P6:=zaa A3;have c6:=b6.cell;have D8:=A1.o.box _ _ KB.o (fun cs fr e=>by simp only[Obj.cells.injEq]at e;exact absurd e.2.1 (by decide)) (by omega) (by omega);have A7:=A1.o.box _ _ KZ.o (fun cs fr e=>by simp only[Obj.cells.injEq]at e;exact absurd e.2.1 (by decide)) (by omega) (by omega);obtain⟨⟨y0,y1⟩,_⟩:=zgo D8;obtain⟨⟨z0,z1⟩,M8,P7⟩:=zgo A7;have G0:=zaa A1.o.size;have G4:=zaa A7;clear J A0 b6 o6 B0 A3 D8 A7
    gi_wp2
    gi_region
    all_goals
     gi_wp2
     have F2:=zjq G4.o (.int .i64 sH) (.int .i64 sU);have q2:((W6.setCell ⟨w.heap.size+1+1,0,none⟩ (.int .i64 sH)).setCell ⟨w.heap.size+1+1,1,none⟩ (.int .i64 sU)).drew.heap[m]?=some (.deferred (some [])):=(Below.heap_setCell _ _ _ _ (by simp;omega)).trans ((Below.heap_setCell _ _ _ _ (by simp;omega)).trans E7.o);have q1:(((W6.setCell ⟨w.heap.size+1+1,0,none⟩ (.int .i64 sH)).setCell ⟨w.heap.size+1+1,1,none⟩ (.int .i64 sU)).drew.putObj m (.deferred none)).heap[D]?=some (.deferred (some [])):=(World.putObj_heap_other (by omega)).trans ((Below.heap_setCell _ _ _ _ (by simp;omega)).trans ((Below.heap_setCell _ _ _ _ (by simp;omega)).trans E5.o));have G7:C.heap.size+1+1≤W6.heap.size:=by have:=G0.o;omega
     have D5:=ownsRow_putObj (ownsRow_putObj (zah (ownsRow_setCell_below (ownsRow_setCell_below H3.o (a:=⟨w.heap.size+1+1,0,none⟩) (by simp;omega) (.int .i64 sH)) (a:=⟨w.heap.size+1+1,1,none⟩) (by simp;omega) (.int .i64 sU)) (Below.refl _ _).drew) (.deferred none) q2 rfl) (.deferred none) q1 rfl;have H7:=((((A8.o.trans (A1.o.below (by omega) (by omega) (by omega))).setCell (p:=⟨w.heap.size+1+1,0,none⟩) (by simp;omega) (.int .i64 sH)).setCell (p:=⟨w.heap.size+1+1,1,none⟩) (by simp;omega) (.int .i64 sU)).drew.trans (belowK_b (w:=w) (Nat.le_refl _) _ m _ (.deferred none) (by omega) q2 rfl rfl)).trans (belowK_b (w:=w) (Nat.le_refl _) _ D _ (.deferred none) (by omega) q1 rfl rfl);have H9:((((W6.setCell ⟨w.heap.size+1+1,0,none⟩ (.int .i64 sH)).setCell ⟨w.heap.size+1+1,1,none⟩ (.int .i64 sU)).drew.putObj m (.deferred none)).putObj D (.deferred none)).heap[w.heap.size+1+1]?=some (.cells #[.int .i64 sH,.int .i64 sU] 26 (0,0)):=(World.putObj_heap_other (by omega)).trans ((World.putObj_heap_other (by omega)).trans F2);obtain⟨⟨u0,u1⟩,_⟩:=zgo H9;refine⟨by simp,.inl ⟨m,_,rfl,run_takeDeferred q2,?_⟩⟩;refine⟨by simp,.inl ⟨D,_,rfl,run_takeDeferred q1,?_⟩⟩;refine⟨.tuple #[.agg #[.int .i64 sH,.int .i64 sU],.slice fa (commitS rh ru t).length fc,.int .i64 0],by simp[results,results125,go_sem,u0,u1],?_⟩;have E4:=zsd D5 rfl;obtain⟨I4,H4,e9,I3,H5⟩:=SegSt.of_owns D5;obtain⟨rfl,rfl⟩:fa=I4∧fc=H4:=by simpa using e9
     exact⟨fa,fc,by rw[L4.o,K5.o,K0.o],E4,fun b off e=>by have:=H5 b off e;have:=A8.o.size;omega,I3,H7⟩
open Go.RowKit
