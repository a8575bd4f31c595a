/-
  
-/
import Derived.Test.YtjnpndfpajjihacGreatEPure
import Derived.Test.YtjnpndfpajjihacGreatGrTopSettles44
import Derived.Laws.EntriesVeiled
set_option maxRecDepth 100000
set_option maxHeartbeats 40000000
namespace Go.Proofs.YtjnpndfpajjihacGreat
open Go.Proofs.Tryz
open Go.RowKit Go.Shelf
attribute [local go_sem] Oper.semAt_some
theorem IsTx.segs{w:World}{t:Tx}{a:Option Addr}{c:Nat}{a':Option Addr}{c':Nat}{r:Option Addr}{d:Nat}(h:IsTx w (.agg #[.int .i64 t.seq,.slice a t.info.length c,.slice a' t.data.length c',.slice r t.rev.length d,.bool t.h0.on,.int .i64 t.h0.left,.bool t.h1.on,.int .i64 t.h1.left,.bool t.h2.on,.int .i64 t.h2.left]) t):
  SegW w a t.info∧t.info.length≤maxLen∧SegW w a' t.data∧t.data.length≤maxLen∧SegI w r t.rev∧t.rev.length≤maxLen:=by
 obtain⟨b0,b1,b2,b3,b4,b5,e,f1,E,C,D,A,B⟩:=h;simp only[Value.agg.injEq]at e
 injection e with e
 simp only[List.cons.injEq,Value.slice.injEq,true_and,and_true]at e;obtain⟨⟨rfl,rfl⟩,⟨rfl,rfl⟩,rfl,rfl⟩:=e;exact⟨f1,D,E,A,C,B⟩
theorem z0j(rh ru:Int)(v:Value)(t:Tx)(w:World)(hT:IsTx w v t)(r1:t.info.length*24≤140737488355328)(r2:t.data.length*24≤140737488355328)(he:¬sealE rh ru t=0):
  Calls prog 125 #[.agg #[.int .i64 rh,.int .i64 ru],v] w fun e w'=>∃a c,e=.returned (.tuple #[.agg #[.int .i64 (zcf rh ru t),.int .i64 (zca rh ru t)],.slice a (commitS rh ru t).length c,.int .i64 (sealE rh ru t)])∧SegSt w' a (commitS rh ru t)∧Below w.heap.size w w':=by
 have L:=zaa hT;obtain⟨a0,a1,a2,a3,a4,a5,rfl,_,_,_,n1,n2,n3⟩:=hT;have F:zcf rh ru t=rh∧zca rh ru t=ru∧sealP rh ru t=[]∧commitS rh ru t=[]:=by simp[zcf,zca,sealP,commitS,he]
 have B:=zaa F;have A2:(sealE rh ru t !=0)=true:=by simpa using he
 go_enter func125,ntmps125;go_wp2_with fail;refine(zuz rh ru _ t _ (L.o.below (zae (zae (zab _ _) (zab _ _)) (zab _ _))) r1 r2).mono ?_;rintro e I ⟨a,c,rfl,_,A⟩;obtain⟨E,N,K,D⟩:=zj5 A;have A0:w.heap.size<I.heap.size:=by omega
 have C:w.heap.size+1+1<I.heap.size+1:=by omega
 have J:=zaa (zae (zae (zae (zab _ _) (zab _ _)) (zab _ _)) A);obtain⟨⟨r0,A1⟩,_⟩:=zgr E;obtain⟨⟨M,O⟩,f0,f1⟩:=zgr K;clear E N K A F;go_wp2;refine bodyPost_ret (v:=.tuple #[.agg #[.int .i64 rh,.int .i64 ru],.slice none 0 0,.int .i64 (sealE rh ru t)]) (by simp[results,results125,go_sem,D,C,M,O]) rfl ⟨none,0,by rw[B.o.1,B.o.2.1,B.o.2.2.2];rfl,.inl B.o.2.2.2,?_⟩;refine Below.alloc (Below.alloc ?_ ?_ _) ?_ _
 ·refine Below.setCell (Below.setCell J.o ?_ _) ?_ _
  ·simp;omega
  ·simp;omega
 ·simp;omega
 ·simp;omega
theorem Fr.weak{Bs Bp base:Nat}{w w':World}(h:Fr Bs Bs base w w'):Fr Bs Bp base w w':=
 ⟨h.os,h.tape,h.output,h.size,fun k hk _ n2=>h.low k hk n2 n2,fun k o ho hn n1 _=>h.box k o ho hn n1 n1⟩
theorem PlacesAt.fr{w w':World}{base Bs Bp:Nat}{l:List Int}(h:PlacesAt w base Bp l)(hf:Fr Bs Bs base w w')(h1:Bp≠Bs)(h2:base≤Bs):PlacesAt w' base Bp l:=by
 obtain⟨a,c,C,B,A,r⟩:=h;refine⟨a,c,hf.boxed C (by decide) h1 h1,?_,A,r⟩;rcases B with e|⟨b,off,rfl,hlt,hc⟩
 ·exact .inl e
 ·have D:=(A b off rfl).1;exact .inr ⟨b,off,rfl,Nat.lt_of_lt_of_le hlt hf.size,fun i hi=>(World.cell?_of_block (w:=w) (a:=⟨b,off+i,none⟩) (hf.low b D (by omega) (by omega))).trans (hc i hi)⟩
theorem z0k{w w':World}{b Bs Bp base:Nat}{e:TypeId}{size n:Nat}{v:Value}{xs:List Value}(h:w.ownsRow b e size v n xs)(hf:Fr Bs Bp base w w')(he:e≠124)(h1:Bs<b)(h2:Bp<b):w'.ownsRow b e size v n xs:=by
 refine⟨h.1,?_⟩;rcases h.2 with h0|⟨g,cap,cur,hv,hg,hh,r⟩
 ·exact .inl h0
 ·exact .inr ⟨g,cap,cur,hv,hg,hf.box g _ hh (fun cs fr e'=>by simp only[Obj.cells.injEq]at e';exact he e'.2.1) (by omega) (by omega),r⟩
theorem SegW.low{w W0 w':World}{a:Option Addr}{l:List (Int×ByteArray)}{Bs Bp base:Nat}(h:SegW w a l)(hb:Below w.heap.size w W0)(hf:Fr Bs Bp base W0 w')(h1:w.heap.size≤base)(h2:w.heap.size≤Bp)(h3:w.heap.size≤Bs):SegW w' a l:=by
 rcases h with h|⟨b,off,rfl,hlt,hc⟩
 ·exact .inl h
 ·have A:=(hf.low b (by omega) (by omega) (by omega)).trans (hb.block b hlt);exact .inr ⟨b,off,rfl,Nat.lt_of_lt_of_le (Nat.lt_of_lt_of_le hlt hb.size) hf.size,fun i hi=>⟨(World.cell?_of_block (w:=w) (a:=⟨b,off+i*2,none⟩) A).trans (hc i hi).1,(World.cell?_of_block (w:=w) (a:=⟨b,off+i*2+1,none⟩) A).trans (hc i hi).2⟩⟩
theorem z0l{w:World}{b off:Nat}{l:List (Int×ByteArray)}(h:SegW w (some ⟨b,off,none⟩) l)(k:Nat):SegW w (some ⟨b,off+10*k*2,none⟩) (partOf l k):=by
 rcases h with e|⟨b',off',e,hlt,hc⟩
 ·left;rw[e,partOf];simp
 ·cases e;refine .inr ⟨b,off+10*k*2,rfl,hlt,fun i hi=>?_⟩;have A:i<10∧10*k+i<l.length:=by rw[partOf,List.length_take,List.length_drop]at hi;omega
  have B:(partOf l k).getD i (0,ByteArray.empty)=l.getD (10*k+i) (0,ByteArray.empty):=by
   rw[List.getD,List.getD,partOf,List.getElem?_take,if_pos A.1,List.getElem?_drop]
  have:=hc (10*k+i) A.2;rw[B,show off+10*k*2+i*2=off+(10*k+i)*2 from by omega];exact this
theorem zxv(q:Int)(l:List (Int×ByteArray)){j k:Nat}(h:j≤k):(zh6 q l j).length≤(zh6 q l k).length:=by
 induction h with
 |refl=>exact Nat.le_refl _
 |step h ih=>rw[zfy,List.length_append];omega
theorem z0m(l:List ByteArray){j:Nat}(h:j<l.length):l.take (j+1)=l.take j++[l.getD j ByteArray.empty]:=by
 rw[List.take_add_one,zce l j ByteArray.empty h];rfl
theorem zxw{l:List (Int×ByteArray)}{k:Nat}{x:Int×ByteArray}(h:x∈partOf l k):x∈l:=List.mem_of_mem_drop (List.mem_of_mem_take h)
theorem z0n(rh ru:Int)(t:Tx)(a0 a2 a4:Option Addr)(a1 a3 a5:Nat)(w:World)(hT:IsTx w (.agg #[.int .i64 t.seq,.slice a0 t.info.length a1,.slice a2 t.data.length a3,.slice a4 t.rev.length a5,.bool t.h0.on,.int .i64 t.h0.left,.bool t.h1.on,.int .i64 t.h1.left,.bool t.h2.on,.int .i64 t.h2.left]) t)(hci:t.info.length≤a1)(hcr:t.rev.length≤a5)(he:sealE rh ru t=0):
  Calls prog 125 #[.agg #[.int .i64 rh,.int .i64 ru],.agg #[.int .i64 t.seq,.slice a0 t.info.length a1,.slice a2 t.data.length a3,.slice a4 t.rev.length a5,.bool t.h0.on,.int .i64 t.h0.left,.bool t.h1.on,.int .i64 t.h1.left,.bool t.h2.on,.int .i64 t.h2.left]] w fun e w'=>∃a c,e=.returned (.tuple #[.agg #[.int .i64 (zcf rh ru t),.int .i64 (zca rh ru t)],.slice a (commitS rh ru t).length c,.int .i64 (sealE rh ru t)])∧(commitS rh ru t).length≤c∧(∀b off,a=some ⟨b,off,none⟩→w.heap.size≤b)∧SegSt w' a (commitS rh ru t)∧Below w.heap.size w w':=by
 have HT:=zaa hT;obtain⟨hM,n1,hD,n2,hR,n3⟩:=IsTx.segs hT;obtain⟨hg,_,L5,J6⟩:=zlr he;have Q:=zaa L5;have q:=zaa J6;have HG:=zaa hg;have J2:=zaw hg;have C7:=(za3 t).1 hg;have K6:∀x∈t.data,0≤x.1∧x.1≤11:=fun x hx=>((za5 _).1 C7.2.2.1.2.1).1 x.1 (List.mem_map.2 ⟨x,hx,rfl⟩);have P4:=zaa K6;have O1:=zaa hci;have N8:=zaa hcr;have HM:=zaa hM;have HD:=zaa hD;have HR:=zaa hR;have HC:Hid (commitS rh ru t=(homeS t.data++putS (sealP rh ru t) (logB t)++(if 0<t.rev.length+t.info.length then[zb1] else[]))++[zbm (1+(sealP rh ru t).getD (logB t).length 0) (zkv t)]++[zb1]):=by rw[Hid,commitS,if_pos he]
 have J3:(homeS t.data).length≤13:=by
  rw[homeS,List.length_append,zck];split<;>simp<;>omega
 have C5:=zaa J3
 have A8:(logB t).length≤20:=by
  have:=zd8 t J2.1 J2.2.2;have h2:needN (t.info.length:Int) (t.rev.length:Int)≤20:=by unfold needN;split<;>(try split)<;>(try split)<;>(try split)<;>omega
  omega
 have A3:=zaa A8;clear L5 J6 C7 K6 hci hcr hM hD hR n1 n2 n3 hT J3 hg A8;refine(callsIn_wide (n:=9)).1 ?_;refine callsIn_of_wp_marks func125 rfl trivial ?_ rfl;simp only[ntmps125,List.size_toArray,List.length_cons,List.length_nil,Nat.reduceAdd,Nat.reduceSub,Array.replicate_succ,Array.replicate_zero,List.push_toArray,List.append_toArray,List.nil_append,List.cons_append]
 gi_wp2_with fail
 refine⟨trivial,(callsIn_wide.2 (zuz rh ru _ t _ (HT.o.below (zae (zae (zab _ _) (zab _ _)) (zab _ _))) (by omega) (by omega))).mono ?_⟩;rintro e C ⟨pa,pc,rfl,hP,B3⟩;rw[he];obtain⟨K1,K2,K3,P0⟩:=zj5 B3;have KT:=zaa K2;have KZ:=zaa K3;have J7:=zaa (zae (zae (zae (zab _ _) (zab _ _)) (zab _ _)) B3);have HP:=zaa hP;have Q5:w.heap.size<C.heap.size:=by omega
 have I8:w.heap.size+1<C.heap.size:=by omega
 obtain⟨⟨x0,x1,x2,x3,x4,x5,x6,x7,x8,x9⟩,_⟩:=zaj K2;have J9:=zaa he;clear K1 K2 K3 hP he;generalize sealP rh ru t=PS at *;generalize hsH:zcf rh ru t=sH at *;generalize hsU:zca rh ru t=sU at *;have J8:=zaa hsH;have L1:=zaa hsU;clear hsH hsU
 gi_wp2_with fail
 refine⟨trivial,(callsIn_wide.2 (zuw a2 a3 t.data _ ((HD.o.below J7.o).below (zae (zab _ _) (zab _ _))) (by omega) P4.o)).mono ?_⟩;rintro e E ⟨v2,rfl,G8,B9⟩;have KB:=zaa (zhl B9);have KP:=zaa (zh3 B9);have B4:Below C.heap.size C E:=zae (zae (zab _ _) (zab _ _)) B9
 replace KT:=zaa (zad B4 I8 KT.o)
 replace KZ:=zaa (zad B4 P0 KZ.o)
 have HS:=zaa (HP.o.1.below B4);have HO:Hid (E.ownsRow (C.heap.size+1+1) 124 3 v2 (homeS t.data).length (cellsSt (homeS t.data))):=zaa (by simpa using G8);have O6:=zaa (zae J7.o B4);have M4:C.heap.size+1<E.heap.size:=by have:=B9.size;simp at this;omega
 obtain⟨ha,hc,rfl,_,_⟩:=SegSt.of_owns G8;clear B9 B4 G8 x0 x1 x2 x3 x4 x5 x6 x7 x8 x9;have J0:w.heap.size+1<E.heap.size:=by omega
 have Q1:w.heap.size+1<E.heap.size+1:=by omega
 have Q0:w.heap.size+1<E.heap.size+1+1:=by omega
 obtain⟨⟨x0,x1,x2,x3,x4,x5,x6,x7,x8,x9⟩,_⟩:=zaj KT.o
 gi_wp2_with fail
 obtain⟨L,C0⟩:∃L,L=((E.alloc (Obj.cells #[.slice ha (homeS t.data).length hc] 91)).alloc (Obj.cells #[.func (.func 165) #[] #[.pointer (some ⟨E.heap.size,0,none⟩),.pointer (some ⟨C.heap.size+1,0,none⟩)]] 229)).alloc (Obj.cells #[.func (.func 166) #[] #[.pointer (some ⟨w.heap.size+1,0,none⟩),.pointer (some ⟨E.heap.size+1,0,none⟩)]] 230):=⟨_,rfl⟩;have Z:Below E.heap.size E L:=by rw[C0];exact zae (zae (zab _ _) (zab _ _)) (zab _ _)
 have D6:L.heap.size=E.heap.size+1+1+1:=by rw[C0];simp
 have A0:L.heap[E.heap.size]?=some (Obj.cells #[.slice ha (homeS t.data).length hc] 91)∧L.heap[E.heap.size+1]?=some (Obj.cells #[.func (.func 165) #[] #[.pointer (some ⟨E.heap.size,0,none⟩),.pointer (some ⟨C.heap.size+1,0,none⟩)]] 229)∧L.heap[E.heap.size+1+1]?=some (Obj.cells #[.func (.func 166) #[] #[.pointer (some ⟨w.heap.size+1,0,none⟩),.pointer (some ⟨E.heap.size+1,0,none⟩)]] 230)∧E.heap.size+1+1<L.heap.size:=by rw[C0];exact zj5 (Below.refl _ _)
 rw[←C0];clear C0 x0 x1 x2 x3 x4 x5 x6 x7 x8 x9;have bS:Hid (Boxed L (E.heap.size) 91 (.slice ha (homeS t.data).length hc)):=A0.1;have bE:Hid (Boxed L (E.heap.size+1) 229 (.func (.func 165) #[] #[.pointer (some ⟨E.heap.size,0,none⟩),.pointer (some ⟨C.heap.size+1,0,none⟩)])):=A0.2.1;have bM:Hid (Boxed L (E.heap.size+1+1) 230 (.func (.func 166) #[] #[.pointer (some ⟨w.heap.size+1,0,none⟩),.pointer (some ⟨E.heap.size+1,0,none⟩)])):=A0.2.2.1
 have K0:StepsAt L (C.heap.size+1+1) (E.heap.size) (homeS t.data++putS PS []):=by
  rw[show putS PS []=[] from by simp[putS],List.append_nil];exact⟨_,bS.o,zah HO.o Z⟩
 have L8:PlacesAt L (C.heap.size+1+1) (C.heap.size+1) (PS.drop ([]:List ByteArray).length):=by
  refine⟨pa,pc,zad Z M4 KP.o,HS.o.below Z,?_,HP.o.2.2,?_⟩
  ·intro b off e;rcases HP.o.1 with e0|⟨b',off',e',A4,_⟩
   ·have:=Q.o;rw[e0]at this;simp at this
   ·rw[e]at e';cases e';omega
  ·intro e;rcases HP.o.1 with e0|⟨b',off',e',A4,_⟩
   ·exact e0
   ·rw[e]at e';cases e'
 have H2:Hid (LogAt L (C.heap.size+1+1) (E.heap.size) (C.heap.size+1) (homeS t.data) PS []):=⟨K0,L8,Nat.zero_le _⟩
 replace KT:=zaa (zad Z J0 KT.o)
 replace KZ:=zaa (zad Z (by omega) KZ.o)
 replace KB:=zaa (zad Z (by omega) KB.o)
 have B2:=zaa (zae O6.o Z);have I5:C.heap.size+1+1≤L.heap.size:=by omega
 have S:=zaa D6;clear Z A0 K0 L8 HO HS HP KP bS D6;refine⟨trivial,(z0h Fence.wide 8 trivial rfl a4 t.rev.length a5 L).mono ?_⟩;rintro e W1 ⟨rfl,D9⟩;have E6:Below L.heap.size L W1:=by rw[D9];exact zae (zab _ _) (zab _ _)
 have J5:W1.heap.size=L.heap.size+1+1:=by rw[D9];simp
 have cS:Boxed W1 L.heap.size 35 (.slice a4 t.rev.length a5):=by rw[D9];exact zhl (Below.refl _ _)
 have cN:Boxed W1 (L.heap.size+1) 3 (.int .i64 20):=by rw[D9];exact zh3 (Below.refl _ _)
 have L3:=zaa J5;clear D9 J5;have F5:0<t.rev.length→t.rev.length≤a5:=fun _=>N8.o
 have D8:0<t.rev.length→∃b off,a4=some ⟨b,off,none⟩:=fun hp=>by
  rcases HR.o with e|⟨b,off,e,_⟩
  ·rw[e]at hp;simp at hp
  ·exact⟨b,off,e⟩
 have K7:=zaa D8;have O5:=zaa F5;clear D8 F5
 gi_wp2_with fail
 refine zi6 (F:=Fence.wide) (n:=9) rfl (by decide) (gf:=200) (lb:=#[.pointer (some ⟨L.heap.size,0,none⟩),.pointer (some ⟨L.heap.size+1,0,none⟩)]) rfl trivial (enters_of func200 (by kernel_rfl) rfl)
  (zpf Fence.wide 8 trivial rfl (by decide) L.heap.size (L.heap.size+1) t.rev.length a5 a4 (by omega) O5.o K7.o W1 cS cN) (Below.refl _ _) KeepsB.trans KeepsB.put (fun _=>rfl)
  (fun k W=>LogAt W (C.heap.size+1+1) (E.heap.size) (C.heap.size+1) (homeS t.data) PS (if k=0 then[] else zwm t)∧Fr (E.heap.size) (C.heap.size+1) (C.heap.size+1+1) L W∧Boxed W L.heap.size 35 (.slice a4 t.rev.length a5)∧Boxed W (L.heap.size+1) 3 (.int .i64 20))
  ?own ?drew ?start ?a1 ?assign ?body ?done
 case own=>
  intro k A B row I u hr;have A9:∀r,row=some r→∃o:Obj,A.heap[r]?=some o∧o.isCells=false:=fun r e=>(hr r e).2;refine⟨I.1.kept u A9,I.2.1.kept u (fun r e=>by have:=(hr r e).1;have:=L3.o;omega) I5,I.2.2.1.kept u ?_,I.2.2.2.kept u ?_⟩
  ·intro e;obtain⟨o,ho,hc⟩:=A9 _ e.symm;rw[show A.heap[L.heap.size]?=_ from I.2.2.1]at ho;cases ho;cases hc
  ·intro e;obtain⟨o,ho,hc⟩:=A9 _ e.symm;rw[show A.heap[L.heap.size+1]?=_ from I.2.2.2]at ho;cases ho;cases hc
 case drew=>
  intro k V I;exact⟨I.1.below (Below.refl _ _).drew,I.2.1.trans (Fr.of_below (Below.refl _ _).drew (by have:=I.2.1.size;omega)),I.2.2.1,I.2.2.2⟩
 case start=>
  refine⟨?_,Fr.of_below E6 I5,cS,cN⟩;rw[if_pos rfl];exact H2.o.below E6
 case assign=>
  intro l k W K hK
  gi_wp2
  exact hK
 case body=>
  intro l k W hk I;obtain⟨hL,X,c1,c2⟩:=I;have M7:k=0∧0<t.rev.length:=by unfold zc7 at hk;omega
  obtain⟨rfl,hp⟩:=M7;obtain⟨b,off,rfl⟩:=K7.o hp;have R2:zfp t.rev.length 20 0=t.rev.length:=by unfold zfp;split<;>omega
  have R6:=(X.boxed bM.o (by decide) (by omega) (by omega)).cell;rw[if_pos rfl]at hL;have C0:=X.size;have G6:([]:List ByteArray).length<PS.length:=by have:=Q.o;simp;omega
  have P1:SegI W (some ⟨b,off,none⟩) t.rev:=by
   have A4:=HR.o;rcases A4 with e|⟨b',off',e,hl,hc⟩
   ·exact .inl e
   ·cases e;refine .inr ⟨b,off,rfl,Nat.lt_of_lt_of_le (Nat.lt_of_lt_of_le hl B2.o.size) X.size,fun i hi=>?_⟩;have R3:b<w.heap.size:=hl;exact(World.cell?_of_block (w:=L) (a:=⟨b,off+i,none⟩) (X.low b (by omega) (by omega) (by omega))).trans (zac B2.o hl (hc i hi))
  have A8:=A3.o;have M:=X.box _ _ KT.o (fun cs fr e=>by simp only[Obj.cells.injEq]at e;exact absurd e.2.1 (by decide)) (by omega) (by omega);have U:=(zaj M).1.1;have O:=(X.boxed bE.o (by decide) (by omega) (by omega)).cell
  have N:PlacesAt W (C.heap.size+1+1) (C.heap.size+1) (PS.getD ([]:List ByteArray).length 0::PS.drop (([]:List ByteArray).length+1)):=by
   have:=hL.2.1;rw[zi9 G6]at this;exact this
  have h:(homeS t.data++putS PS ([])).length≤900:=by
   rw[List.length_append,zd7 (Nat.le_of_lt G6)];have:=C5.o;have:=Q.o;omega
  gi_wp2_with fail
  refine⟨trivial,(CallsIn.inRound l (callsIn_wide.2 (zjm (E.heap.size) (C.heap.size+1) (C.heap.size+1+1) (w.heap.size+1) (E.heap.size+1) (homeS t.data++putS PS ([])) (PS.getD ([]:List ByteArray).length 0) (PS.drop (([]:List ByteArray).length+1)) ⟨3,0,0,[],t.rev⟩ _ t.seq W ⟨none,0,some ⟨b,off,none⟩,_,rfl,.inl rfl,P1,Nat.zero_le _,by show t.rev.length≤maxLen;unfold maxLen;omega⟩ U (by have:=X.size;have:=S.o;omega) O (by have:=X.size;have:=S.o;omega) hL.1 N h (by have:=Q.o;have:=A8;simp;omega) (q.o _).1 (q.o _).2 (by have:=X.size;omega) (by omega) (by omega)))).mono ?_⟩;rintro e W' ⟨⟨v,rfl⟩,R,k2,J⟩;clear M U O N h
  gi_wp2
  have hz:=S.o;refine⟨J.others hL.1.boxed hL.2.1.boxed,KeepsB.of_fr J c1 c2 (by decide) (by decide) (by omega) (by omega) (by omega) (by omega),?_,X.trans J,J.boxed c1 (by decide) (by omega) (by omega),J.boxed c2 (by decide) (by omega) (by omega)⟩;rw[zwm,if_neg (by omega)];exact LogAt.next (d:=[]) G6 R k2
 case done=>
  intro D W hD I hK;obtain⟨hL,X,_,_⟩:=I
  have E0:LogAt W (C.heap.size+1+1) (E.heap.size) (C.heap.size+1) (homeS t.data) PS (zwm t):=by
   by_cases h0:t.rev.length=0
   ·have e1:zc7 t.rev.length 20=0:=by rw[h0];rfl
    have e2:zwm t=[]:=by rw[zwm,if_pos h0]
    rw[e1,if_pos rfl]at hL;rw[e2];exact hL
   ·have e1:zc7 t.rev.length 20≠0:=by unfold zc7;omega
    rw[if_neg e1]at hL;exact hL
  have O7:=zaa E0;have N2:=zaa X;have N6:=zaa hK;have O2:D<W.heap.size:=(Array.getElem?_eq_some_iff.1 hK).1;have Q9:=X.size;have R0:L.heap.size<D:=by have:=L3.o;omega
  have M:=X.box _ _ KT.o (fun cs fr e=>by simp only[Obj.cells.injEq]at e;exact absurd e.2.1 (by decide)) (by omega) (by omega);obtain⟨⟨x0,x1,x2,x3,x4,x5,x6,x7,x8,x9⟩,_⟩:=zaj M;clear hL E0 X hK M cS cN E6 H2
  gi_wp2_with fail
  refine⟨trivial,(z0i Fence.wide 8 trivial rfl a0 t.info.length a1 W).mono ?_⟩;rintro e W2 ⟨rfl,C8⟩;have E7:Below W.heap.size W W2:=by rw[C8];exact zae (zab _ _) (zab _ _)
  have F8:W2.heap.size=W.heap.size+1+1:=by rw[C8];simp
  have dS:Boxed W2 W.heap.size 34 (.slice a0 t.info.length a1):=by rw[C8];exact zhl (Below.refl _ _)
  have dN:Boxed W2 (W.heap.size+1) 3 (.int .i64 10):=by rw[C8];exact zh3 (Below.refl _ _)
  have L2:=zaa F8;clear C8 F8 x0 x1 x2 x3 x4 x5 x6 x7 x8 x9
  have D1:0<t.info.length→∃b off,a0=some ⟨b,off,none⟩:=fun hp=>by
   rcases HM.o with e|⟨b,off,e,_⟩
   ·rw[e]at hp;simp at hp
   ·exact⟨b,off,e⟩
  have K4:=zaa D1;clear D1
  gi_wp2_with fail
  refine zi6 (F:=Fence.wide) (n:=9) rfl (by decide) (gf:=201) (lb:=#[.pointer (some ⟨W.heap.size,0,none⟩),.pointer (some ⟨W.heap.size+1,0,none⟩)]) rfl trivial (enters_of func201 (by kernel_rfl) rfl)
   (zpg Fence.wide 8 trivial rfl (by decide) W.heap.size (W.heap.size+1) t.info.length a1 a0 (by omega) (fun _=>O1.o) K4.o W2 dS dN) (Below.refl _ _) KeepsB.trans KeepsB.put (fun _=>rfl)
   (fun k V=>LogAt V (C.heap.size+1+1) (E.heap.size) (C.heap.size+1) (homeS t.data) PS (zwm t++zh6 t.seq t.info k)∧Fr (E.heap.size) (C.heap.size+1) (C.heap.size+1+1) L V∧Boxed V W.heap.size 34 (.slice a0 t.info.length a1)∧Boxed V (W.heap.size+1) 3 (.int .i64 10)∧V.heap[D]?=some (.deferred (some [])))
   ?own2 ?drew2 ?start2 ?a2 ?assign2 ?body2 ?done2
  case own2=>
   intro k A B row I u hr;have A9:∀r,row=some r→∃o:Obj,A.heap[r]?=some o∧o.isCells=false:=fun r e=>(hr r e).2;have F8:=L2.o;refine⟨I.1.kept u A9,I.2.1.kept u (fun r e=>by have:=(hr r e).1;omega) I5,I.2.2.1.kept u ?_,I.2.2.2.1.kept u ?_,(u.block D (Array.getElem?_eq_some_iff.1 I.2.2.2.2).1 (fun e=>by have:=(hr D e.symm).1;omega)).trans I.2.2.2.2⟩
   ·intro e;obtain⟨o,ho,hc⟩:=A9 _ e.symm;rw[show A.heap[W.heap.size]?=_ from I.2.2.1]at ho;cases ho;cases hc
   ·intro e;obtain⟨o,ho,hc⟩:=A9 _ e.symm;rw[show A.heap[W.heap.size+1]?=_ from I.2.2.2.1]at ho;cases ho;cases hc
  case drew2=>
   intro k V I;exact⟨I.1.below (Below.refl _ _).drew,I.2.1.trans (Fr.of_below (Below.refl _ _).drew (by have:=I.2.1.size;omega)),I.2.2.1,I.2.2.2.1,I.2.2.2.2⟩
  case start2=>
   refine⟨?_,N2.o.trans (Fr.of_below E7 (by omega)),dS,dN,zad E7 O2 N6.o⟩;rw[show zh6 t.seq t.info 0=[] from rfl,List.append_nil];exact O7.o.below E7
  case assign2=>
   intro l k V K hK
   gi_wp2
   exact hK
  case body2=>
   intro l k V hk I;obtain⟨hL,X,c1,c2,C6⟩:=I;have hp:0<t.info.length:=by unfold zc7 at hk;omega
   obtain⟨b,off,rfl⟩:=K4.o hp;have R4:=X.size;have G1:SegW V (some ⟨b,off+10*k*2,none⟩) (partOf t.info k):=z0l (HM.o.low B2.o X (by omega) (by omega) (by omega)) k;have F3:=zgh t.info k
   have G2:∀x∈partOf t.info k,x.2.size≤maxLen:=by
    intro x hx;have C7:=((za3 t).1 HG.o).2.1.1;unfold zb5 at C7;have:=List.all_eq_true.1 C7 x (zxw hx);simp[zba]at this;unfold maxLen;omega
   have P9:(partOf t.info k).length≤10:=by rw[partOf,List.length_take];omega
   have I7:=zxv t.seq t.info (show k+1≤zc7 t.info.length 10 by omega);have L6:(zwm t).length+(zh6 t.seq t.info (k+1)).length≤(logB t).length:=by rw[logB,List.length_append];omega
   have C3:=zfy t.seq t.info k;obtain⟨y,C1⟩:∃y,y=zwm t++zh6 t.seq t.info k:=⟨_,rfl⟩;have F9:y.length+(zqn t.seq t.info k).length≤(logB t).length:=by rw[C1,List.length_append];rw[C3,List.length_append]at L6;omega
   have M0:Hid (zwm t++zh6 t.seq t.info (k+1)=y++[encT ⟨2,t.seq,0,tagsOf (partOf t.info k),[]⟩]++textsOf (partOf t.info k)):=by
    rw[Hid,C3,←List.append_assoc,←C1,zqn];simp
   rw[←C1]at hL
   have C2:Hid (y.length+(1+(textsOf (partOf t.info k)).length)≤(logB t).length):=by
    have P8:(zqn t.seq t.info k).length=1+(textsOf (partOf t.info k)).length:=by rw[zqn,List.length_cons];omega
    rw[Hid,←P8];exact F9
   clear F9;have H0:=zaa G1;have P3:=zaa G2;have H4:=zaa hL;have O9:=zaa X;clear G1 G2 I7 L6 C3 C1 hL X;rw[←F3];clear F3;generalize partOf t.info k=part at *
   gi_wp2_with fail
   refine⟨trivial,(CallsIn.inRound l (callsIn_wide.2 (zmq (some ⟨b,off+10*k*2,none⟩) part.length part V H0.o (by omega) P3.o))).mono ?_⟩;rintro e V1 ⟨v1,v2,rfl,hG,G3,B3⟩;have H8:=H4.o.below B3;have A5:=O9.o.trans (Fr.of_below B3 (by omega));have F7:Fr (E.heap.size) (C.heap.size+1) (C.heap.size+1+1) V V1:=Fr.of_below B3 (by omega);obtain⟨ga,gc,rfl,L0,_⟩:=SegG.of_owns hG;obtain⟨ta,tc,P2,N5,_⟩:=SegX.of_owns G3;subst P2;have N9:Hid ((textsOf part).length=part.length):=by rw[Hid,textsOf,List.length_map]
   have L4:Hid ((tagsOf part).length=part.length):=by rw[Hid,tagsOf,List.length_map]
   have s:y.length<PS.length:=by have:=Q.o;have:=C2.o;omega
   have I2:=zaa s;have A8:=A3.o;have M:=A5.box _ _ KT.o (fun cs fr e=>by simp only[Obj.cells.injEq]at e;exact absurd e.2.1 (by decide)) (by omega) (by omega);have U:=(zaj M).1.1;have O:=(A5.boxed bE.o (by decide) (by omega) (by omega)).cell
   have N:PlacesAt V1 (C.heap.size+1+1) (C.heap.size+1) (PS.getD (y).length 0::PS.drop ((y).length+1)):=by
    have:=H8.2.1;rw[zi9 s]at this;exact this
   have h:(homeS t.data++putS PS (y)).length≤900:=by
    rw[List.length_append,zd7 (Nat.le_of_lt s)];have:=C5.o;have:=Q.o;omega
   have D5:=(A5.boxed bM.o (by decide) (by omega) (by omega)).cell
   gi_wp2_with fail
   refine⟨trivial,(CallsIn.inRound l (callsIn_wide.2 (zjm (E.heap.size) (C.heap.size+1) (C.heap.size+1+1) (w.heap.size+1) (E.heap.size+1) (homeS t.data++putS PS (y)) (PS.getD (y).length 0) (PS.drop ((y).length+1)) ⟨2,0,0,tagsOf part,[]⟩ _ t.seq V1 ⟨ga,gc,none,0,rfl,L0,.inl rfl,by show(tagsOf part).length≤maxLen;rw[L4.o];unfold maxLen;omega,Nat.zero_le _⟩ U (by have:=A5.size;have:=S.o;omega) O (by have:=A5.size;have:=S.o;omega) H8.1 N h (by have:=Q.o;have:=A8;simp;omega) (q.o _).1 (q.o _).2 (by have:=A5.size;omega) (by omega) (by omega)))).mono ?_⟩;rintro e V2 ⟨⟨v,rfl⟩,R,k2,J⟩;have E0:LogAt V2 (C.heap.size+1+1) (E.heap.size) (C.heap.size+1) (homeS t.data) PS (y++[encT ⟨2,t.seq,0,tagsOf part,[]⟩]):=LogAt.next s R k2;have J4:=A5.trans J;have G4:z3p V2 V.heap.size (.slice ta (textsOf part).length tc) (textsOf part):=z0k G3 J (by decide) (by have:=S.o;omega) (by omega);have O0:=zaa E0;have F4:=zaa J4;have M1:=zaa (F7.trans J);have N1:=zaa G4;have Q6:=B3.size;clear M U O N h D5 R k2 E0 J4 H8 A5 F7 G3 G4 hG L0 N5 L4
   have M9:Hid ((y++[encT ⟨2,t.seq,0,tagsOf part,[]⟩]).length+(textsOf part).length<PS.length):=by
    rw[Hid,List.length_append];have:=C2.o;have:=Q.o;simp;omega
   have Q3:(textsOf part).length≤20:=by have:=C2.o;have:=A3.o;omega
   clear s I2 C2 N9;generalize y++[encT ⟨2,t.seq,0,tagsOf part,[]⟩]=d2 at *;generalize textsOf part=TX at *
   gi_wp2
   gi_loopw [60] (fun i wr=>∃j:Nat,j≤TX.length∧i=.int .i64 j∧Hid (LogAt wr (C.heap.size+1+1) (E.heap.size) (C.heap.size+1) (homeS t.data) PS (d2++TX.take j))∧Hid (Fr (E.heap.size) (C.heap.size+1) (C.heap.size+1+1) V2 wr)) (fun i _=>TX.length - (intOf i).toNat)
   case atStart=>exact⟨0,Nat.zero_le _,rfl,by rw[List.take_zero,List.append_nil];exact O0,(Fr.of_below (Below.refl _ _) (by have:=F4.o.size;omega))⟩
   case round=>
    obtain⟨j,hj,rfl,D4,B7⟩:=hrel;have Q2:=F4.o.size;by_cases A4:j<TX.length
    ·have L9:(j:Int)<(TX.length:Int):=by omega
     have K9:z3p wr V.heap.size (.slice ta TX.length tc) TX:=z0k N1.o B7.o (by decide) (by have:=S.o;omega) (by omega);obtain⟨O3,O8,ee,hS,_⟩:=SegX.of_owns K9;obtain⟨rfl,rfl⟩:ta=O3∧tc=O8:=by simpa using ee
     obtain⟨b2,Q8,rfl,B9,K5⟩:=hS.resolve_left (by intro e;rw[e]at A4;simp at A4);have J1:=K5 j A4;have O:=((F4.o.trans B7.o).boxed bE.o (by decide) (by omega) (by omega)).cell;have s:(d2++TX.take j).length<PS.length:=by rw[List.length_append,List.length_take];have:=M9.o;omega
     have N:PlacesAt wr (C.heap.size+1+1) (C.heap.size+1) (PS.getD (d2++TX.take j).length 0::PS.drop ((d2++TX.take j).length+1)):=by
      have:=D4.o.2.1;rw[zi9 s]at this;exact this
     have h:(homeS t.data++putS PS (d2++TX.take j)).length≤900:=by
      rw[List.length_append,zd7 (Nat.le_of_lt s)];have:=C5.o;have:=Q.o;have:=A3.o;omega
     have I2:=zaa s;have H5:=zaa N;have K8:=zaa h;have M8:=zaa (z0m TX A4);clear K9 hS K5 ee s N h;generalize TX.getD j ByteArray.empty=tj at *
     gi_wp2_with fail
     refine⟨trivial,(CallsIn.inRound l (callsIn_wide.2 (zrt (E.heap.size) (C.heap.size+1) (C.heap.size+1+1) (homeS t.data++putS PS (d2++TX.take j)) (PS.getD (d2++TX.take j).length 0) (PS.drop ((d2++TX.take j).length+1)) tj wr D4.o.1 H5.o K8.o (by have:=Q.o;have:=A3.o;simp;omega) (q.o _).1 (q.o _).2 (by have:=B7.o.size;omega) (by omega) (by omega)))).mono ?_⟩;rintro e V3 ⟨⟨v,rfl⟩,R,k2,B8⟩;have N3:=zaa (LogAt.next I2.o R k2);have N4:=zaa (B7.o.trans B8);clear R k2 B8 H5 K8 D4 B7 O J1
     gi_wp2
     go_roundw
     case rel=>exact⟨j+1,by omega,by go_num,by rw[M8.o,←List.append_assoc];exact N3,N4⟩
     case measure=>simp[intOf];omega
    ·have L9:¬((j:Int)<(TX.length:Int)):=by omega
     have e:j=TX.length:=by omega
     subst e;rw[List.take_length]at D4
     gi_wp2
     have hz:=S.o;have D7:=M1.o.trans B7.o;refine⟨D7.others H4.o.1.boxed H4.o.2.1.boxed,KeepsB.of_fr D7 c1 c2 (by decide) (by decide) (by omega) (by omega) (by omega) (by omega),?_,F4.o.trans B7.o,D7.boxed c1 (by decide) (by omega) (by omega),D7.boxed c2 (by decide) (by omega) (by omega),D7.box D _ C6 (fun cs fr e=>by cases e) (by omega) (by omega)⟩;rw[M0.o];exact D4.o
  case done2=>
   intro m W3 R1 I H1;obtain⟨H9,Y,_,_,C6⟩:=I;have F6:LogAt W3 (C.heap.size+1+1) (E.heap.size) (C.heap.size+1) (homeS t.data) PS (logB t):=H9;have E8:(logB t).length<PS.length:=by have:=Q.o;omega
   have Q7:=Y.size;clear H9;have A8:=A3.o;have M:=Y.box _ _ KT.o (fun cs fr e=>by simp only[Obj.cells.injEq]at e;exact absurd e.2.1 (by decide)) (by omega) (by omega);have U:=(zaj M).1.1;have O:=(Y.boxed bE.o (by decide) (by omega) (by omega)).cell
   have N:PlacesAt W3 (C.heap.size+1+1) (C.heap.size+1) (PS.getD (logB t).length 0::PS.drop ((logB t).length+1)):=by
    have:=F6.2.1;rw[zi9 E8]at this;exact this
   have h:(homeS t.data++putS PS (logB t)).length≤900:=by
    rw[List.length_append,zd7 (Nat.le_of_lt E8)];have:=C5.o;have:=Q.o;omega
   have I4:=M;obtain⟨⟨x0,x1,x2,x3,x4,x5,x6,x7,x8,x9⟩,_⟩:=zaj I4;clear M I4 U O
   have I9:(homeS t.data++putS PS (logB t)).length≤40:=by
    rw[List.length_append,zd7 (Nat.le_of_lt E8)];have:=C5.o;have:=A3.o;omega
   have D6:=S.o;have P5:=zaa D6;clear D6;have R5:E.heap.size+1+1<L.heap.size:=by have:=P5.o;omega
   have Q4:D<m:=by have:=L2.o;omega
   by_cases hz:0<t.rev.length+t.info.length
   ·have M6:(0:Int)<(t.rev.length:Int)+(t.info.length:Int):=by omega
    gi_wp2_with fail
    refine⟨trivial,(callsIn_wide.2 (zpe (E.heap.size) (E.heap.size) (C.heap.size+1+1) (homeS t.data++putS PS (logB t)) W3 F6.1 h (by omega))).mono ?_⟩;rintro e W4 ⟨⟨v4,rfl⟩,R,B8⟩;have J:Fr (E.heap.size) (C.heap.size+1) (C.heap.size+1+1) W3 W4:=B8.weak;have B0:=Y.trans J;have P7:=N.fr B8 (by omega) (by omega);have M2:=J.box D _ C6 (fun cs fr e=>by cases e) (by omega) (by omega);have M3:=J.box m _ H1 (fun cs fr e=>by cases e) (by omega) (by omega);have F1:(homeS t.data++putS PS (logB t)++[zb1]).length≤890:=by rw[List.length_append];show _+1≤890;omega
    clear J B8 F6 Y C6 H1 N h x0 x1 x2 x3 x4 x5 x6 x7 x8 x9;have D5:=(B0.boxed bM.o (by decide) (by omega) (by omega)).cell;have M:=B0.box _ _ KT.o (fun cs fr e=>by simp only[Obj.cells.injEq]at e;exact absurd e.2.1 (by decide)) (by omega) (by omega);have U:=(zaj M).1.1;have O:=(B0.boxed bE.o (by decide) (by omega) (by omega)).cell
    gi_wp2_with fail
    refine⟨trivial,(callsIn_wide.2 (zjm (E.heap.size) (C.heap.size+1) (C.heap.size+1+1) (w.heap.size+1) (E.heap.size+1) (homeS t.data++putS PS (logB t)++[zb1]) (PS.getD (logB t).length 0) (PS.drop ((logB t).length+1)) ⟨4,0,0,[],[]⟩ _ t.seq W4 ⟨none,0,none,0,rfl,.inl rfl,.inl rfl,Nat.zero_le _,Nat.zero_le _⟩ U (by have:=B0.size;have:=S.o;omega) O (by have:=B0.size;have:=S.o;omega) R P7 (by omega) (by have:=Q.o;have:=A3.o;simp;omega) (q.o _).1 (q.o _).2 (by have:=B0.size;omega) (by omega) (by omega))).mono ?_⟩;rintro e W5 ⟨⟨v5,rfl⟩,R,k2,J⟩;have C4:=B0.trans J;have B5:=J.box D _ M2 (fun cs fr e=>by cases e) (by omega) (by omega);have A7:=J.box m _ M3 (fun cs fr e=>by cases e) (by omega) (by omega)
    have B6:(homeS t.data++putS PS (logB t)++[zb1]++[zbm (1+PS.getD (logB t).length 0) (encT ⟨4,t.seq,0,[],[]⟩)]).length≤900:=by
     rw[List.length_append];show _+1≤900;omega
    have H6:=zaa R;have C9:=zaa C4;have E2:=zaa B5;have E9:=zaa A7;have E4:=zaa B6;clear D5 M U O R k2 J C4 B5 A7 B6 F1
    gi_wp2_with fail
    refine⟨trivial,(callsIn_wide.2 (zpe (E.heap.size) (C.heap.size+1) (C.heap.size+1+1) _ W5 H6.o E4.o (by have:=C9.o.size;omega))).mono ?_⟩;rintro e W6 ⟨⟨v6,rfl⟩,R,J⟩;have A1:=zaa (C9.o.trans J);have E3:=zaa (J.box D _ E2.o (fun cs fr e=>by cases e) (by omega) (by omega));have F0:=zaa (J.box m _ E9.o (fun cs fr e=>by cases e) (by omega) (by omega));have z:commitS rh ru t=homeS t.data++putS PS (logB t)++[zb1]++[zbm (1+PS.getD (logB t).length 0) (encT ⟨4,t.seq,0,[],[]⟩)]++[zb1]:=by rw[HC.o,if_pos hz];rfl
    rw[←z]at R;have M5:=zaa z;obtain⟨N0,b6,o6⟩:=R;have G5:=zaa o6;obtain⟨fa,fc,rfl,B1,A2⟩:=SegSt.of_owns o6;have H0:=zaa B1;have N7:=zaa A2;have c6:=b6.cell;have E1:=A1.o.box _ _ KB.o (fun cs fr e=>by simp only[Obj.cells.injEq]at e;exact absurd e.2.1 (by decide)) (by omega) (by omega);have A6:=A1.o.box _ _ KZ.o (fun cs fr e=>by simp only[Obj.cells.injEq]at e;exact absurd e.2.1 (by decide)) (by omega) (by omega);obtain⟨⟨y0,y1⟩,_⟩:=zgr E1;obtain⟨⟨z0,z1⟩,O4,P6⟩:=zgr A6;have G0:=zaa A1.o.size;have I1:=zaa A6;clear J z b6 o6 B1 A2 E1 A6
    gi_wp2
    gi_region
    all_goals
     gi_wp2
     have F2:=zjo I1.o (.int .i64 sH) (.int .i64 sU);have q2:((W6.setCell ⟨w.heap.size+1+1,0,none⟩ (.int .i64 sH)).setCell ⟨w.heap.size+1+1,1,none⟩ (.int .i64 sU)).drew.heap[m]?=some (.deferred (some [])):=(Below.heap_setCell _ _ _ _ (by simp;omega)).trans ((Below.heap_setCell _ _ _ _ (by simp;omega)).trans F0.o);have q1:(((W6.setCell ⟨w.heap.size+1+1,0,none⟩ (.int .i64 sH)).setCell ⟨w.heap.size+1+1,1,none⟩ (.int .i64 sU)).drew.putObj m (.deferred none)).heap[D]?=some (.deferred (some [])):=(World.putObj_heap_other (by omega)).trans ((Below.heap_setCell _ _ _ _ (by simp;omega)).trans ((Below.heap_setCell _ _ _ _ (by simp;omega)).trans E3.o));have H3:C.heap.size+1+1≤W6.heap.size:=by have:=G0.o;omega
     have D3:=ownsRow_putObj (ownsRow_putObj (zah (ownsRow_setCell_below (ownsRow_setCell_below G5.o (a:=⟨w.heap.size+1+1,0,none⟩) (by simp;omega) (.int .i64 sH)) (a:=⟨w.heap.size+1+1,1,none⟩) (by simp;omega) (.int .i64 sU)) (Below.refl _ _).drew) (.deferred none) q2 rfl) (.deferred none) q1 rfl;have G7:=((((B2.o.trans (A1.o.below (by omega) (by omega) (by omega))).setCell (p:=⟨w.heap.size+1+1,0,none⟩) (by simp;omega) (.int .i64 sH)).setCell (p:=⟨w.heap.size+1+1,1,none⟩) (by simp;omega) (.int .i64 sU)).drew.trans (belowK_b (w:=w) (Nat.le_refl _) _ m _ (.deferred none) (by omega) q2 rfl rfl)).trans (belowK_b (w:=w) (Nat.le_refl _) _ D _ (.deferred none) (by omega) q1 rfl rfl);have H7:((((W6.setCell ⟨w.heap.size+1+1,0,none⟩ (.int .i64 sH)).setCell ⟨w.heap.size+1+1,1,none⟩ (.int .i64 sU)).drew.putObj m (.deferred none)).putObj D (.deferred none)).heap[w.heap.size+1+1]?=some (.cells #[.int .i64 sH,.int .i64 sU] 26 (0,0)):=(World.putObj_heap_other (by omega)).trans ((World.putObj_heap_other (by omega)).trans F2);obtain⟨⟨u0,u1⟩,_⟩:=zgr H7;refine⟨by simp,.inl ⟨m,_,rfl,run_takeDeferred q2,?_⟩⟩;refine⟨by simp,.inl ⟨D,_,rfl,run_takeDeferred q1,?_⟩⟩;refine⟨.tuple #[.agg #[.int .i64 sH,.int .i64 sU],.slice fa (commitS rh ru t).length fc,.int .i64 0],by simp[results,results125,go_sem,u0,u1],?_⟩;have E5:=zsb D3 rfl;obtain⟨I0,I3,e9,G9,I6⟩:=SegSt.of_owns D3;obtain⟨rfl,rfl⟩:fa=I0∧fc=I3:=by simpa using e9
     exact⟨fa,fc,by rw[J8.o,L1.o,J9.o],E5,fun b off e=>by have:=I6 b off e;have:=B2.o.size;omega,G9,G7⟩
   ·have M6:¬((0:Int)<(t.rev.length:Int)+(t.info.length:Int)):=by omega
    have F1:(homeS t.data++putS PS (logB t)).length≤890:=by have:=I9;omega
    have D5:=(Y.boxed bM.o (by decide) (by omega) (by omega)).cell;have M:=Y.box _ _ KT.o (fun cs fr e=>by simp only[Obj.cells.injEq]at e;exact absurd e.2.1 (by decide)) (by omega) (by omega);have U:=(zaj M).1.1;have O:=(Y.boxed bE.o (by decide) (by omega) (by omega)).cell
    gi_wp2_with fail
    refine⟨trivial,(callsIn_wide.2 (zjm (E.heap.size) (C.heap.size+1) (C.heap.size+1+1) (w.heap.size+1) (E.heap.size+1) (homeS t.data++putS PS (logB t)) (PS.getD (logB t).length 0) (PS.drop ((logB t).length+1)) ⟨4,0,0,[],[]⟩ _ t.seq W3 ⟨none,0,none,0,rfl,.inl rfl,.inl rfl,Nat.zero_le _,Nat.zero_le _⟩ U (by have:=Y.size;have:=S.o;omega) O (by have:=Y.size;have:=S.o;omega) F6.1 N (by omega) (by have:=Q.o;have:=A3.o;simp;omega) (q.o _).1 (q.o _).2 (by have:=Y.size;omega) (by omega) (by omega))).mono ?_⟩;rintro e W5 ⟨⟨v5,rfl⟩,R,k2,J⟩;have C4:=Y.trans J;have B5:=J.box D _ C6 (fun cs fr e=>by cases e) (by omega) (by omega);have A7:=J.box m _ H1 (fun cs fr e=>by cases e) (by omega) (by omega)
    have B6:(homeS t.data++putS PS (logB t)++[zbm (1+PS.getD (logB t).length 0) (encT ⟨4,t.seq,0,[],[]⟩)]).length≤900:=by
     rw[List.length_append];show _+1≤900;omega
    have H6:=zaa R;have C9:=zaa C4;have E2:=zaa B5;have E9:=zaa A7;have E4:=zaa B6;clear D5 M U O R k2 J C4 B5 A7 B6 F1
    gi_wp2_with fail
    refine⟨trivial,(callsIn_wide.2 (zpe (E.heap.size) (C.heap.size+1) (C.heap.size+1+1) _ W5 H6.o E4.o (by have:=C9.o.size;omega))).mono ?_⟩;rintro e W6 ⟨⟨v6,rfl⟩,R,J⟩;have A1:=zaa (C9.o.trans J);have E3:=zaa (J.box D _ E2.o (fun cs fr e=>by cases e) (by omega) (by omega));have F0:=zaa (J.box m _ E9.o (fun cs fr e=>by cases e) (by omega) (by omega));have z:commitS rh ru t=homeS t.data++putS PS (logB t)++[zbm (1+PS.getD (logB t).length 0) (encT ⟨4,t.seq,0,[],[]⟩)]++[zb1]:=by rw[HC.o,if_neg hz,List.append_nil];rfl
    rw[←z]at R;have M5:=zaa z;obtain⟨N0,b6,o6⟩:=R;have G5:=zaa o6;obtain⟨fa,fc,rfl,B1,A2⟩:=SegSt.of_owns o6;have H0:=zaa B1;have N7:=zaa A2;have c6:=b6.cell;have E1:=A1.o.box _ _ KB.o (fun cs fr e=>by simp only[Obj.cells.injEq]at e;exact absurd e.2.1 (by decide)) (by omega) (by omega);have A6:=A1.o.box _ _ KZ.o (fun cs fr e=>by simp only[Obj.cells.injEq]at e;exact absurd e.2.1 (by decide)) (by omega) (by omega);obtain⟨⟨y0,y1⟩,_⟩:=zgr E1;obtain⟨⟨z0,z1⟩,O4,P6⟩:=zgr A6;have G0:=zaa A1.o.size;have I1:=zaa A6;clear J z b6 o6 B1 A2 E1 A6
    gi_wp2
    gi_region
    all_goals
     gi_wp2
     have F2:=zjo I1.o (.int .i64 sH) (.int .i64 sU);have q2:((W6.setCell ⟨w.heap.size+1+1,0,none⟩ (.int .i64 sH)).setCell ⟨w.heap.size+1+1,1,none⟩ (.int .i64 sU)).drew.heap[m]?=some (.deferred (some [])):=(Below.heap_setCell _ _ _ _ (by simp;omega)).trans ((Below.heap_setCell _ _ _ _ (by simp;omega)).trans F0.o);have q1:(((W6.setCell ⟨w.heap.size+1+1,0,none⟩ (.int .i64 sH)).setCell ⟨w.heap.size+1+1,1,none⟩ (.int .i64 sU)).drew.putObj m (.deferred none)).heap[D]?=some (.deferred (some [])):=(World.putObj_heap_other (by omega)).trans ((Below.heap_setCell _ _ _ _ (by simp;omega)).trans ((Below.heap_setCell _ _ _ _ (by simp;omega)).trans E3.o));have H3:C.heap.size+1+1≤W6.heap.size:=by have:=G0.o;omega
     have D3:=ownsRow_putObj (ownsRow_putObj (zah (ownsRow_setCell_below (ownsRow_setCell_below G5.o (a:=⟨w.heap.size+1+1,0,none⟩) (by simp;omega) (.int .i64 sH)) (a:=⟨w.heap.size+1+1,1,none⟩) (by simp;omega) (.int .i64 sU)) (Below.refl _ _).drew) (.deferred none) q2 rfl) (.deferred none) q1 rfl;have G7:=((((B2.o.trans (A1.o.below (by omega) (by omega) (by omega))).setCell (p:=⟨w.heap.size+1+1,0,none⟩) (by simp;omega) (.int .i64 sH)).setCell (p:=⟨w.heap.size+1+1,1,none⟩) (by simp;omega) (.int .i64 sU)).drew.trans (belowK_b (w:=w) (Nat.le_refl _) _ m _ (.deferred none) (by omega) q2 rfl rfl)).trans (belowK_b (w:=w) (Nat.le_refl _) _ D _ (.deferred none) (by omega) q1 rfl rfl);have H7:((((W6.setCell ⟨w.heap.size+1+1,0,none⟩ (.int .i64 sH)).setCell ⟨w.heap.size+1+1,1,none⟩ (.int .i64 sU)).drew.putObj m (.deferred none)).putObj D (.deferred none)).heap[w.heap.size+1+1]?=some (.cells #[.int .i64 sH,.int .i64 sU] 26 (0,0)):=(World.putObj_heap_other (by omega)).trans ((World.putObj_heap_other (by omega)).trans F2);obtain⟨⟨u0,u1⟩,_⟩:=zgr H7;refine⟨by simp,.inl ⟨m,_,rfl,run_takeDeferred q2,?_⟩⟩;refine⟨by simp,.inl ⟨D,_,rfl,run_takeDeferred q1,?_⟩⟩;refine⟨.tuple #[.agg #[.int .i64 sH,.int .i64 sU],.slice fa (commitS rh ru t).length fc,.int .i64 0],by simp[results,results125,go_sem,u0,u1],?_⟩;have E5:=zsb D3 rfl;obtain⟨I0,I3,e9,G9,I6⟩:=SegSt.of_owns D3;obtain⟨rfl,rfl⟩:fa=I0∧fc=I3:=by simpa using e9
     exact⟨fa,fc,by rw[J8.o,L1.o,J9.o],E5,fun b off e=>by have:=I6 b off e;have:=B2.o.size;omega,G9,G7⟩
open Go.RowKit
