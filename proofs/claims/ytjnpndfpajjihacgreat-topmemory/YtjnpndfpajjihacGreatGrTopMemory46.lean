/-
  
-/
import Derived.Test.YtjnpndfpajjihacGreatEPure
import Derived.Test.YtjnpndfpajjihacGreatGrTopMemory45
import Derived.Laws.EntriesVeiled
set_option maxRecDepth 100000
set_option maxHeartbeats 40000000
namespace Go.Proofs.YtjnpndfpajjihacGreat
open Go.RowKit Go.Shelf
attribute [local go_sem] Oper.semAt_some
theorem IsTx.segs {w:World}{t:Tx}{a:Option Addr}{c:Nat}{a':Option Addr}{c':Nat}{r:Option Addr}{d:Nat}(h:IsTx w (.agg #[.int .i64 t.seq,.slice a t.info.length c,.slice a' t.data.length c',.slice r t.rev.length d,.bool t.h0.on,.int .i64 t.h0.left,.bool t.h1.on,.int .i64 t.h1.left,.bool t.h2.on,.int .i64 t.h2.left]) t):
  SegW w a t.info∧t.info.length≤maxLen∧SegW w a' t.data∧t.data.length≤maxLen∧SegI w r t.rev∧t.rev.length≤maxLen:=by
 obtain⟨b0,b1,b2,b3,b4,b5,e,f1,f2,f3,n1,n2,n3⟩:=h;simp only[Value.agg.injEq] at e
 injection e with e
 simp only[List.cons.injEq,Value.slice.injEq,true_and,and_true] at e;obtain⟨⟨rfl,rfl⟩,⟨rfl,rfl⟩,rfl,rfl⟩:=e;exact⟨f1,n1,f2,n2,f3,n3⟩
theorem zzu (rh ru:Int)(v:Value)(t:Tx)(w:World)(hT:IsTx w v t)(r1:t.info.length*24≤140737488355328)(r2:t.data.length*24≤140737488355328)(he:¬sealE rh ru t=0):
  Calls Tryz.prog 125 #[.agg #[.int .i64 rh,.int .i64 ru],v] w fun e w'=>∃a c,e=.returned (.tuple #[.agg #[.int .i64 (zch rh ru t),.int .i64 (zcc rh ru t)],.slice a (commitS rh ru t).length c,.int .i64 (sealE rh ru t)])∧SegSt w' a (commitS rh ru t)∧Below w.heap.size w w':=by
 have HT:=zaa hT;obtain⟨a0,a1,a2,a3,a4,a5,rfl,_,_,_,n1,n2,n3⟩:=hT;have hH:zch rh ru t=rh∧zcc rh ru t=ru∧sealP rh ru t=[]∧commitS rh ru t=[]:=by simp[zch,zcc,sealP,commitS,he]
 have HH:=zaa hH;have heb:(sealE rh ru t !=0)=true:=by simpa using he
 go_enter Tryz.func125,Tryz.ntmps125;go_wp2_with fail;refine(zue rh ru _ t _ (HT.o.below (zae (zae (zab _ _) (zab _ _)) (zab _ _))) r1 r2).mono ?_;rintro e w1 ⟨a,c,rfl,_,hb1⟩;obtain⟨K1,K2,K3,hs1⟩:=zjt hb1;have hs1':w.heap.size<w1.heap.size:=by omega
 have hs1a:w.heap.size+1+1<w1.heap.size+1:=by omega
 have HB1:=zaa (zae (zae (zae (zab _ _) (zab _ _)) (zab _ _)) hb1);obtain⟨⟨r0,r1'⟩,_⟩:=zfl K1;obtain⟨⟨y0,y1⟩,f0,f1⟩:=zfl K3;clear K1 K2 K3 hb1 hH;go_wp2;refine bodyPost_ret (v:=.tuple #[.agg #[.int .i64 rh,.int .i64 ru],.slice none 0 0,.int .i64 (sealE rh ru t)]) (by simp[results,Tryz.results125,go_sem,hs1,hs1a,y0,y1]) rfl ⟨none,0,by rw[HH.o.1,HH.o.2.1,HH.o.2.2.2];rfl,.inl HH.o.2.2.2,?_⟩;refine Below.alloc (Below.alloc ?_ ?_ _) ?_ _
 ·refine Below.setCell (Below.setCell HB1.o ?_ _) ?_ _
  ·simp;omega
  ·simp;omega
 ·simp;omega
 ·simp;omega
theorem Fr.weak {Bs Bp base:Nat}{w w':World}(h:Fr Bs Bs base w w'):Fr Bs Bp base w w':=
 ⟨h.os,h.tape,h.output,h.size,fun k hk _ n2=>h.low k hk n2 n2,fun k o ho hn n1 _=>h.box k o ho hn n1 n1⟩
theorem PlacesAt.fr {w w':World}{base Bs Bp:Nat}{l:List Int}(h:PlacesAt w base Bp l)(hf:Fr Bs Bs base w w')(h1:Bp≠Bs)(h2:base≤Bs):PlacesAt w' base Bp l:=by
 obtain⟨a,c,b1,s1,p1,r⟩:=h;refine⟨a,c,hf.boxed b1 (by decide) h1 h1,?_,p1,r⟩;rcases s1 with e|⟨b,off,rfl,hlt,hc⟩
 ·exact .inl e
 ·have hk:=(p1 b off rfl).1
  exact .inr ⟨b,off,rfl,Nat.lt_of_lt_of_le hlt hf.size,fun i hi=>(World.cell?_of_block (w:=w) (a:=⟨b,off+i,none⟩) (hf.low b hk (by omega) (by omega))).trans (hc i hi)⟩
theorem zzv {w w':World}{b Bs Bp base:Nat}{e:TypeId}{size n:Nat}{v:Value}{xs:List Value}(h:w.ownsRow b e size v n xs)(hf:Fr Bs Bp base w w')(he:e≠124)(h1:Bs<b)(h2:Bp<b):w'.ownsRow b e size v n xs:=by
 refine⟨h.1,?_⟩;rcases h.2 with h0|⟨g,cap,cur,hv,hg,hh,r⟩
 ·exact .inl h0
 ·exact .inr ⟨g,cap,cur,hv,hg,hf.box g _ hh (fun cs fr e'=>by simp only[Obj.cells.injEq] at e';exact he e'.2.1) (by omega) (by omega),r⟩
theorem SegW.low {w W0 w':World}{a:Option Addr}{l:List (Int×ByteArray)}{Bs Bp base:Nat}(h:SegW w a l)(hb:Below w.heap.size w W0)(hf:Fr Bs Bp base W0 w')(h1:w.heap.size≤base)(h2:w.heap.size≤Bp)(h3:w.heap.size≤Bs):SegW w' a l:=by
 rcases h with h|⟨b,off,rfl,hlt,hc⟩
 ·exact .inl h
 ·have hk:=(hf.low b (by omega) (by omega) (by omega)).trans (hb.block b hlt)
  exact .inr ⟨b,off,rfl,Nat.lt_of_lt_of_le (Nat.lt_of_lt_of_le hlt hb.size) hf.size,fun i hi=>⟨(World.cell?_of_block (w:=w) (a:=⟨b,off+i*2,none⟩) hk).trans (hc i hi).1,(World.cell?_of_block (w:=w) (a:=⟨b,off+i*2+1,none⟩) hk).trans (hc i hi).2⟩⟩
theorem zzw {w:World}{b off:Nat}{l:List (Int×ByteArray)}(h:SegW w (some ⟨b,off,none⟩) l)(k:Nat):SegW w (some ⟨b,off+10*k*2,none⟩) (partOf l k):=by
 rcases h with e|⟨b',off',e,hlt,hc⟩
 ·left;rw[e,partOf];simp
 ·cases e
  refine .inr ⟨b,off+10*k*2,rfl,hlt,fun i hi=>?_⟩;have hi2:i<10∧10*k+i<l.length:=by rw[partOf,List.length_take,List.length_drop] at hi;omega
  have e1:(partOf l k).getD i (0,ByteArray.empty)=l.getD (10*k+i) (0,ByteArray.empty):=by
   rw[List.getD,List.getD,partOf,List.getElem?_take,if_pos hi2.1,List.getElem?_drop]
  have:=hc (10*k+i) hi2.2;rw[e1,show off+10*k*2+i*2=off+(10*k+i)*2 from by omega];exact this
theorem zw1 (q:Int)(l:List (Int×ByteArray)){j k:Nat}(h:j≤k):(zhq q l j).length≤(zhq q l k).length:=by
 induction h with
 |refl=>exact Nat.le_refl _
 |step h ih=>rw[zfg,List.length_append];omega
theorem zzx (l:List ByteArray){j:Nat}(h:j<l.length):l.take (j+1)=l.take j++[l.getD j ByteArray.empty]:=by
 rw[List.take_add_one,zcb l j ByteArray.empty h];rfl
theorem zw2 {l:List (Int×ByteArray)}{k:Nat}{x:Int×ByteArray}(h:x∈partOf l k):x∈l:=List.mem_of_mem_drop (List.mem_of_mem_take h)
theorem zzy (rh ru:Int)(t:Tx)(a0 a2 a4:Option Addr)(a1 a3 a5:Nat)(w:World)(hT:IsTx w (.agg #[.int .i64 t.seq,.slice a0 t.info.length a1,.slice a2 t.data.length a3,.slice a4 t.rev.length a5,.bool t.h0.on,.int .i64 t.h0.left,.bool t.h1.on,.int .i64 t.h1.left,.bool t.h2.on,.int .i64 t.h2.left]) t)(hci:t.info.length≤a1)(hcr:t.rev.length≤a5)(he:sealE rh ru t=0):
  Calls Tryz.prog 125 #[.agg #[.int .i64 rh,.int .i64 ru],.agg #[.int .i64 t.seq,.slice a0 t.info.length a1,.slice a2 t.data.length a3,.slice a4 t.rev.length a5,.bool t.h0.on,.int .i64 t.h0.left,.bool t.h1.on,.int .i64 t.h1.left,.bool t.h2.on,.int .i64 t.h2.left]] w fun e w'=>∃a c,e=.returned (.tuple #[.agg #[.int .i64 (zch rh ru t),.int .i64 (zcc rh ru t)],.slice a (commitS rh ru t).length c,.int .i64 (sealE rh ru t)])∧(commitS rh ru t).length≤c∧(∀b off,a=some ⟨b,off,none⟩→w.heap.size≤b)∧SegSt w' a (commitS rh ru t)∧Below w.heap.size w w':=by
 have HT:=zaa hT;obtain⟨hM,n1,hD,n2,hR,n3⟩:=IsTx.segs hT;obtain⟨hg,_,hPl,hPb⟩:=zlh he;have HPL:=zaa hPl;have HPB:=zaa hPb;have HG:=zaa hg;have hsm:=zaw hg;have hg':=(za7 t).1 hg;have hbd:∀x∈t.data,0≤x.1∧x.1≤11:=fun x hx=>((za8 _).1 hg'.2.2.1.2.1).1 x.1 (List.mem_map.2 ⟨x,hx,rfl⟩);have HBD:=zaa hbd;have HCI:=zaa hci;have HCR:=zaa hcr;have HM:=zaa hM;have HD:=zaa hD;have HR:=zaa hR;have HC:Hid (commitS rh ru t=(homeS t.data++putS (sealP rh ru t) (logB t)++(if 0<t.rev.length+t.info.length then[zby] else[]))++[zbh (1+(sealP rh ru t).getD (logB t).length 0) (zkj t)]++[zby]):=by rw[Hid,commitS,if_pos he]
 have hhl:(homeS t.data).length≤13:=by
  rw[homeS,List.length_append,zcf];split<;>simp<;>omega
 have HHL:=zaa hhl
 have hnl:(logB t).length≤20:=by
  have:=zel t hsm.1 hsm.2.2;have h2:needN (t.info.length:Int) (t.rev.length:Int)≤20:=by unfold needN;split<;>(try split)<;>(try split)<;>(try split)<;>omega
  omega
 have HNL:=zaa hnl;clear hPl hPb hg' hbd hci hcr hM hD hR n1 n2 n3 hT hhl hg hnl;refine(callsIn_wide (n:=9)).1 ?_;refine callsIn_of_wp_marks Tryz.func125 rfl trivial ?_ rfl;simp only[Tryz.ntmps125,List.size_toArray,List.length_cons,List.length_nil,Nat.reduceAdd,Nat.reduceSub,Array.replicate_succ,Array.replicate_zero,List.push_toArray,List.append_toArray,List.nil_append,List.cons_append]
 gi_wp2_with fail
 refine⟨trivial,(callsIn_wide.2 (zue rh ru _ t _ (HT.o.below (zae (zae (zab _ _) (zab _ _)) (zab _ _))) (by omega) (by omega))).mono ?_⟩;rintro e w1 ⟨pa,pc,rfl,hP,hb1⟩;rw[he];obtain⟨K1,K2,K3,hs1⟩:=zjt hb1;have KT:=zaa K2;have KZ:=zaa K3;have HB1:=zaa (zae (zae (zae (zab _ _) (zab _ _)) (zab _ _)) hb1);have HP:=zaa hP;have hsz1:w.heap.size<w1.heap.size:=by omega
 have hsz1':w.heap.size+1<w1.heap.size:=by omega
 obtain⟨⟨x0,x1,x2,x3,x4,x5,x6,x7,x8,x9⟩,_⟩:=zai K2;have HE0:=zaa he;clear K1 K2 K3 hP he;generalize sealP rh ru t=PS at *;generalize hsH:zch rh ru t=sH at *;generalize hsU:zcc rh ru t=sU at *;have HSH:=zaa hsH;have HSU:=zaa hsU;clear hsH hsU
 gi_wp2_with fail
 refine⟨trivial,(callsIn_wide.2 (zub a2 a3 t.data _ ((HD.o.below HB1.o).below (zae (zab _ _) (zab _ _))) (by omega) HBD.o)).mono ?_⟩;rintro e w2 ⟨v2,rfl,hO2,hb2⟩;have KB:=zaa (zf9 hb2);have KP:=zaa (zg3 hb2);have hb12:Below w1.heap.size w1 w2:=zae (zae (zab _ _) (zab _ _)) hb2
 replace KT:=zaa (zad hb12 hsz1' KT.o)
 replace KZ:=zaa (zad hb12 hs1 KZ.o)
 have HS:=zaa (HP.o.1.below hb12);have HO:Hid (w2.ownsRow (w1.heap.size+1+1) 124 3 v2 (homeS t.data).length (cellsSt (homeS t.data))):=zaa (by simpa using hO2);have HB2:=zaa (zae HB1.o hb12);have hsz2:w1.heap.size+1<w2.heap.size:=by have:=hb2.size;simp at this;omega
 obtain⟨ha,hc,rfl,_,_⟩:=SegSt.of_owns hO2;clear hb2 hb12 hO2 x0 x1 x2 x3 x4 x5 x6 x7 x8 x9;have hsz2a:w.heap.size+1<w2.heap.size:=by omega
 have hsz2b:w.heap.size+1<w2.heap.size+1:=by omega
 have hsz2c:w.heap.size+1<w2.heap.size+1+1:=by omega
 obtain⟨⟨x0,x1,x2,x3,x4,x5,x6,x7,x8,x9⟩,_⟩:=zai KT.o
 gi_wp2_with fail
 obtain⟨W0,hW0⟩:∃W0,W0=((w2.alloc (Obj.cells #[.slice ha (homeS t.data).length hc] 91)).alloc (Obj.cells #[.func (.func 165) #[] #[.pointer (some ⟨w2.heap.size,0,none⟩),.pointer (some ⟨w1.heap.size+1,0,none⟩)]] 229)).alloc (Obj.cells #[.func (.func 166) #[] #[.pointer (some ⟨w.heap.size+1,0,none⟩),.pointer (some ⟨w2.heap.size+1,0,none⟩)]] 230):=⟨_,rfl⟩;have hb20:Below w2.heap.size w2 W0:=by rw[hW0];exact zae (zae (zab _ _) (zab _ _)) (zab _ _)
 have hz0:W0.heap.size=w2.heap.size+1+1+1:=by rw[hW0];simp
 have hthree:W0.heap[w2.heap.size]?=some (Obj.cells #[.slice ha (homeS t.data).length hc] 91)∧W0.heap[w2.heap.size+1]?=some (Obj.cells #[.func (.func 165) #[] #[.pointer (some ⟨w2.heap.size,0,none⟩),.pointer (some ⟨w1.heap.size+1,0,none⟩)]] 229)∧W0.heap[w2.heap.size+1+1]?=some (Obj.cells #[.func (.func 166) #[] #[.pointer (some ⟨w.heap.size+1,0,none⟩),.pointer (some ⟨w2.heap.size+1,0,none⟩)]] 230)∧w2.heap.size+1+1<W0.heap.size:=by rw[hW0];exact zjt (Below.refl _ _)
 rw[←hW0];clear hW0 x0 x1 x2 x3 x4 x5 x6 x7 x8 x9;have bS:Hid (Boxed W0 (w2.heap.size) 91 (.slice ha (homeS t.data).length hc)):=hthree.1;have bE:Hid (Boxed W0 (w2.heap.size+1) 229 (.func (.func 165) #[] #[.pointer (some ⟨w2.heap.size,0,none⟩),.pointer (some ⟨w1.heap.size+1,0,none⟩)])):=hthree.2.1;have bM:Hid (Boxed W0 (w2.heap.size+1+1) 230 (.func (.func 166) #[] #[.pointer (some ⟨w.heap.size+1,0,none⟩),.pointer (some ⟨w2.heap.size+1,0,none⟩)])):=hthree.2.2.1
 have hLS:StepsAt W0 (w1.heap.size+1+1) (w2.heap.size) (homeS t.data++putS PS []):=by
  rw[show putS PS []=[] from by simp[putS],List.append_nil];exact⟨_,bS.o,zah HO.o hb20⟩
 have hLP:PlacesAt W0 (w1.heap.size+1+1) (w1.heap.size+1) (PS.drop ([]:List ByteArray).length):=by
  refine⟨pa,pc,zad hb20 hsz2 KP.o,HS.o.below hb20,?_,HP.o.2.2,?_⟩
  ·intro b off e
   rcases HP.o.1 with e0|⟨b',off',e',hlt,_⟩
   ·have:=HPL.o;rw[e0] at this;simp at this
   ·rw[e] at e';cases e';omega
  ·intro e
   rcases HP.o.1 with e0|⟨b',off',e',hlt,_⟩
   ·exact e0
   ·rw[e] at e';cases e'
 have HLOG:Hid (LogAt W0 (w1.heap.size+1+1) (w2.heap.size) (w1.heap.size+1) (homeS t.data) PS []):=⟨hLS,hLP,Nat.zero_le _⟩
 replace KT:=zaa (zad hb20 hsz2a KT.o)
 replace KZ:=zaa (zad hb20 (by omega) KZ.o)
 replace KB:=zaa (zad hb20 (by omega) KB.o)
 have HB0:=zaa (zae HB2.o hb20);have hbz:w1.heap.size+1+1≤W0.heap.size:=by omega
 have HZ0:=zaa hz0;clear hb20 hthree hLS hLP HO HS HP KP bS hz0;refine⟨trivial,(zzs Fence.wide 8 trivial rfl a4 t.rev.length a5 W0).mono ?_⟩;rintro e W1 ⟨rfl,hW1⟩;have hb01:Below W0.heap.size W0 W1:=by rw[hW1];exact zae (zab _ _) (zab _ _)
 have hz1:W1.heap.size=W0.heap.size+1+1:=by rw[hW1];simp
 have cS:Boxed W1 W0.heap.size 35 (.slice a4 t.rev.length a5):=by rw[hW1];exact zf9 (Below.refl _ _)
 have cN:Boxed W1 (W0.heap.size+1) 3 (.int .i64 20):=by rw[hW1];exact zg3 (Below.refl _ _)
 have HZ1:=zaa hz1;clear hW1 hz1;have hcap1:0<t.rev.length→t.rev.length≤a5:=fun _=>HCR.o
 have haddr1:0<t.rev.length→∃b off,a4=some ⟨b,off,none⟩:=fun hp=>by
  rcases HR.o with e|⟨b,off,e,_⟩
  ·rw[e] at hp;simp at hp
  ·exact⟨b,off,e⟩
 have HA1:=zaa haddr1;have HC1:=zaa hcap1;clear haddr1 hcap1
 gi_wp2_with fail
 refine ziv (F:=Fence.wide) (n:=9) rfl (by decide) (gf:=200) (lb:=#[.pointer (some ⟨W0.heap.size,0,none⟩),.pointer (some ⟨W0.heap.size+1,0,none⟩)]) rfl trivial (enters_of Tryz.func200 (by kernel_rfl) rfl)
  (zo5 Fence.wide 8 trivial rfl (by decide) W0.heap.size (W0.heap.size+1) t.rev.length a5 a4 (by omega) HC1.o HA1.o W1 cS cN) (Below.refl _ _) KeepsB.trans KeepsB.put (fun _=>rfl)
  (fun k W=>LogAt W (w1.heap.size+1+1) (w2.heap.size) (w1.heap.size+1) (homeS t.data) PS (if k=0 then[] else zvv t)∧Fr (w2.heap.size) (w1.heap.size+1) (w1.heap.size+1+1) W0 W∧Boxed W W0.heap.size 35 (.slice a4 t.rev.length a5)∧Boxed W (W0.heap.size+1) 3 (.int .i64 20))
  ?own ?drew ?start ?a1 ?assign ?body ?done
 case own=>
  intro k A B row hI hgr hr;have hr2:∀r,row=some r→∃o:Obj,A.heap[r]?=some o∧o.isCells=false:=fun r e=>(hr r e).2;refine⟨hI.1.kept hgr hr2,hI.2.1.kept hgr (fun r e=>by have:=(hr r e).1;have:=HZ1.o;omega) hbz,hI.2.2.1.kept hgr ?_,hI.2.2.2.kept hgr ?_⟩
  ·intro e;obtain⟨o,ho,hc⟩:=hr2 _ e.symm;rw[show A.heap[W0.heap.size]?=_ from hI.2.2.1] at ho;cases ho;cases hc
  ·intro e;obtain⟨o,ho,hc⟩:=hr2 _ e.symm;rw[show A.heap[W0.heap.size+1]?=_ from hI.2.2.2] at ho;cases ho;cases hc
 case drew=>
  intro k V hI;exact⟨hI.1.below (Below.refl _ _).drew,hI.2.1.trans (Fr.of_below (Below.refl _ _).drew (by have:=hI.2.1.size;omega)),hI.2.2.1,hI.2.2.2⟩
 case start=>
  refine⟨?_,Fr.of_below hb01 hbz,cS,cN⟩;rw[if_pos rfl];exact HLOG.o.below hb01
 case assign=>
  intro l k W K hK
  gi_wp2
  exact hK
 case body=>
  intro l k W hk hI;obtain⟨hL,hF,c1,c2⟩:=hI;have hk0:k=0∧0<t.rev.length:=by unfold zcy at hk;omega
  obtain⟨rfl,hp⟩:=hk0;obtain⟨b,off,rfl⟩:=HA1.o hp;have hpl:ze7 t.rev.length 20 0=t.rev.length:=by unfold ze7;split<;>omega
  have bMw:=(hF.boxed bM.o (by decide) (by omega) (by omega)).cell;rw[if_pos rfl] at hL;have hW0:=hF.size;have hps:([]:List ByteArray).length<PS.length:=by have:=HPL.o;simp;omega
  have hsg:SegI W (some ⟨b,off,none⟩) t.rev:=by
   have hlt:=HR.o;rcases hlt with e|⟨b',off',e,hl,hc⟩
   ·exact .inl e
   ·cases e
    refine .inr ⟨b,off,rfl,Nat.lt_of_lt_of_le (Nat.lt_of_lt_of_le hl HB0.o.size) hF.size,fun i hi=>?_⟩;have hbw:b<w.heap.size:=hl;exact(World.cell?_of_block (w:=W0) (a:=⟨b,off+i,none⟩) (hF.low b (by omega) (by omega) (by omega))).trans (zac HB0.o hl (hc i hi))
  have hnl:=HNL.o;have hKT:=hF.box _ _ KT.o (fun cs fr e=>by simp only[Obj.cells.injEq] at e;exact absurd e.2.1 (by decide)) (by omega) (by omega);have hsq:=(zai hKT).1.1;have hen:=(hF.boxed bE.o (by decide) (by omega) (by omega)).cell
  have hpl2:PlacesAt W (w1.heap.size+1+1) (w1.heap.size+1) (PS.getD ([]:List ByteArray).length 0::PS.drop (([]:List ByteArray).length+1)):=by
   have:=hL.2.1;rw[ziy hps] at this;exact this
  have hln:(homeS t.data++putS PS ([])).length≤900:=by
   rw[List.length_append,zdz (Nat.le_of_lt hps)];have:=HHL.o;have:=HPL.o;omega
  gi_wp2_with fail
  refine⟨trivial,(CallsIn.inRound l (callsIn_wide.2 (zjc (w2.heap.size) (w1.heap.size+1) (w1.heap.size+1+1) (w.heap.size+1) (w2.heap.size+1) (homeS t.data++putS PS ([])) (PS.getD ([]:List ByteArray).length 0) (PS.drop (([]:List ByteArray).length+1)) ⟨3,0,0,[],t.rev⟩ _ t.seq W ⟨none,0,some ⟨b,off,none⟩,_,rfl,.inl rfl,hsg,Nat.zero_le _,by show t.rev.length≤maxLen;unfold maxLen;omega⟩ hsq (by have:=hF.size;have:=HZ0.o;omega) hen (by have:=hF.size;have:=HZ0.o;omega) hL.1 hpl2 hln (by have:=HPL.o;have:=hnl;simp;omega) (HPB.o _).1 (HPB.o _).2 (by have:=hF.size;omega) (by omega) (by omega)))).mono ?_⟩;rintro e W' ⟨⟨v,rfl⟩,k1,k2,k3⟩;clear hKT hsq hen hpl2 hln
  gi_wp2
  have hz:=HZ0.o;refine⟨k3.others hL.1.boxed hL.2.1.boxed,KeepsB.of_fr k3 c1 c2 (by decide) (by decide) (by omega) (by omega) (by omega) (by omega),?_,hF.trans k3,k3.boxed c1 (by decide) (by omega) (by omega),k3.boxed c2 (by decide) (by omega) (by omega)⟩;rw[zvv,if_neg (by omega)];exact LogAt.next (d:=[]) hps k1 k2
 case done=>
  intro D W hD hI hK;obtain⟨hL,hF,_,_⟩:=hI
  have hL2:LogAt W (w1.heap.size+1+1) (w2.heap.size) (w1.heap.size+1) (homeS t.data) PS (zvv t):=by
   by_cases h0:t.rev.length=0
   ·have e1:zcy t.rev.length 20=0:=by rw[h0];rfl
    have e2:zvv t=[]:=by rw[zvv,if_pos h0]
    rw[e1,if_pos rfl] at hL;rw[e2];exact hL
   ·have e1:zcy t.rev.length 20≠0:=by unfold zcy;omega
    rw[if_neg e1] at hL;exact hL
  have HLW:=zaa hL2;have HFW:=zaa hF;have HKD:=zaa hK;have hDs:D<W.heap.size:=(Array.getElem?_eq_some_iff.1 hK).1;have hW0s:=hF.size;have hDz:W0.heap.size<D:=by have:=HZ1.o;omega
  have hKT:=hF.box _ _ KT.o (fun cs fr e=>by simp only[Obj.cells.injEq] at e;exact absurd e.2.1 (by decide)) (by omega) (by omega);obtain⟨⟨x0,x1,x2,x3,x4,x5,x6,x7,x8,x9⟩,_⟩:=zai hKT;clear hL hL2 hF hK hKT cS cN hb01 HLOG
  gi_wp2_with fail
  refine⟨trivial,(zzt Fence.wide 8 trivial rfl a0 t.info.length a1 W).mono ?_⟩;rintro e W2 ⟨rfl,hW2⟩;have hb02:Below W.heap.size W W2:=by rw[hW2];exact zae (zab _ _) (zab _ _)
  have hz2:W2.heap.size=W.heap.size+1+1:=by rw[hW2];simp
  have dS:Boxed W2 W.heap.size 34 (.slice a0 t.info.length a1):=by rw[hW2];exact zf9 (Below.refl _ _)
  have dN:Boxed W2 (W.heap.size+1) 3 (.int .i64 10):=by rw[hW2];exact zg3 (Below.refl _ _)
  have HZ2:=zaa hz2;clear hW2 hz2 x0 x1 x2 x3 x4 x5 x6 x7 x8 x9
  have haddr2:0<t.info.length→∃b off,a0=some ⟨b,off,none⟩:=fun hp=>by
   rcases HM.o with e|⟨b,off,e,_⟩
   ·rw[e] at hp;simp at hp
   ·exact⟨b,off,e⟩
  have HA2:=zaa haddr2;clear haddr2
  gi_wp2_with fail
  refine ziv (F:=Fence.wide) (n:=9) rfl (by decide) (gf:=201) (lb:=#[.pointer (some ⟨W.heap.size,0,none⟩),.pointer (some ⟨W.heap.size+1,0,none⟩)]) rfl trivial (enters_of Tryz.func201 (by kernel_rfl) rfl)
   (zo6 Fence.wide 8 trivial rfl (by decide) W.heap.size (W.heap.size+1) t.info.length a1 a0 (by omega) (fun _=>HCI.o) HA2.o W2 dS dN) (Below.refl _ _) KeepsB.trans KeepsB.put (fun _=>rfl)
   (fun k V=>LogAt V (w1.heap.size+1+1) (w2.heap.size) (w1.heap.size+1) (homeS t.data) PS (zvv t++zhq t.seq t.info k)∧Fr (w2.heap.size) (w1.heap.size+1) (w1.heap.size+1+1) W0 V∧Boxed V W.heap.size 34 (.slice a0 t.info.length a1)∧Boxed V (W.heap.size+1) 3 (.int .i64 10)∧V.heap[D]?=some (.deferred (some [])))
   ?own2 ?drew2 ?start2 ?a2 ?assign2 ?body2 ?done2
  case own2=>
   intro k A B row hI hgr hr;have hr2:∀r,row=some r→∃o:Obj,A.heap[r]?=some o∧o.isCells=false:=fun r e=>(hr r e).2;have hz2:=HZ2.o;refine⟨hI.1.kept hgr hr2,hI.2.1.kept hgr (fun r e=>by have:=(hr r e).1;omega) hbz,hI.2.2.1.kept hgr ?_,hI.2.2.2.1.kept hgr ?_,(hgr.block D (Array.getElem?_eq_some_iff.1 hI.2.2.2.2).1 (fun e=>by have:=(hr D e.symm).1;omega)).trans hI.2.2.2.2⟩
   ·intro e;obtain⟨o,ho,hc⟩:=hr2 _ e.symm;rw[show A.heap[W.heap.size]?=_ from hI.2.2.1] at ho;cases ho;cases hc
   ·intro e;obtain⟨o,ho,hc⟩:=hr2 _ e.symm;rw[show A.heap[W.heap.size+1]?=_ from hI.2.2.2.1] at ho;cases ho;cases hc
  case drew2=>
   intro k V hI;exact⟨hI.1.below (Below.refl _ _).drew,hI.2.1.trans (Fr.of_below (Below.refl _ _).drew (by have:=hI.2.1.size;omega)),hI.2.2.1,hI.2.2.2.1,hI.2.2.2.2⟩
  case start2=>
   refine⟨?_,HFW.o.trans (Fr.of_below hb02 (by omega)),dS,dN,zad hb02 hDs HKD.o⟩;rw[show zhq t.seq t.info 0=[] from rfl,List.append_nil];exact HLW.o.below hb02
  case assign2=>
   intro l k V K hK
   gi_wp2
   exact hK
  case body2=>
   intro l k V hk hI;obtain⟨hL,hF,c1,c2,hKD⟩:=hI;have hp:0<t.info.length:=by unfold zcy at hk;omega
   obtain⟨b,off,rfl⟩:=HA2.o hp;have hVs:=hF.size;have hsgP:SegW V (some ⟨b,off+10*k*2,none⟩) (partOf t.info k):=zzw (HM.o.low HB0.o hF (by omega) (by omega) (by omega)) k;have hplen:=zfu t.info k
   have hpsz:∀x∈partOf t.info k,x.2.size≤maxLen:=by
    intro x hx;have hg':=((za7 t).1 HG.o).2.1.1;unfold zb4 at hg';have:=List.all_eq_true.1 hg' x (zw2 hx);simp[za9] at this;unfold maxLen;omega
   have hpl10:(partOf t.info k).length≤10:=by rw[partOf,List.length_take];omega
   have hmono:=zw1 t.seq t.info (show k+1≤zcy t.info.length 10 by omega);have hdd:(zvv t).length+(zhq t.seq t.info (k+1)).length≤(logB t).length:=by rw[logB,List.length_append];omega
   have hsucc:=zfg t.seq t.info k;obtain⟨dd,hddE⟩:∃dd,dd=zvv t++zhq t.seq t.info k:=⟨_,rfl⟩;have hdl0:dd.length+(zp8 t.seq t.info k).length≤(logB t).length:=by rw[hddE,List.length_append];rw[hsucc,List.length_append] at hdd;omega
   have HEND:Hid (zvv t++zhq t.seq t.info (k+1)=dd++[encT ⟨2,t.seq,0,tagsOf (partOf t.info k),[]⟩]++textsOf (partOf t.info k)):=by
    rw[Hid,hsucc,←List.append_assoc,←hddE,zp8];simp
   rw[←hddE] at hL
   have HPBL:Hid (dd.length+(1+(textsOf (partOf t.info k)).length)≤(logB t).length):=by
    have hpB:(zp8 t.seq t.info k).length=1+(textsOf (partOf t.info k)).length:=by rw[zp8,List.length_cons];omega
    rw[Hid,←hpB];exact hdl0
   clear hdl0;have HSG:=zaa hsgP;have HSZ:=zaa hpsz;have HLV:=zaa hL;have HFV:=zaa hF;clear hsgP hpsz hmono hdd hsucc hddE hL hF;rw[←hplen];clear hplen;generalize partOf t.info k=part at *
   gi_wp2_with fail
   refine⟨trivial,(CallsIn.inRound l (callsIn_wide.2 (zmg (some ⟨b,off+10*k*2,none⟩) part.length part V HSG.o (by omega) HSZ.o))).mono ?_⟩;rintro e V1 ⟨v1,v2,rfl,hG,hTx,hb1⟩;have hL1:=HLV.o.below hb1;have hF1:=HFV.o.trans (Fr.of_below hb1 (by omega));have hf01:Fr (w2.heap.size) (w1.heap.size+1) (w1.heap.size+1+1) V V1:=Fr.of_below hb1 (by omega);obtain⟨ga,gc,rfl,hGs,_⟩:=SegG.of_owns hG;obtain⟨ta,tc,hte,hTs,_⟩:=SegX.of_owns hTx;subst hte;have HTL:Hid ((textsOf part).length=part.length):=by rw[Hid,textsOf,List.length_map]
   have HGL:Hid ((tagsOf part).length=part.length):=by rw[Hid,tagsOf,List.length_map]
   have hdl:dd.length<PS.length:=by have:=HPL.o;have:=HPBL.o;omega
   have HDL:=zaa hdl;have hnl:=HNL.o;have hKT:=hF1.box _ _ KT.o (fun cs fr e=>by simp only[Obj.cells.injEq] at e;exact absurd e.2.1 (by decide)) (by omega) (by omega);have hsq:=(zai hKT).1.1;have hen:=(hF1.boxed bE.o (by decide) (by omega) (by omega)).cell
   have hpl2:PlacesAt V1 (w1.heap.size+1+1) (w1.heap.size+1) (PS.getD (dd).length 0::PS.drop ((dd).length+1)):=by
    have:=hL1.2.1;rw[ziy hdl] at this;exact this
   have hln:(homeS t.data++putS PS (dd)).length≤900:=by
    rw[List.length_append,zdz (Nat.le_of_lt hdl)];have:=HHL.o;have:=HPL.o;omega
   have hmk:=(hF1.boxed bM.o (by decide) (by omega) (by omega)).cell
   gi_wp2_with fail
   refine⟨trivial,(CallsIn.inRound l (callsIn_wide.2 (zjc (w2.heap.size) (w1.heap.size+1) (w1.heap.size+1+1) (w.heap.size+1) (w2.heap.size+1) (homeS t.data++putS PS (dd)) (PS.getD (dd).length 0) (PS.drop ((dd).length+1)) ⟨2,0,0,tagsOf part,[]⟩ _ t.seq V1 ⟨ga,gc,none,0,rfl,hGs,.inl rfl,by show(tagsOf part).length≤maxLen;rw[HGL.o];unfold maxLen;omega,Nat.zero_le _⟩ hsq (by have:=hF1.size;have:=HZ0.o;omega) hen (by have:=hF1.size;have:=HZ0.o;omega) hL1.1 hpl2 hln (by have:=HPL.o;have:=hnl;simp;omega) (HPB.o _).1 (HPB.o _).2 (by have:=hF1.size;omega) (by omega) (by omega)))).mono ?_⟩;rintro e V2 ⟨⟨v,rfl⟩,k1,k2,k3⟩;have hL2:LogAt V2 (w1.heap.size+1+1) (w2.heap.size) (w1.heap.size+1) (homeS t.data) PS (dd++[encT ⟨2,t.seq,0,tagsOf part,[]⟩]):=LogAt.next hdl k1 k2;have hF2:=hF1.trans k3;have hTx2:z2r V2 V.heap.size (.slice ta (textsOf part).length tc) (textsOf part):=zzv hTx k3 (by decide) (by have:=HZ0.o;omega) (by omega);have HL2:=zaa hL2;have HF2:=zaa hF2;have HF02:=zaa (hf01.trans k3);have HTX:=zaa hTx2;have hV1s:=hb1.size;clear hKT hsq hen hpl2 hln hmk k1 k2 hL2 hF2 hL1 hF1 hf01 hTx hTx2 hG hGs hTs HGL
   have HD2:Hid ((dd++[encT ⟨2,t.seq,0,tagsOf part,[]⟩]).length+(textsOf part).length<PS.length):=by
    rw[Hid,List.length_append];have:=HPBL.o;have:=HPL.o;simp;omega
   have hTXb:(textsOf part).length≤20:=by have:=HPBL.o;have:=HNL.o;omega
   clear hdl HDL HPBL HTL;generalize dd++[encT ⟨2,t.seq,0,tagsOf part,[]⟩]=d2 at *;generalize textsOf part=TX at *
   gi_wp2
   gi_loopw [60] (fun i wr=>∃j:Nat,j≤TX.length∧i=.int .i64 j∧Hid (LogAt wr (w1.heap.size+1+1) (w2.heap.size) (w1.heap.size+1) (homeS t.data) PS (d2++TX.take j))∧Hid (Fr (w2.heap.size) (w1.heap.size+1) (w1.heap.size+1+1) V2 wr)) (fun i _=>TX.length - (intOf i).toNat)
   case atStart=>exact⟨0,Nat.zero_le _,rfl,by rw[List.take_zero,List.append_nil];exact HL2,(Fr.of_below (Below.refl _ _) (by have:=HF2.o.size;omega))⟩
   case round=>
    obtain⟨j,hj,rfl,hLr,hFr⟩:=hrel;have hV2s:=HF2.o.size;by_cases hlt:j<TX.length
    ·have hlt':(j:Int)<(TX.length:Int):=by omega
     have hTr:z2r wr V.heap.size (.slice ta TX.length tc) TX:=zzv HTX.o hFr.o (by decide) (by have:=HZ0.o;omega) (by omega);obtain⟨ta',tc',ee,hS,_⟩:=SegX.of_owns hTr;obtain⟨rfl,rfl⟩:ta=ta'∧tc=tc':=by simpa using ee
     obtain⟨b2,off2,rfl,hb2,hc2⟩:=hS.resolve_left (by intro e;rw[e] at hlt;simp at hlt);have hcell:=hc2 j hlt;have hen:=((HF2.o.trans hFr.o).boxed bE.o (by decide) (by omega) (by omega)).cell;have hdl:(d2++TX.take j).length<PS.length:=by rw[List.length_append,List.length_take];have:=HD2.o;omega
     have hpl2:PlacesAt wr (w1.heap.size+1+1) (w1.heap.size+1) (PS.getD (d2++TX.take j).length 0::PS.drop ((d2++TX.take j).length+1)):=by
      have:=hLr.o.2.1;rw[ziy hdl] at this;exact this
     have hln:(homeS t.data++putS PS (d2++TX.take j)).length≤900:=by
      rw[List.length_append,zdz (Nat.le_of_lt hdl)];have:=HHL.o;have:=HPL.o;have:=HNL.o;omega
     have HDL:=zaa hdl;have HPL2:=zaa hpl2;have HLN:=zaa hln;have HTN:=zaa (zzx TX hlt);clear hTr hS hc2 ee hdl hpl2 hln;generalize TX.getD j ByteArray.empty=tj at *
     gi_wp2_with fail
     refine⟨trivial,(CallsIn.inRound l (callsIn_wide.2 (zrd (w2.heap.size) (w1.heap.size+1) (w1.heap.size+1+1) (homeS t.data++putS PS (d2++TX.take j)) (PS.getD (d2++TX.take j).length 0) (PS.drop ((d2++TX.take j).length+1)) tj wr hLr.o.1 HPL2.o HLN.o (by have:=HPL.o;have:=HNL.o;simp;omega) (HPB.o _).1 (HPB.o _).2 (by have:=hFr.o.size;omega) (by omega) (by omega)))).mono ?_⟩;rintro e V3 ⟨⟨v,rfl⟩,k1,k2,k3'⟩;have HLn:=zaa (LogAt.next HDL.o k1 k2);have HFn:=zaa (hFr.o.trans k3');clear k1 k2 k3' HPL2 HLN hLr hFr hen hcell
     gi_wp2
     go_roundw
     case rel=>exact⟨j+1,by omega,by go_num,by rw[HTN.o,←List.append_assoc];exact HLn,HFn⟩
     case measure=>simp[intOf];omega
    ·have hlt':¬((j:Int)<(TX.length:Int)):=by omega
     have e:j=TX.length:=by omega
     subst e;rw[List.take_length] at hLr
     gi_wp2
     have hz:=HZ0.o;have hff:=HF02.o.trans hFr.o;refine⟨hff.others HLV.o.1.boxed HLV.o.2.1.boxed,KeepsB.of_fr hff c1 c2 (by decide) (by decide) (by omega) (by omega) (by omega) (by omega),?_,HF2.o.trans hFr.o,hff.boxed c1 (by decide) (by omega) (by omega),hff.boxed c2 (by decide) (by omega) (by omega),hff.box D _ hKD (fun cs fr e=>by cases e) (by omega) (by omega)⟩;rw[HEND.o];exact hLr.o
  case done2=>
   intro D2 W3 hD2 hI hK2;obtain⟨hL3',hF3,_,_,hKD⟩:=hI;have hL3:LogAt W3 (w1.heap.size+1+1) (w2.heap.size) (w1.heap.size+1) (homeS t.data) PS (logB t):=hL3';have hdl3:(logB t).length<PS.length:=by have:=HPL.o;omega
   have hW3s:=hF3.size;clear hL3';have hnl:=HNL.o;have hKT:=hF3.box _ _ KT.o (fun cs fr e=>by simp only[Obj.cells.injEq] at e;exact absurd e.2.1 (by decide)) (by omega) (by omega);have hsq:=(zai hKT).1.1;have hen:=(hF3.boxed bE.o (by decide) (by omega) (by omega)).cell
   have hpl2:PlacesAt W3 (w1.heap.size+1+1) (w1.heap.size+1) (PS.getD (logB t).length 0::PS.drop ((logB t).length+1)):=by
    have:=hL3.2.1;rw[ziy hdl3] at this;exact this
   have hln:(homeS t.data++putS PS (logB t)).length≤900:=by
    rw[List.length_append,zdz (Nat.le_of_lt hdl3)];have:=HHL.o;have:=HPL.o;omega
   have hKTc:=hKT;obtain⟨⟨x0,x1,x2,x3,x4,x5,x6,x7,x8,x9⟩,_⟩:=zai hKTc;clear hKT hKTc hsq hen
   have hln20:(homeS t.data++putS PS (logB t)).length≤40:=by
    rw[List.length_append,zdz (Nat.le_of_lt hdl3)];have:=HHL.o;have:=HNL.o;omega
   have hz0:=HZ0.o;have HZZ:=zaa hz0;clear hz0;have hzz:w2.heap.size+1+1<W0.heap.size:=by have:=HZZ.o;omega
   have hD2z:D<D2:=by have:=HZ2.o;omega
   by_cases hz:0<t.rev.length+t.info.length
   ·have hz':(0:Int)<(t.rev.length:Int)+(t.info.length:Int):=by omega
    gi_wp2_with fail
    refine⟨trivial,(callsIn_wide.2 (zo4 (w2.heap.size) (w2.heap.size) (w1.heap.size+1+1) (homeS t.data++putS PS (logB t)) W3 hL3.1 hln (by omega))).mono ?_⟩;rintro e W4 ⟨⟨v4,rfl⟩,k1,k3'⟩;have k3:Fr (w2.heap.size) (w1.heap.size+1) (w1.heap.size+1+1) W3 W4:=k3'.weak;have hF4:=hF3.trans k3;have hP4:=hpl2.fr k3' (by omega) (by omega);have hK14:=k3.box D _ hKD (fun cs fr e=>by cases e) (by omega) (by omega);have hK24:=k3.box D2 _ hK2 (fun cs fr e=>by cases e) (by omega) (by omega);have hlnT:(homeS t.data++putS PS (logB t)++[zby]).length≤890:=by rw[List.length_append];show _+1≤890;omega
    clear k3 k3' hL3 hF3 hKD hK2 hpl2 hln x0 x1 x2 x3 x4 x5 x6 x7 x8 x9;have hmk:=(hF4.boxed bM.o (by decide) (by omega) (by omega)).cell;have hKT:=hF4.box _ _ KT.o (fun cs fr e=>by simp only[Obj.cells.injEq] at e;exact absurd e.2.1 (by decide)) (by omega) (by omega);have hsq:=(zai hKT).1.1;have hen:=(hF4.boxed bE.o (by decide) (by omega) (by omega)).cell
    gi_wp2_with fail
    refine⟨trivial,(callsIn_wide.2 (zjc (w2.heap.size) (w1.heap.size+1) (w1.heap.size+1+1) (w.heap.size+1) (w2.heap.size+1) (homeS t.data++putS PS (logB t)++[zby]) (PS.getD (logB t).length 0) (PS.drop ((logB t).length+1)) ⟨4,0,0,[],[]⟩ _ t.seq W4 ⟨none,0,none,0,rfl,.inl rfl,.inl rfl,Nat.zero_le _,Nat.zero_le _⟩ hsq (by have:=hF4.size;have:=HZ0.o;omega) hen (by have:=hF4.size;have:=HZ0.o;omega) k1 hP4 (by omega) (by have:=HPL.o;have:=HNL.o;simp;omega) (HPB.o _).1 (HPB.o _).2 (by have:=hF4.size;omega) (by omega) (by omega))).mono ?_⟩;rintro e W5 ⟨⟨v5,rfl⟩,k1,k2,k3⟩;have hF5:=hF4.trans k3;have hK15:=k3.box D _ hK14 (fun cs fr e=>by cases e) (by omega) (by omega);have hK25:=k3.box D2 _ hK24 (fun cs fr e=>by cases e) (by omega) (by omega)
    have hln5:(homeS t.data++putS PS (logB t)++[zby]++[zbh (1+PS.getD (logB t).length 0) (encT ⟨4,t.seq,0,[],[]⟩)]).length≤900:=by
     rw[List.length_append];show _+1≤900;omega
    have HS5:=zaa k1;have HF5:=zaa hF5;have HK15:=zaa hK15;have HK25:=zaa hK25;have HLN5:=zaa hln5;clear hmk hKT hsq hen k1 k2 k3 hF5 hK15 hK25 hln5 hlnT
    gi_wp2_with fail
    refine⟨trivial,(callsIn_wide.2 (zo4 (w2.heap.size) (w1.heap.size+1) (w1.heap.size+1+1) _ W5 HS5.o HLN5.o (by have:=HF5.o.size;omega))).mono ?_⟩;rintro e W6 ⟨⟨v6,rfl⟩,k1,k3⟩;have HF6:=zaa (HF5.o.trans k3);have HK16:=zaa (k3.box D _ HK15.o (fun cs fr e=>by cases e) (by omega) (by omega));have HK26:=zaa (k3.box D2 _ HK25.o (fun cs fr e=>by cases e) (by omega) (by omega));have hfin:commitS rh ru t=homeS t.data++putS PS (logB t)++[zby]++[zbh (1+PS.getD (logB t).length 0) (encT ⟨4,t.seq,0,[],[]⟩)]++[zby]:=by rw[HC.o,if_pos hz];rfl
    rw[←hfin] at k1;have HFIN:=zaa hfin;obtain⟨v6',b6,o6⟩:=k1;have HO6:=zaa o6;obtain⟨fa,fc,rfl,hseg,hfrom⟩:=SegSt.of_owns o6;have HSG:=zaa hseg;have HFR:=zaa hfrom;have c6:=b6.cell;have hKB:=HF6.o.box _ _ KB.o (fun cs fr e=>by simp only[Obj.cells.injEq] at e;exact absurd e.2.1 (by decide)) (by omega) (by omega);have hKZ:=HF6.o.box _ _ KZ.o (fun cs fr e=>by simp only[Obj.cells.injEq] at e;exact absurd e.2.1 (by decide)) (by omega) (by omega);obtain⟨⟨y0,y1⟩,_⟩:=zfl hKB;obtain⟨⟨z0,z1⟩,zf0,zf1⟩:=zfl hKZ;have HW6:=zaa HF6.o.size;have KZ6:=zaa hKZ;clear k3 hfin b6 o6 hseg hfrom hKB hKZ
    gi_wp2
    gi_region
    all_goals
     gi_wp2
     have hset:=zjd KZ6.o (.int .i64 sH) (.int .i64 sU);have q2:((W6.setCell ⟨w.heap.size+1+1,0,none⟩ (.int .i64 sH)).setCell ⟨w.heap.size+1+1,1,none⟩ (.int .i64 sU)).drew.heap[D2]?=some (.deferred (some [])):=(Below.heap_setCell _ _ _ _ (by simp;omega)).trans ((Below.heap_setCell _ _ _ _ (by simp;omega)).trans HK26.o);have q1:(((W6.setCell ⟨w.heap.size+1+1,0,none⟩ (.int .i64 sH)).setCell ⟨w.heap.size+1+1,1,none⟩ (.int .i64 sU)).drew.putObj D2 (.deferred none)).heap[D]?=some (.deferred (some [])):=(World.putObj_heap_other (by omega)).trans ((Below.heap_setCell _ _ _ _ (by simp;omega)).trans ((Below.heap_setCell _ _ _ _ (by simp;omega)).trans HK16.o));have hbase6:w1.heap.size+1+1≤W6.heap.size:=by have:=HW6.o;omega
     have hO9:=ownsRow_putObj (ownsRow_putObj (zah (ownsRow_setCell_below (ownsRow_setCell_below HO6.o (a:=⟨w.heap.size+1+1,0,none⟩) (by simp;omega) (.int .i64 sH)) (a:=⟨w.heap.size+1+1,1,none⟩) (by simp;omega) (.int .i64 sU)) (Below.refl _ _).drew) (.deferred none) q2 rfl) (.deferred none) q1 rfl;have hB9:=((((HB0.o.trans (HF6.o.below (by omega) (by omega) (by omega))).setCell (p:=⟨w.heap.size+1+1,0,none⟩) (by simp;omega) (.int .i64 sH)).setCell (p:=⟨w.heap.size+1+1,1,none⟩) (by simp;omega) (.int .i64 sU)).drew.trans (belowK_b (w:=w) (Nat.le_refl _) _ D2 _ (.deferred none) (by omega) q2 rfl rfl)).trans (belowK_b (w:=w) (Nat.le_refl _) _ D _ (.deferred none) (by omega) q1 rfl rfl);have hZ9:((((W6.setCell ⟨w.heap.size+1+1,0,none⟩ (.int .i64 sH)).setCell ⟨w.heap.size+1+1,1,none⟩ (.int .i64 sU)).drew.putObj D2 (.deferred none)).putObj D (.deferred none)).heap[w.heap.size+1+1]?=some (.cells #[.int .i64 sH,.int .i64 sU] 26 (0,0)):=(World.putObj_heap_other (by omega)).trans ((World.putObj_heap_other (by omega)).trans hset);obtain⟨⟨u0,u1⟩,_⟩:=zfl hZ9;refine⟨by simp,.inl ⟨D2,_,rfl,run_takeDeferred q2,?_⟩⟩;refine⟨by simp,.inl ⟨D,_,rfl,run_takeDeferred q1,?_⟩⟩;refine⟨.tuple #[.agg #[.int .i64 sH,.int .i64 sU],.slice fa (commitS rh ru t).length fc,.int .i64 0],by simp[results,Tryz.results125,go_sem,u0,u1],?_⟩;have hcap:=zru hO9 rfl;obtain⟨fa',fc',e9,hs9,hf9⟩:=SegSt.of_owns hO9;obtain⟨rfl,rfl⟩:fa=fa'∧fc=fc':=by simpa using e9
     exact⟨fa,fc,by rw[HSH.o,HSU.o,HE0.o],hcap,fun b off e=>by have:=hf9 b off e;have:=HB0.o.size;omega,hs9,hB9⟩
   ·have hz':¬((0:Int)<(t.rev.length:Int)+(t.info.length:Int)):=by omega
    have hlnT:(homeS t.data++putS PS (logB t)).length≤890:=by have:=hln20;omega
    have hmk:=(hF3.boxed bM.o (by decide) (by omega) (by omega)).cell;have hKT:=hF3.box _ _ KT.o (fun cs fr e=>by simp only[Obj.cells.injEq] at e;exact absurd e.2.1 (by decide)) (by omega) (by omega);have hsq:=(zai hKT).1.1;have hen:=(hF3.boxed bE.o (by decide) (by omega) (by omega)).cell
    gi_wp2_with fail
    refine⟨trivial,(callsIn_wide.2 (zjc (w2.heap.size) (w1.heap.size+1) (w1.heap.size+1+1) (w.heap.size+1) (w2.heap.size+1) (homeS t.data++putS PS (logB t)) (PS.getD (logB t).length 0) (PS.drop ((logB t).length+1)) ⟨4,0,0,[],[]⟩ _ t.seq W3 ⟨none,0,none,0,rfl,.inl rfl,.inl rfl,Nat.zero_le _,Nat.zero_le _⟩ hsq (by have:=hF3.size;have:=HZ0.o;omega) hen (by have:=hF3.size;have:=HZ0.o;omega) hL3.1 hpl2 (by omega) (by have:=HPL.o;have:=HNL.o;simp;omega) (HPB.o _).1 (HPB.o _).2 (by have:=hF3.size;omega) (by omega) (by omega))).mono ?_⟩;rintro e W5 ⟨⟨v5,rfl⟩,k1,k2,k3⟩;have hF5:=hF3.trans k3;have hK15:=k3.box D _ hKD (fun cs fr e=>by cases e) (by omega) (by omega);have hK25:=k3.box D2 _ hK2 (fun cs fr e=>by cases e) (by omega) (by omega)
    have hln5:(homeS t.data++putS PS (logB t)++[zbh (1+PS.getD (logB t).length 0) (encT ⟨4,t.seq,0,[],[]⟩)]).length≤900:=by
     rw[List.length_append];show _+1≤900;omega
    have HS5:=zaa k1;have HF5:=zaa hF5;have HK15:=zaa hK15;have HK25:=zaa hK25;have HLN5:=zaa hln5;clear hmk hKT hsq hen k1 k2 k3 hF5 hK15 hK25 hln5 hlnT
    gi_wp2_with fail
    refine⟨trivial,(callsIn_wide.2 (zo4 (w2.heap.size) (w1.heap.size+1) (w1.heap.size+1+1) _ W5 HS5.o HLN5.o (by have:=HF5.o.size;omega))).mono ?_⟩;rintro e W6 ⟨⟨v6,rfl⟩,k1,k3⟩;have HF6:=zaa (HF5.o.trans k3);have HK16:=zaa (k3.box D _ HK15.o (fun cs fr e=>by cases e) (by omega) (by omega));have HK26:=zaa (k3.box D2 _ HK25.o (fun cs fr e=>by cases e) (by omega) (by omega));have hfin:commitS rh ru t=homeS t.data++putS PS (logB t)++[zbh (1+PS.getD (logB t).length 0) (encT ⟨4,t.seq,0,[],[]⟩)]++[zby]:=by rw[HC.o,if_neg hz,List.append_nil];rfl
    rw[←hfin] at k1;have HFIN:=zaa hfin;obtain⟨v6',b6,o6⟩:=k1;have HO6:=zaa o6;obtain⟨fa,fc,rfl,hseg,hfrom⟩:=SegSt.of_owns o6;have HSG:=zaa hseg;have HFR:=zaa hfrom;have c6:=b6.cell;have hKB:=HF6.o.box _ _ KB.o (fun cs fr e=>by simp only[Obj.cells.injEq] at e;exact absurd e.2.1 (by decide)) (by omega) (by omega);have hKZ:=HF6.o.box _ _ KZ.o (fun cs fr e=>by simp only[Obj.cells.injEq] at e;exact absurd e.2.1 (by decide)) (by omega) (by omega);obtain⟨⟨y0,y1⟩,_⟩:=zfl hKB;obtain⟨⟨z0,z1⟩,zf0,zf1⟩:=zfl hKZ;have HW6:=zaa HF6.o.size;have KZ6:=zaa hKZ;clear k3 hfin b6 o6 hseg hfrom hKB hKZ
    gi_wp2
    gi_region
    all_goals
     gi_wp2
     have hset:=zjd KZ6.o (.int .i64 sH) (.int .i64 sU);have q2:((W6.setCell ⟨w.heap.size+1+1,0,none⟩ (.int .i64 sH)).setCell ⟨w.heap.size+1+1,1,none⟩ (.int .i64 sU)).drew.heap[D2]?=some (.deferred (some [])):=(Below.heap_setCell _ _ _ _ (by simp;omega)).trans ((Below.heap_setCell _ _ _ _ (by simp;omega)).trans HK26.o);have q1:(((W6.setCell ⟨w.heap.size+1+1,0,none⟩ (.int .i64 sH)).setCell ⟨w.heap.size+1+1,1,none⟩ (.int .i64 sU)).drew.putObj D2 (.deferred none)).heap[D]?=some (.deferred (some [])):=(World.putObj_heap_other (by omega)).trans ((Below.heap_setCell _ _ _ _ (by simp;omega)).trans ((Below.heap_setCell _ _ _ _ (by simp;omega)).trans HK16.o));have hbase6:w1.heap.size+1+1≤W6.heap.size:=by have:=HW6.o;omega
     have hO9:=ownsRow_putObj (ownsRow_putObj (zah (ownsRow_setCell_below (ownsRow_setCell_below HO6.o (a:=⟨w.heap.size+1+1,0,none⟩) (by simp;omega) (.int .i64 sH)) (a:=⟨w.heap.size+1+1,1,none⟩) (by simp;omega) (.int .i64 sU)) (Below.refl _ _).drew) (.deferred none) q2 rfl) (.deferred none) q1 rfl;have hB9:=((((HB0.o.trans (HF6.o.below (by omega) (by omega) (by omega))).setCell (p:=⟨w.heap.size+1+1,0,none⟩) (by simp;omega) (.int .i64 sH)).setCell (p:=⟨w.heap.size+1+1,1,none⟩) (by simp;omega) (.int .i64 sU)).drew.trans (belowK_b (w:=w) (Nat.le_refl _) _ D2 _ (.deferred none) (by omega) q2 rfl rfl)).trans (belowK_b (w:=w) (Nat.le_refl _) _ D _ (.deferred none) (by omega) q1 rfl rfl);have hZ9:((((W6.setCell ⟨w.heap.size+1+1,0,none⟩ (.int .i64 sH)).setCell ⟨w.heap.size+1+1,1,none⟩ (.int .i64 sU)).drew.putObj D2 (.deferred none)).putObj D (.deferred none)).heap[w.heap.size+1+1]?=some (.cells #[.int .i64 sH,.int .i64 sU] 26 (0,0)):=(World.putObj_heap_other (by omega)).trans ((World.putObj_heap_other (by omega)).trans hset);obtain⟨⟨u0,u1⟩,_⟩:=zfl hZ9;refine⟨by simp,.inl ⟨D2,_,rfl,run_takeDeferred q2,?_⟩⟩;refine⟨by simp,.inl ⟨D,_,rfl,run_takeDeferred q1,?_⟩⟩;refine⟨.tuple #[.agg #[.int .i64 sH,.int .i64 sU],.slice fa (commitS rh ru t).length fc,.int .i64 0],by simp[results,Tryz.results125,go_sem,u0,u1],?_⟩;have hcap:=zru hO9 rfl;obtain⟨fa',fc',e9,hs9,hf9⟩:=SegSt.of_owns hO9;obtain⟨rfl,rfl⟩:fa=fa'∧fc=fc':=by simpa using e9
     exact⟨fa,fc,by rw[HSH.o,HSU.o,HE0.o],hcap,fun b off e=>by have:=hf9 b off e;have:=HB0.o.size;omega,hs9,hB9⟩
end Go.Proofs.YtjnpndfpajjihacGreat


namespace Go.Proofs.YtjnpndfpajjihacGreat
open Go.RowKit
end Go.Proofs.YtjnpndfpajjihacGreat

