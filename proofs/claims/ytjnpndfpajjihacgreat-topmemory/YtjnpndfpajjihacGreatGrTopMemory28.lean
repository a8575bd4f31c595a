/-
  
-/
import Derived.Test.YtjnpndfpajjihacGreatGrTopMemory25
import Derived.Test.YtjnpndfpajjihacGreatGrTopMemory27
set_option maxRecDepth 100000
set_option maxHeartbeats 40000000
namespace Go.Proofs.YtjnpndfpajjihacGreat
open Go.RowKit Go.Shelf
attribute [local go_sem] Oper.semAt_some
def zft (b:Int):List (Int×ByteArray)→Option (Int×ByteArray)
 |[]=>none
 |x::r=>if x.1=b then some x else zft b r
def zgo (L:Int→Int)(k:Nat)(f:Int→Option (Int×ByteArray))(m:List (Int×ByteArray)):Int→Option (Int×ByteArray):=fun z=>match zft z m with
 |some c=>if L z=(k:Int) then some c else f z
 |none=>f z
def zfe (l:List Tx)(L:Int→Int):Nat→Int→Option (Int×ByteArray)
 |0=>fun _=>none
 |k+1=>zgo L k (zfe l L k) (l.getD k txz).info
theorem zyg {L:Int→Int}{k:Nat}{x:Int×ByteArray}(h:L x.1=(k:Int))(f:Int→Option (Int×ByteArray))(r:List (Int×ByteArray)):zgo L k f (x::r)=fun z=>if z=x.1 then some (x.1,x.2) else zgo L k f r z:=by
 funext z
 by_cases e:z=x.1
 ·subst e;simp[zgo,zft,h]
 ·have:¬x.1=z:=fun y=>e y.symm
  simp[zgo,zft,e,this]
theorem z1h {L:Int→Int}{k:Nat}{x:Int×ByteArray}(h:¬L x.1=(k:Int))(f:Int→Option (Int×ByteArray))(r:List (Int×ByteArray)):zgo L k f (x::r)=zgo L k f r:=by
 funext z
 by_cases e:x.1=z
 ·subst e
  simp only[zgo,zft,if_true];cases zft x.1 r<;>simp[h]
 ·simp[zgo,zft,e]
theorem zyh {α:Type}{m:List α}{j:Nat}{z:α}(h:j<m.length):m.drop j=m.getD j z::m.drop (j+1):=by
 rw[List.drop_eq_getElem_cons h,List.getD,List.getElem?_eq_getElem h];rfl
theorem But.grownR {R base:Nat}{w A B:World}{row:Option Nat}(h:But R base w A)(hg:A.grownBy B row)(hr:∀r,row=some r→base≤r)(hs:base≤w.heap.size:=by omega):But R base w B:=
 h.trans (But.of_below ((Below.refl base A).grown hg (Nat.le_trans hs h.size) hr)) (Nat.le_refl _)
theorem MapC.notCells {w:World}{B n:Nat}{f:Int→Option (Int×ByteArray)}(h:MapC w B n f){o:Obj}(ho:w.heap[B]?=some o):o.isCells=false:=by
 obtain⟨D,⟨es,clock,h1,_⟩,_⟩:=h;rw[h1] at ho;cases ho;rfl
theorem z3c {m:List (Int×ByteArray)}{j:Nat}(h:j<m.length):m.getD j (0,ByteArray.empty)∈m:=by
 rw[List.getD,List.getElem?_eq_getElem h];exact List.getElem_mem h
def z4c (Ms:List Nat):List Deferred:=Ms.map fun r=>{target:=.collected r,args:=#[]}
def z3d (Ms:List Nat)(w:World):World:=Ms.foldl (fun w r=>w.putObj r (.deferred none)) w
theorem znb (Ms:List Nat)(w:World)(j:Nat)(h:∀r∈Ms,r≠j):(z3d Ms w).heap[j]?=w.heap[j]?:=by
 induction Ms generalizing w with
 |nil=>rfl
 |cons r Ms ih=>
  rw[z3d,List.foldl_cons];refine(ih _ (fun r' hr'=>h r' (by simp[hr']))).trans ?_;exact World.putObj_heap_other (Ne.symm (h r (by simp)))
theorem znc {base:Nat}:∀(Ms:List Nat) (w:World),(∀r∈Ms,base≤r)→Ms.Nodup→(∀r∈Ms,w.heap[r]?=some (.deferred (some [])))→Below base w (z3d Ms w):=by
 intro Ms
 induction Ms with
 |nil=>intro w _ _ _;exact Below.refl _ _
 |cons r Ms ih=>
  intro w hb hn hd;have hn':=List.nodup_cons.1 hn;have h1:Below base w (w.putObj r (.deferred none)):=⟨rfl,rfl,rfl,by simp[World.putObj],fun j hj=>World.putObj_heap_other (by have:=hb r (by simp);omega)⟩;exact h1.trans (ih _ (fun q hq=>hb q (by simp[hq])) hn'.2 (fun q hq=>(World.putObj_heap_other (by intro e;subst e;exact hn'.1 hq)).trans (hd q (by simp[hq]))))
theorem zjy {F:Fence}{n:Nat}{P:Program}{fn:Func}{tmps:Array Value}{R:Ending→World→Prop}:∀(Ms:List Nat) (w:World),Ms.Nodup→(∀r∈Ms,w.heap[r]?=some (.deferred (some [])))→LeavesIn F n P fn tmps R [] .returning (z3d Ms w)→LeavesInM F n P fn tmps R (z4c Ms) .returning w:=by
 intro Ms
 induction Ms with
 |nil=>intro w _ _ h;exact h
 |cons r Ms ih=>
  intro w hn hd h;have hn':=List.nodup_cons.1 hn;refine⟨by simp,.inl ⟨r,_,rfl,run_takeDeferred (hd r (by simp)),ih _ hn'.2 (fun q hq=>?_) h⟩⟩;exact(World.putObj_heap_other (by intro e;subst e;exact hn'.1 hq)).trans (hd q (by simp[hq]))
attribute [local go_sem] Oper.semAt_some
theorem zkl (a:Option Addr)(c:Nat)(l:List Tx)(w:World)(h:SegTx w a l)(hn:l.length*128≤140737488355328)(hf:∀t∈l,Few t):
  Calls Tryz.prog 116 #[.slice a l.length c] w fun e w'=>∃B n,e=.returned (.map (some B))∧MapC w' B n (zfe l (lastK l l.length) l.length)∧w.heap.size≤B∧Below w.heap.size w w':=by
 have HS:=zaa h;have HW:=zaa hf;clear h hf;have hmk:=fun w:World=>run_makeMap (P:=Tryz.prog) 175 w;refine(callsIn_wide (n:=9)).1 ?_;refine callsIn_of_wp_marks Tryz.func116 rfl trivial ?_ rfl;simp only[Tryz.ntmps116,List.size_toArray,List.length_cons,List.length_nil,Nat.reduceAdd,Nat.reduceSub,Array.replicate_succ,Array.replicate_zero,List.push_toArray,List.append_toArray,List.nil_append,List.cons_append]
 gi_wp2_with fail
 refine⟨trivial,(callsIn_wide.2 (zmj a c l _ HS.o hn HW.o)).mono ?_⟩;rintro e w1 ⟨B1,n1,rfl,hM1,hB1,hb1⟩;have HM1:=zaa hM1;have HB1:=zaa hb1;clear hM1 hb1
 gi_wp2
 obtain⟨W0,hW0⟩:∃W0,W0=((w1.alloc (.map #[] 0)).alloc (.cells #[.map (some B1)] 213)).alloc (.cells #[.map (some w1.heap.size)] 175):=⟨_,rfl⟩;have hbW:Below w1.heap.size w1 W0:=by rw[hW0];exact zae (zae (zab _ _) (zab _ _)) (zab _ _)
 have hth:W0.heap[w1.heap.size]?=some (.map #[] 0)∧W0.heap[w1.heap.size+1]?=some (.cells #[.map (some B1)] 213 (0,0))∧W0.heap[w1.heap.size+1+1]?=some (.cells #[.map (some w1.heap.size)] 175 (0,0))∧w1.heap.size+1+1<W0.heap.size:=by rw[hW0];exact zjt (Below.refl _ _)
 have HMC0:Hid (MapC W0 w1.heap.size 0 (fun _=>none)):=(MapC.made w1).block (hth.1.trans (heap_alloc_new w1 (.map #[] 0)).symm);have HBL0:=zaa hth.2.1;have HBN0:=zaa hth.2.2.1;have hs0:=hth.2.2.2;have HBW:=zaa hbW;rw[←hW0];clear hW0 hbW hth hmk
 refine wpIn_loop (fun a' w'=>∃(k n:Nat) (Ms:List Nat) (u5 u6 u8 u15 u16 u17 u18 u19 u20 u21 u22 u23 u24 u25 u26 u27 u28 u29 u30 u31 u32 u33 u34:Value),a'=⟨#[.slice a l.length c,undef,.map none,.pointer (some ⟨w1.heap.size+1,0,none⟩),.pointer (some ⟨w1.heap.size+1+1,0,none⟩),u5,u6,undef,u8,.slice a l.length c,.map (some B1),.map (some w1.heap.size),.slice a l.length c,.int .i64 (l.length:Int),.int .i64 (k:Int),u15,u16,u17,u18,u19,u20,u21,u22,u23,u24,u25,u26,u27,u28,u29,u30,u31,u32,u33,u34,undef],z4c Ms⟩∧k≤l.length∧n≤12*k∧Hid (MapC w' w1.heap.size n (zfe l (lastK l l.length) k))∧Hid (Below w1.heap.size w1 w')∧w1.heap.size+1+1<w'.heap.size∧Hid (w'.heap[w1.heap.size+1]?=some (.cells #[.map (some B1)] 213 (0,0)))∧Hid (w'.heap[w1.heap.size+1+1]?=some (.cells #[.map (some w1.heap.size)] 175 (0,0)))∧Hid (Ms.Nodup∧∀r∈Ms,w1.heap.size+1+1<r∧w'.heap[r]?=some (.deferred (some []))))
  (fun a' _=>l.length - (intOf (a'.tmps.getD 14 undef)).toNat) ?start ?round
 case start=>exact⟨0,0,[],undef,undef,undef,undef,undef,undef,undef,undef,undef,undef,undef,undef,undef,undef,undef,undef,undef,undef,undef,undef,undef,undef,undef,rfl,Nat.zero_le _,Nat.zero_le _,HMC0,HBW,hs0,HBL0,HBN0,List.nodup_nil,fun r hr=>by cases hr⟩
 case round=>
  rintro _ wr ⟨k,n,Ms,u5,u6,u8,u15,u16,u17,u18,u19,u20,u21,u22,u23,u24,u25,u26,u27,u28,u29,u30,u31,u32,u33,u34,rfl,hk,hn12,HMC,HB,hsz,HBL,HBN,HMS⟩;clear HMC0 HBW hs0 HBL0 HBN0;by_cases hlt:k<l.length
  ·obtain⟨b,off,rfl,hb,hc⟩:=HS.o.resolve_left (fun e=>absurd hlt (by rw[e];exact Nat.not_lt_zero _))
   obtain⟨t,ht⟩:∃t,t=l.getD k txz:=⟨_,rfl⟩;have hbw1:b<w1.heap.size:=Nat.lt_of_lt_of_le hb HB1.o.size;have hcj:=((hc k hlt).below HB1.o hb).below HB.o hbw1;rw[←ht] at hcj;have HTE:=zaa ht;obtain⟨a0,c0,a1,c1,r,d,⟨x0,x1,x2,x3,x4,x5,x6,x7,x8,x9⟩,hT⟩:=hcj;have HT:=zaa hT;have hlt':(k:Int)<(l.length:Int):=by omega
   clear hc ht hT
   gi_wp2_with fail
   obtain⟨W1,hW1⟩:∃W1,W1=(wr.alloc (.cells #[.int .i64 (k:Int)] 3)).alloc (.cells #[.int .i64 t.seq,.slice a0 t.info.length c0,.slice a1 t.data.length c1,.slice r t.rev.length d,.bool t.h0.on,.int .i64 t.h0.left,.bool t.h1.on,.int .i64 t.h1.left,.bool t.h2.on,.int .i64 t.h2.left] 40):=⟨_,rfl⟩;have hb1:Below wr.heap.size wr W1:=by rw[hW1];exact zae (zab _ _) (zab _ _)
   have HKI:Hid (W1.heap[wr.heap.size]?=some (.cells #[.int .i64 (k:Int)] 3 (0,0))):=by rw[hW1];exact zf9 (Below.refl _ _)
   have hsW1:W1.heap.size=wr.heap.size+1+1:=by rw[hW1];simp
   rw[←hW1];clear hW1 x0 x1 x2 x3 x4 x5 x6 x7 x8 x9;refine⟨trivial,(z2e Fence.wide 8 trivial rfl a0 t.info.length c0 W1).mono ?_⟩;rintro e W2 ⟨rfl,hW2⟩;have hb2:Below W1.heap.size W1 W2:=by rw[hW2];exact zab _ _
   have cS:W2.cell? ⟨W1.heap.size,0,none⟩=some (.slice a0 t.info.length c0):=by rw[hW2];simp[go_sem]
   have hsW2:W2.heap.size=W1.heap.size+1:=by rw[hW2];simp
   have hbr2:Below wr.heap.size wr W2:=zae hb1 hb2;have HBR:=zaa hbr2;have HCS:=zaa cS;have HKI2:=zaa (zad hb2 (show wr.heap.size<W1.heap.size by omega) HKI.o);have HBL2:=zaa (zad hbr2 (show w1.heap.size+1<wr.heap.size by omega) HBL.o);have HBN2:=zaa (zad hbr2 hsz HBN.o);have HMC2:=zaa (HMC.o.below hbr2);have HM2:=zaa ((HM1.o.below HB.o).below hbr2);have HMS2:Hid (Ms.Nodup∧∀r∈Ms,w1.heap.size+1+1<r∧r<wr.heap.size∧W2.heap[r]?=some (.deferred (some []))):=⟨HMS.o.1,fun r hr=>⟨(HMS.o.2 r hr).1,(Array.getElem?_eq_some_iff.1 (HMS.o.2 r hr).2).1,zad hbr2 (Array.getElem?_eq_some_iff.1 (HMS.o.2 r hr).2).1 (HMS.o.2 r hr).2⟩⟩;have hfew:=HW.o t (by rw[HTE.o];exact List.mem_of_getElem? (z0s hlt));have hz12:W1.heap.size<W2.heap.size:=by omega
   have hz01:wr.heap.size<W1.heap.size:=by omega
   have HSW1:=zaa hsW1;have HSW2:=zaa hsW2;clear hW2 hb1 hb2 HKI HBL HBN HMC HMS cS hbr2 hsW1 hsW2
   gi_wp2_with fail
   have hrows:=HT.o.rows;have hsegW:SegW W2 a0 t.info:=hrows.1.below HBR.o;have HSEG:=zaa hsegW;clear hrows hsegW
   refine zvp (F:=Fence.wide) (n:=9) rfl (by decide) (gf:=192) (lb:=#[.pointer (some ⟨W1.heap.size,0,none⟩)]) rfl trivial (enters_of Tryz.func192 (by kernel_rfl) rfl)
    (zrb Fence.wide 8 trivial rfl (by decide) W1.heap.size c0 a0 t.info (by have:=hfew.2.1;unfold maxLen;omega) W2 (by omega) HCS.o HSEG.o) (Below.refl _ _) KeepsR.trans KeepsR.put (fun _=>rfl)
    (fun j V=>∃n',n'≤n+j∧MapC V w1.heap.size n' (zgo (lastK l l.length) k (zfe l (lastK l l.length) k) (t.info.drop (t.info.length - j)))∧But w1.heap.size W2.heap.size W2 V)
    ?own ?drew ?start
    (fun j a' V=>∃B8 n',a'=⟨#[.slice (some ⟨b,off,none⟩) l.length c,undef,.map none,.pointer (some ⟨w1.heap.size+1,0,none⟩),.pointer (some ⟨w1.heap.size+1+1,0,none⟩),.pointer (some ⟨wr.heap.size,0,none⟩),.pointer (some ⟨wr.heap.size+1,0,none⟩),undef,.pointer (some ⟨B8,0,none⟩),.slice (some ⟨b,off,none⟩) l.length c,.map (some B1),.map (some w1.heap.size),.slice (some ⟨b,off,none⟩) l.length c,.int .i64 (l.length:Int),.int .i64 (k:Int),.bool true,.int .i64 (k:Int),.pointer (some ⟨b,off+k*10,none⟩),.agg #[.int .i64 t.seq,.slice a0 t.info.length c0,.slice a1 t.data.length c1,.slice r t.rev.length d,.bool t.h0.on,.int .i64 t.h0.left,.bool t.h1.on,.int .i64 t.h1.left,.bool t.h2.on,.int .i64 t.h2.left],.pointer (some ⟨wr.heap.size+1,1,none⟩),.slice a0 t.info.length c0,.func (.func 192) #[] #[.pointer (some ⟨W1.heap.size,0,none⟩)],.int .i64 ((t.info.length - 1 - j:Nat):Int),.agg #[.int .i64 (t.info.getD (t.info.length - 1 - j) (0,ByteArray.empty)).1,.string (t.info.getD (t.info.length - 1 - j) (0,ByteArray.empty)).2],u24,u25,u26,u27,u28,u29,u30,u31,u32,u33,u34,undef],[]⟩∧n'≤n+j∧MapC V w1.heap.size n' (zgo (lastK l l.length) k (zfe l (lastK l l.length) k) (t.info.drop (t.info.length - j)))∧But w1.heap.size W2.heap.size W2 V∧W2.heap.size≤B8∧V.heap[B8]?=some (.cells #[.int .i64 (t.info.getD (t.info.length - 1 - j) (0,ByteArray.empty)).1,.string (t.info.getD (t.info.length - 1 - j) (0,ByteArray.empty)).2] 84 (0,0)))
    ?ownJ ?assign ?body ?done
   case own=>
    rintro j A B row ⟨n',hn',hM,hBt⟩ hgr hr;exact⟨n',hn',hM.block (hgr.block _ hM.lt (fun e=>by have:=(hr _ e.symm).1;omega)),hBt.grownR hgr (fun r e=>(hr r e).1)⟩
   case drew=>
    rintro j V ⟨n',hn',hM,hBt⟩;exact⟨n',hn',hM.block rfl,hBt.trans (But.of_below ((Below.refl W2.heap.size _).drew)) (Nat.le_refl _)⟩
   case start=>
    refine⟨n,Nat.le_refl _,?_,But.of_below (Below.refl _ _)⟩;rw[Nat.sub_zero,List.drop_length];exact HMC2.o
   case ownJ=>
    rintro j a' A B row ⟨B8,n',rfl,hn',hM,hBt,hB8,hb8⟩ hgr hr;refine⟨B8,n',rfl,hn',hM.block (hgr.block _ hM.lt (fun e=>by have:=(hr _ e.symm).1;omega)),hBt.grownR hgr (fun r e=>(hr r e).1),hB8,?_⟩;refine(hgr.block _ (Array.getElem?_eq_some_iff.1 hb8).1 (fun e=>?_)).trans hb8;obtain⟨_,o,ho,hc⟩:=hr _ e.symm;rw[hb8] at ho;cases ho;cases hc
   case assign=>
    rintro lp j V K hjN ⟨n',hn',hM,hBt⟩ hszV hK;unfold z4b;obtain⟨x,hx⟩:∃x,x=(t.info.getD (t.info.length - 1 - j) (0,ByteArray.empty)):=⟨_,rfl⟩;rw[←hx];have hal:=fun q (hq:q<V.heap.size)=>Below.heap_alloc V (.cells #[.int .i64 x.1,.string x.2] 84) q hq;have HAL:=zaa hal;have HK:=zaa hK;have HM:=zaa hM;have HX:=zaa hx;clear hal hK hM hx
    gi_wp2
    refine HK.o _ _ (HAL.o _ (by omega)) (HAL.o _ (by omega)) (fun q _ o ho _=>(HAL.o q (Array.getElem?_eq_some_iff.1 ho).1).trans ho) ⟨V.heap.size,n',?_,hn',HM.o.block (HAL.o _ HM.o.lt),hBt.trans (But.of_below ((Below.refl W2.heap.size V).alloc hBt.size _)) (Nat.le_refl _),hBt.size,?_⟩
    ·rw[←HX.o]
    ·rw[←HX.o]
     exact heap_alloc_new V _
   case body=>
    rintro lp j _ V hjN ⟨B8,n',rfl,hn',hM,hBt,hB8,hb8⟩ hszV;obtain⟨x,hx⟩:∃x,x=(t.info.getD (t.info.length - 1 - j) (0,ByteArray.empty)):=⟨_,rfl⟩;rw[←hx] at hb8⊢;have hxm:x∈t.info:=by rw[hx];exact z3c (by omega)
    have hxr:=hfew.2.2.2 x hxm;have HXR:=zaa hxr;have hf12:=hfew.2.1
    have hdrop:t.info.drop (t.info.length - (j+1))=x::t.info.drop (t.info.length - j):=by
     rw[zyh (z:=(0,ByteArray.empty)) (show t.info.length - (j+1)<t.info.length by omega),show t.info.length - (j+1)+1=t.info.length - j from by omega,hx,show t.info.length - 1 - j=t.info.length - (j+1) from by omega]
    have hwf:(Lit.int .i64 x.1).wf=true:=wfI (by omega) (by omega);have hB1lt:B1<w1.heap.size:=HM1.o.lt;have hMI:MapI V B1 n1 (lastK l l.length):=HM2.o.block (hBt.block B1 (by omega) (by omega));have hlk:=hMI.look x.1 hwf;have g3:=cell_of_row V _ 0 _ _ _ ((hBt.block (w1.heap.size+1) (by omega) (by omega)).trans HBL2.o);have g4:=cell_of_row V _ 0 _ _ _ ((hBt.block (w1.heap.size+1+1) (by omega) (by omega)).trans HBN2.o);have g5:=cell_of_row V _ 0 _ _ _ ((hBt.block wr.heap.size (by omega) (by omega)).trans HKI2.o);obtain⟨⟨g80,g81⟩,_⟩:=zfl hb8;have HM:=zaa hM;have HBT:=zaa hBt;have HDR:=zaa hdrop;have HX:=zaa hx;have hsV:=hBt.size;clear hM hBt hdrop hx hMI hb8 hxm hxr hwf;by_cases hL:lastK l l.length x.1=(k:Int)
    ·obtain⟨V2,hst,hM2,hg2⟩:=HM.o.store x.1 x.1 x.2 (wfI (by have:=HXR.o;omega) (by have:=HXR.o;omega)) (by unfold maxLen;omega)
     have hL':(lastK l l.length x.1==(k:Int))=true:=by simpa using hL
     have HFIN:Hid ((V2.heap[W2.heap.size]?=V.heap[W2.heap.size]?∧V2.heap[W2.heap.size+1]?=V.heap[W2.heap.size+1]?)∧KeepsR W1.heap.size (zyf a0) V V2∧∃n',n'≤n+(j+1)∧MapC V2 w1.heap.size n' (zgo (lastK l l.length) k (zfe l (lastK l l.length) k) (t.info.drop (t.info.length - (j+1))))∧But w1.heap.size W2.heap.size W2 V2):=by
      refine⟨⟨hg2.block _ (by omega) (fun e=>by simp at e;omega),hg2.block _ (by omega) (fun e=>by simp at e;omega)⟩,?_,n'+1,by omega,?_,HBT.o.trans ⟨(But.of_below (R:=0) ((Below.refl 0 V).grown hg2 (Nat.zero_le _) (fun _ _=>Nat.zero_le _))).os,(But.of_below (R:=0) ((Below.refl 0 V).grown hg2 (Nat.zero_le _) (fun _ _=>Nat.zero_le _))).tape,(But.of_below (R:=0) ((Below.refl 0 V).grown hg2 (Nat.zero_le _) (fun _ _=>Nat.zero_le _))).output,hg2.size,fun q hq hne=>hg2.block q (by omega) (fun e=>hne (by simpa using e))⟩ (Nat.le_refl _)⟩
      ·intro q _ o ho hc
       refine(hg2.block q (Array.getElem?_eq_some_iff.1 ho).1 (fun e=>?_)).trans ho;have e':q=w1.heap.size:=by simpa using e
       subst e';rw[HM.o.notCells ho] at hc;cases hc
      ·rw[HDR.o,zyg hL]
       exact hM2
     clear hM2 hg2 hL
     gi_wp2
     exact HFIN.o
    ·have hL':(lastK l l.length x.1==(k:Int))=false:=by simpa using hL
     have HFIN:Hid (KeepsR W1.heap.size (zyf a0) V V∧∃n',n'≤n+(j+1)∧MapC V w1.heap.size n' (zgo (lastK l l.length) k (zfe l (lastK l l.length) k) (t.info.drop (t.info.length - (j+1))))∧But w1.heap.size W2.heap.size W2 V):=by
      refine⟨KeepsR.refl _ _ _,n',by omega,?_,HBT.o⟩;rw[HDR.o,z1h hL];exact HM.o
     clear hL
     gi_wp2
     exact⟨⟨rfl,rfl⟩,HFIN.o⟩
   case done=>
    rintro D V hD ⟨n',hn',hM,hBt⟩ hK;have hsV:=hBt.size
    have HM9:Hid (MapC V w1.heap.size n' (zfe l (lastK l l.length) (k+1))):=by
     rw[Nat.sub_self,List.drop_zero] at hM;rw[Hid,zfe,←HTE.o];exact hM
    have HB9:Hid (Below w1.heap.size w1 V):=(zae HB.o HBR.o).trans ⟨hBt.os,hBt.tape,hBt.output,hBt.size,fun q hq=>hBt.block q (by omega) (by omega)⟩;have HL9:=zaa ((hBt.block (w1.heap.size+1) (by omega) (by omega)).trans HBL2.o);have HN9:=zaa ((hBt.block (w1.heap.size+1+1) (by omega) (by omega)).trans HBN2.o)
    have HS9:Hid ((D::Ms).Nodup∧∀r∈D::Ms,w1.heap.size+1+1<r∧V.heap[r]?=some (.deferred (some []))):=by
     refine⟨List.nodup_cons.2 ⟨fun h=>?_,HMS2.o.1⟩,fun r hr=>?_⟩
     ·have:=(HMS2.o.2 D h).2.1;omega
     ·rcases List.mem_cons.1 hr with rfl|h
      ·exact⟨by omega,hK⟩
      ·have h3:=HMS2.o.2 r h
       exact⟨h3.1,(hBt.block r (by omega) (by omega)).trans h3.2.2⟩
    have hf12:=hfew.2.1;have hz9:w1.heap.size+1+1<V.heap.size:=by omega
    clear hM hBt hK
    gi_wp2
    have ek:((k+1:Nat):Int)=(k:Int)+1:=by simp
    rw[←ek];refine⟨⟨k+1,n',D::Ms,_,_,_,_,_,_,_,_,_,_,_,_,_,_,_,_,_,_,_,_,_,_,_,rfl,by omega,by omega,HM9,HB9,hz9,HL9,HN9,HS9⟩,?_⟩;simp[intOf];omega
  ·have e:k=l.length:=by omega
   subst e;have hmk:=HMS.o;obtain⟨V,hV⟩:∃V,V=z3d Ms wr:=⟨_,rfl⟩;have hVo:∀j,j≤w1.heap.size+1+1→V.heap[j]?=wr.heap[j]?:=fun j hj=>by rw[hV];exact znb Ms wr j (fun r hr=>by have:=(hmk.2 r hr).1;omega)
   have HVM:Hid (MapC V w1.heap.size n (zfe l (lastK l l.length) l.length)):=HMC.o.block (hVo _ (by omega))
   have HVB:Hid (Below w.heap.size w V):=by
    have h1:Below w1.heap.size w1 V:=HB.o.trans (by rw[hV];exact znc Ms wr (fun r hr=>by have:=(hmk.2 r hr).1;omega) hmk.1 (fun r hr=>(hmk.2 r hr).2));exact zae HB1.o h1
   have g4:=cell_of_row wr _ 0 _ _ _ HBN.o;have HV:=zaa hV;have HMK:=zaa hmk;clear hVo hV hmk
   gi_wp2
   refine zjy Ms _ HMK.o.1 (fun r hr=>(HMK.o.2 r hr).2) ?_;rw[←HV.o];refine⟨.map (some w1.heap.size),by simp[results,Tryz.results116,go_sem],w1.heap.size,n,rfl,HVM.o,HB1.o.size,HVB.o⟩
end Go.Proofs.YtjnpndfpajjihacGreat

