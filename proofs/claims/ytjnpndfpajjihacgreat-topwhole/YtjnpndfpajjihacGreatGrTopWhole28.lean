/-
  
-/
import Derived.Test.YtjnpndfpajjihacGreatGrTopWhole25
import Derived.Test.YtjnpndfpajjihacGreatGrTopWhole27
set_option maxRecDepth 100000
set_option maxHeartbeats 40000000
namespace Go.Proofs.YtjnpndfpajjihacGreat
open Go.RowKit Go.Shelf
attribute [local go_sem] Oper.semAt_some
def zga (b:Int):List (Int×ByteArray)→Option (Int×ByteArray)
 |[]=>none
 |x::r=>if x.1=b then some x else zga b r
def zgx (L:Int→Int)(k:Nat)(f:Int→Option (Int×ByteArray))(m:List (Int×ByteArray)):Int→Option (Int×ByteArray):=fun z=>match zga z m with
 |some c=>if L z=(k:Int) then some c else f z
 |none=>f z
def zfq (l:List Tx)(L:Int→Int):Nat→Int→Option (Int×ByteArray)
 |0=>fun _=>none
 |k+1=>zgx L k (zfq l L k) (l.getD k txz).info
theorem zy5 {L:Int→Int}{k:Nat}{x:Int×ByteArray}(h:L x.1=(k:Int))(f:Int→Option (Int×ByteArray))(r:List (Int×ByteArray)):zgx L k f (x::r)=fun z=>if z=x.1 then some (x.1,x.2) else zgx L k f r z:=by
 funext z
 by_cases e:z=x.1
 ·subst e;simp[zgx,zga,h]
 ·have:¬x.1=z:=fun y=>e y.symm;simp[zgx,zga,e,this]
theorem z2j {L:Int→Int}{k:Nat}{x:Int×ByteArray}(h:¬L x.1=(k:Int))(f:Int→Option (Int×ByteArray))(r:List (Int×ByteArray)):zgx L k f (x::r)=zgx L k f r:=by
 funext z
 by_cases e:x.1=z
 ·subst e;simp only[zgx,zga,if_true];cases zga x.1 r<;>simp[h]
 ·simp[zgx,zga,e]
theorem zy6 {α:Type}{m:List α}{j:Nat}{z:α}(h:j<m.length):m.drop j=m.getD j z::m.drop (j+1):=by
 rw[List.drop_eq_getElem_cons h,List.getD,List.getElem?_eq_getElem h];rfl
theorem But.grownR {R base:Nat}{w A B:World}{row:Option Nat}(h:But R base w A)(hg:A.grownBy B row)(hr:∀r,row=some r→base≤r)(hs:base≤w.heap.size:=by omega):But R base w B:=
 h.trans (But.of_below ((Below.refl base A).grown hg (Nat.le_trans hs h.size) hr)) (Nat.le_refl _)
theorem MapC.notCells {w:World}{B n:Nat}{f:Int→Option (Int×ByteArray)}(h:MapC w B n f){o:Obj}(ho:w.heap[B]?=some o):o.isCells=false:=by
 obtain⟨D,⟨es,clock,A,_⟩,_⟩:=h;rw[A] at ho;cases ho;rfl
theorem z4c {m:List (Int×ByteArray)}{j:Nat}(h:j<m.length):m.getD j (0,ByteArray.empty)∈m:=by
 rw[List.getD,List.getElem?_eq_getElem h];exact List.getElem_mem h
def z5l (Ms:List Nat):List Deferred:=Ms.map fun r=>{target:=.collected r,args:=#[]}
def z4d (Ms:List Nat)(w:World):World:=Ms.foldl (fun w r=>w.putObj r (.deferred none)) w
theorem znn (Ms:List Nat)(w:World)(j:Nat)(h:∀r∈Ms,r≠j):(z4d Ms w).heap[j]?=w.heap[j]?:=by
 induction Ms generalizing w with
 |nil=>rfl
 |cons r Ms ih=>
  rw[z4d,List.foldl_cons];refine(ih _ (fun r' hr'=>h r' (by simp[hr']))).trans ?_;exact World.putObj_heap_other (Ne.symm (h r (by simp)))
theorem zno {base:Nat}:∀(Ms:List Nat) (w:World),(∀r∈Ms,base≤r)→Ms.Nodup→(∀r∈Ms,w.heap[r]?=some (.deferred (some [])))→Below base w (z4d Ms w):=by
 intro Ms
 induction Ms with
 |nil=>intro w _ _ _;exact Below.refl _ _
 |cons r Ms ih=>
  intro w hb B hd;have A:=List.nodup_cons.1 B;have C:Below base w (w.putObj r (.deferred none)):=⟨rfl,rfl,rfl,by simp[World.putObj],fun j hj=>World.putObj_heap_other (by have:=hb r (by simp);omega)⟩;exact C.trans (ih _ (fun q hq=>hb q (by simp[hq])) A.2 (fun q hq=>(World.putObj_heap_other (by intro e;subst e;exact A.1 hq)).trans (hd q (by simp[hq]))))
theorem zj5 {F:Fence}{n:Nat}{P:Program}{fn:Func}{tmps:Array Value}{R:Ending→World→Prop}:∀(Ms:List Nat) (w:World),Ms.Nodup→(∀r∈Ms,w.heap[r]?=some (.deferred (some [])))→LeavesIn F n P fn tmps R [] .returning (z4d Ms w)→LeavesInM F n P fn tmps R (z5l Ms) .returning w:=by
 intro Ms
 induction Ms with
 |nil=>intro w _ _ h;exact h
 |cons r Ms ih=>
  intro w B hd h;have A:=List.nodup_cons.1 B;refine⟨by simp,.inl ⟨r,_,rfl,run_takeDeferred (hd r (by simp)),ih _ A.2 (fun q hq=>?_) h⟩⟩;exact(World.putObj_heap_other (by intro e;subst e;exact A.1 hq)).trans (hd q (by simp[hq]))
end Go.Proofs.YtjnpndfpajjihacGreat


namespace Go.Proofs.YtjnpndfpajjihacGreat
open Tryz
open Go.RowKit Go.Shelf
attribute [local go_sem] Oper.semAt_some
theorem zks (a:Option Addr)(c:Nat)(l:List Tx)(w:World)(h:SegTx w a l)(hn:l.length*128≤140737488355328)(hf:∀t∈l,Few t):
  Calls prog 116 #[.slice a l.length c] w fun e w'=>∃B n,e=.returned (.map (some B))∧MapC w' B n (zfq l (lastK l l.length) l.length)∧w.heap.size≤B∧Below w.heap.size w w':=by
 have HS:=zab h;have HW:=zab hf;clear h hf;have X:=fun w:World=>run_makeMap (P:=prog) 175 w;refine(callsIn_wide (n:=9)).1 ?_;refine callsIn_of_wp_marks func116 rfl trivial ?_ rfl;simp only[ntmps116,List.size_toArray,List.length_cons,List.length_nil,Nat.reduceAdd,Nat.reduceSub,Array.replicate_succ,Array.replicate_zero,List.push_toArray,List.append_toArray,List.nil_append,List.cons_append]
 gi_wp2_with fail
 refine⟨trivial,(callsIn_wide.2 (zmv a c l _ HS.o hn HW.o)).mono ?_⟩;rintro e C ⟨y,n1,rfl,C7,H5,A1⟩;have D6:=zab C7;have A5:=zab A1;clear C7 A1
 gi_wp2
 obtain⟨W0,B3⟩:∃W0,W0=((C.alloc (.map #[] 0)).alloc (.cells #[.map (some y)] 213)).alloc (.cells #[.map (some C.heap.size)] 175):=⟨_,rfl⟩;have C6:Below C.heap.size C W0:=by rw[B3];exact zae (zae (zaa _ _) (zaa _ _)) (zaa _ _)
 have A2:W0.heap[C.heap.size]?=some (.map #[] 0)∧W0.heap[C.heap.size+1]?=some (.cells #[.map (some y)] 213 (0,0))∧W0.heap[C.heap.size+1+1]?=some (.cells #[.map (some C.heap.size)] 175 (0,0))∧C.heap.size+1+1<W0.heap.size:=by rw[B3];exact zjz (Below.refl _ _)
 have C0:Hid (MapC W0 C.heap.size 0 (fun _=>none)):=(MapC.made C).block (A2.1.trans (heap_alloc_new C (.map #[] 0)).symm);have B9:=zab A2.2.1;have B6:=zab A2.2.2.1;have E1:=A2.2.2.2;have C9:=zab C6;rw[←B3];clear B3 C6 A2 X
 refine wpIn_loop (fun a' w'=>∃(k n:Nat) (U:List Nat) (u5 u6 u8 u15 u16 u17 u18 u19 u20 u21 u22 u23 u24 u25 u26 u27 u28 u29 u30 u31 u32 u33 u34:Value),a'=⟨#[.slice a l.length c,undef,.map none,.pointer (some ⟨C.heap.size+1,0,none⟩),.pointer (some ⟨C.heap.size+1+1,0,none⟩),u5,u6,undef,u8,.slice a l.length c,.map (some y),.map (some C.heap.size),.slice a l.length c,.int .i64 (l.length:Int),.int .i64 (k:Int),u15,u16,u17,u18,u19,u20,u21,u22,u23,u24,u25,u26,u27,u28,u29,u30,u31,u32,u33,u34,undef],z5l U⟩∧k≤l.length∧n≤12*k∧Hid (MapC w' C.heap.size n (zfq l (lastK l l.length) k))∧Hid (Below C.heap.size C w')∧C.heap.size+1+1<w'.heap.size∧Hid (w'.heap[C.heap.size+1]?=some (.cells #[.map (some y)] 213 (0,0)))∧Hid (w'.heap[C.heap.size+1+1]?=some (.cells #[.map (some C.heap.size)] 175 (0,0)))∧Hid (U.Nodup∧∀r∈U,C.heap.size+1+1<r∧w'.heap[r]?=some (.deferred (some []))))
  (fun a' _=>l.length - (intOf (a'.tmps.getD 14 undef)).toNat) ?start ?round
 case start=>exact⟨0,0,[],undef,undef,undef,undef,undef,undef,undef,undef,undef,undef,undef,undef,undef,undef,undef,undef,undef,undef,undef,undef,undef,undef,undef,rfl,Nat.zero_le _,Nat.zero_le _,C0,C9,E1,B9,B6,List.nodup_nil,fun r J=>by cases J⟩
 case round=>
  rintro _ wr ⟨k,n,U,u5,u6,u8,u15,u16,u17,u18,u19,u20,u21,u22,u23,u24,u25,u26,u27,u28,u29,u30,u31,u32,u33,u34,rfl,hk,H2,B5,HB,G1,D2,C3,Y⟩;clear C0 C9 E1 B9 B6;by_cases hlt:k<l.length
  ·obtain⟨b,A9,rfl,hb,hc⟩:=HS.o.resolve_left (fun e=>absurd hlt (by rw[e];exact Nat.not_lt_zero _));obtain⟨t,ht⟩:∃t,t=l.getD k txz:=⟨_,rfl⟩;have F0:b<C.heap.size:=Nat.lt_of_lt_of_le hb A5.o.size;have E4:=((hc k hlt).below A5.o hb).below HB.o F0;rw[←ht] at E4;have E5:=zab ht;obtain⟨s,c0,a1,c1,r,d,⟨x0,x1,x2,x3,x4,x5,x6,x7,x8,x9⟩,hT⟩:=E4;have HT:=zab hT;have H3:(k:Int)<(l.length:Int):=by omega
   clear hc ht hT
   gi_wp2_with fail
   obtain⟨M,A0⟩:∃M,M=(wr.alloc (.cells #[.int .i64 (k:Int)] 3)).alloc (.cells #[.int .i64 t.seq,.slice s t.info.length c0,.slice a1 t.data.length c1,.slice r t.rev.length d,.bool t.h0.on,.int .i64 t.h0.left,.bool t.h1.on,.int .i64 t.h1.left,.bool t.h2.on,.int .i64 t.h2.left] 40):=⟨_,rfl⟩;have A1:Below wr.heap.size wr M:=by rw[A0];exact zae (zaa _ _) (zaa _ _)
   have C8:Hid (M.heap[wr.heap.size]?=some (.cells #[.int .i64 (k:Int)] 3 (0,0))):=by rw[A0];exact zhe (Below.refl _ _)
   have B7:M.heap.size=wr.heap.size+1+1:=by rw[A0];simp
   rw[←A0];clear A0 x0 x1 x2 x3 x4 x5 x6 x7 x8 x9;refine⟨trivial,(z3i Fence.wide 8 trivial rfl s t.info.length c0 M).mono ?_⟩;rintro e L ⟨rfl,B0⟩;have C1:Below M.heap.size M L:=by rw[B0];exact zaa _ _
   have cS:L.cell? ⟨M.heap.size,0,none⟩=some (.slice s t.info.length c0):=by rw[B0];simp[go_sem]
   have C2:L.heap.size=M.heap.size+1:=by rw[B0];simp
   have O:Below wr.heap.size wr L:=zae A1 C1;have E0:=zab O;have F6:=zab cS;have F1:=zab (zad C1 (show wr.heap.size<M.heap.size by omega) C8.o);have B4:=zab (zad O (show C.heap.size+1<wr.heap.size by omega) D2.o);have C4:=zab (zad O G1 C3.o);have E8:=zab (B5.o.below O);have G6:=zab ((D6.o.below HB.o).below O);have A4:Hid (U.Nodup∧∀r∈U,C.heap.size+1+1<r∧r<wr.heap.size∧L.heap[r]?=some (.deferred (some []))):=⟨Y.o.1,fun r J=>⟨(Y.o.2 r J).1,(Array.getElem?_eq_some_iff.1 (Y.o.2 r J).2).1,zad O (Array.getElem?_eq_some_iff.1 (Y.o.2 r J).2).1 (Y.o.2 r J).2⟩⟩;have u:=HW.o t (by rw[E5.o];exact List.mem_of_getElem? (z1q hlt));have H4:M.heap.size<L.heap.size:=by omega
   have H0:wr.heap.size<M.heap.size:=by omega
   have H1:=zab B7;have G9:=zab C2;clear B0 A1 C1 C8 D2 C3 B5 Y cS O B7 C2
   gi_wp2_with fail
   have B2:=HT.o.rows;have A8:SegW L s t.info:=B2.1.below E0.o;have F2:=zab A8;clear B2 A8
   refine zwc (F:=Fence.wide) (n:=9) rfl (by decide) (gf:=192) (lb:=#[.pointer (some ⟨M.heap.size,0,none⟩)]) rfl trivial (enters_of func192 (by kernel_rfl) rfl)
    (zrt Fence.wide 8 trivial rfl (by decide) M.heap.size c0 s t.info (by have:=u.2.1;unfold maxLen;omega) L (by omega) F6.o F2.o) (Below.refl _ _) KeepsR.trans KeepsR.put (fun _=>rfl)
    (fun j V=>∃I,I≤n+j∧MapC V C.heap.size I (zgx (lastK l l.length) k (zfq l (lastK l l.length) k) (t.info.drop (t.info.length - j)))∧But C.heap.size L.heap.size L V)
    ?own ?drew ?start
    (fun j a' V=>∃B8 I,a'=⟨#[.slice (some ⟨b,A9,none⟩) l.length c,undef,.map none,.pointer (some ⟨C.heap.size+1,0,none⟩),.pointer (some ⟨C.heap.size+1+1,0,none⟩),.pointer (some ⟨wr.heap.size,0,none⟩),.pointer (some ⟨wr.heap.size+1,0,none⟩),undef,.pointer (some ⟨B8,0,none⟩),.slice (some ⟨b,A9,none⟩) l.length c,.map (some y),.map (some C.heap.size),.slice (some ⟨b,A9,none⟩) l.length c,.int .i64 (l.length:Int),.int .i64 (k:Int),.bool true,.int .i64 (k:Int),.pointer (some ⟨b,A9+k*10,none⟩),.agg #[.int .i64 t.seq,.slice s t.info.length c0,.slice a1 t.data.length c1,.slice r t.rev.length d,.bool t.h0.on,.int .i64 t.h0.left,.bool t.h1.on,.int .i64 t.h1.left,.bool t.h2.on,.int .i64 t.h2.left],.pointer (some ⟨wr.heap.size+1,1,none⟩),.slice s t.info.length c0,.func (.func 192) #[] #[.pointer (some ⟨M.heap.size,0,none⟩)],.int .i64 ((t.info.length - 1 - j:Nat):Int),.agg #[.int .i64 (t.info.getD (t.info.length - 1 - j) (0,ByteArray.empty)).1,.string (t.info.getD (t.info.length - 1 - j) (0,ByteArray.empty)).2],u24,u25,u26,u27,u28,u29,u30,u31,u32,u33,u34,undef],[]⟩∧I≤n+j∧MapC V C.heap.size I (zgx (lastK l l.length) k (zfq l (lastK l l.length) k) (t.info.drop (t.info.length - j)))∧But C.heap.size L.heap.size L V∧L.heap.size≤B8∧V.heap[B8]?=some (.cells #[.int .i64 (t.info.getD (t.info.length - 1 - j) (0,ByteArray.empty)).1,.string (t.info.getD (t.info.length - 1 - j) (0,ByteArray.empty)).2] 84 (0,0)))
    ?ownJ ?assign ?body ?done
   case own=>
    rintro j A B row ⟨I,S,N,E⟩ i J;exact⟨I,S,N.block (i.block _ N.lt (fun e=>by have:=(J _ e.symm).1;omega)),E.grownR i (fun r e=>(J r e).1)⟩
   case drew=>
    rintro j V ⟨I,S,N,E⟩;exact⟨I,S,N.block rfl,E.trans (But.of_below ((Below.refl L.heap.size _).drew)) (Nat.le_refl _)⟩
   case start=>
    refine⟨n,Nat.le_refl _,?_,But.of_below (Below.refl _ _)⟩;rw[Nat.sub_zero,List.drop_length];exact E8.o
   case ownJ=>
    rintro j a' A B row ⟨B8,I,rfl,S,N,E,D8,Z⟩ i J;refine⟨B8,I,rfl,S,N.block (i.block _ N.lt (fun e=>by have:=(J _ e.symm).1;omega)),E.grownR i (fun r e=>(J r e).1),D8,?_⟩;refine(i.block _ (Array.getElem?_eq_some_iff.1 Z).1 (fun e=>?_)).trans Z;obtain⟨_,o,m,hc⟩:=J _ e.symm;rw[Z] at m;cases m;cases hc
   case assign=>
    rintro lp j V K F4 ⟨I,S,N,E⟩ F3 hK;unfold z5k;obtain⟨x,p⟩:∃x,x=(t.info.getD (t.info.length - 1 - j) (0,ByteArray.empty)):=⟨_,rfl⟩;rw[←p];have E2:=fun q (hq:q<V.heap.size)=>Below.heap_alloc V (.cells #[.int .i64 x.1,.string x.2] 84) q hq;have A7:=zab E2;have HK:=zab hK;have HM:=zab N;have HX:=zab p;clear E2 hK N p
    gi_wp2
    refine HK.o _ _ (A7.o _ (by omega)) (A7.o _ (by omega)) (fun q _ o m _=>(A7.o q (Array.getElem?_eq_some_iff.1 m).1).trans m) ⟨V.heap.size,I,?_,S,HM.o.block (A7.o _ HM.o.lt),E.trans (But.of_below ((Below.refl L.heap.size V).alloc E.size _)) (Nat.le_refl _),E.size,?_⟩
    ·rw[←HX.o]
    ·rw[←HX.o];exact heap_alloc_new V _
   case body=>
    rintro lp j _ V F4 ⟨B8,I,rfl,S,N,E,D8,Z⟩ F3;obtain⟨x,p⟩:∃x,x=(t.info.getD (t.info.length - 1 - j) (0,ByteArray.empty)):=⟨_,rfl⟩;rw[←p] at Z⊢;have E6:x∈t.info:=by rw[p];exact z4c (by omega)
    have D3:=u.2.2.2 x E6;have D1:=zab D3;have E9:=u.2.1
    have A6:t.info.drop (t.info.length - (j+1))=x::t.info.drop (t.info.length - j):=by
     rw[zy6 (z:=(0,ByteArray.empty)) (show t.info.length - (j+1)<t.info.length by omega),show t.info.length - (j+1)+1=t.info.length - j from by omega,p,show t.info.length - 1 - j=t.info.length - (j+1) from by omega]
    have C5:(Lit.int .i64 x.1).wf=true:=wfI (by omega) (by omega);have G8:y<C.heap.size:=D6.o.lt;have D4:MapI V y n1 (lastK l l.length):=G6.o.block (E.block y (by omega) (by omega));have H9:=D4.look x.1 C5;have g3:=cell_of_row V _ 0 _ _ _ ((E.block (C.heap.size+1) (by omega) (by omega)).trans B4.o);have g4:=cell_of_row V _ 0 _ _ _ ((E.block (C.heap.size+1+1) (by omega) (by omega)).trans C4.o);have g5:=cell_of_row V _ 0 _ _ _ ((E.block wr.heap.size (by omega) (by omega)).trans F1.o);obtain⟨⟨H6,H7⟩,_⟩:=zgk Z;have HM:=zab N;have D7:=zab E;have D9:=zab A6;have HX:=zab p;have F5:=E.size;clear N E A6 p D4 Z E6 D3 C5;by_cases hL:lastK l l.length x.1=(k:Int)
    ·obtain⟨V2,H8,E3,Q⟩:=HM.o.store x.1 x.1 x.2 (wfI (by have:=D1.o;omega) (by have:=D1.o;omega)) (by unfold maxLen;omega);have G3:(lastK l l.length x.1==(k:Int))=true:=by simpa using hL
     have A3:Hid ((V2.heap[L.heap.size]?=V.heap[L.heap.size]?∧V2.heap[L.heap.size+1]?=V.heap[L.heap.size+1]?)∧KeepsR M.heap.size (zy4 s) V V2∧∃I,I≤n+(j+1)∧MapC V2 C.heap.size I (zgx (lastK l l.length) k (zfq l (lastK l l.length) k) (t.info.drop (t.info.length - (j+1))))∧But C.heap.size L.heap.size L V2):=by
      refine⟨⟨Q.block _ (by omega) (fun e=>by simp at e;omega),Q.block _ (by omega) (fun e=>by simp at e;omega)⟩,?_,I+1,by omega,?_,D7.o.trans ⟨(But.of_below (R:=0) ((Below.refl 0 V).grown Q (Nat.zero_le _) (fun _ _=>Nat.zero_le _))).os,(But.of_below (R:=0) ((Below.refl 0 V).grown Q (Nat.zero_le _) (fun _ _=>Nat.zero_le _))).tape,(But.of_below (R:=0) ((Below.refl 0 V).grown Q (Nat.zero_le _) (fun _ _=>Nat.zero_le _))).output,Q.size,fun q hq hne=>Q.block q (by omega) (fun e=>hne (by simpa using e))⟩ (Nat.le_refl _)⟩
      ·intro q _ o m hc;refine(Q.block q (Array.getElem?_eq_some_iff.1 m).1 (fun e=>?_)).trans m;have e':q=C.heap.size:=by simpa using e
       subst e';rw[HM.o.notCells m] at hc;cases hc
      ·rw[D9.o,zy5 hL];exact E3
     clear E3 Q hL
     gi_wp2
     exact A3.o
    ·have G3:(lastK l l.length x.1==(k:Int))=false:=by simpa using hL
     have A3:Hid (KeepsR M.heap.size (zy4 s) V V∧∃I,I≤n+(j+1)∧MapC V C.heap.size I (zgx (lastK l l.length) k (zfq l (lastK l l.length) k) (t.info.drop (t.info.length - (j+1))))∧But C.heap.size L.heap.size L V):=by
      refine⟨KeepsR.refl _ _ _,I,by omega,?_,D7.o⟩;rw[D9.o,z2j hL];exact HM.o
     clear hL
     gi_wp2
     exact⟨⟨rfl,rfl⟩,A3.o⟩
   case done=>
    rintro D V hD ⟨I,S,N,E⟩ hK;have F5:=E.size
    have G7:Hid (MapC V C.heap.size I (zfq l (lastK l l.length) (k+1))):=by
     rw[Nat.sub_self,List.drop_zero] at N;rw[Hid,zfq,←E5.o];exact N
    have G2:Hid (Below C.heap.size C V):=(zae HB.o E0.o).trans ⟨E.os,E.tape,E.output,E.size,fun q hq=>E.block q (by omega) (by omega)⟩;have F7:=zab ((E.block (C.heap.size+1) (by omega) (by omega)).trans B4.o);have G4:=zab ((E.block (C.heap.size+1+1) (by omega) (by omega)).trans C4.o)
    have F8:Hid ((D::U).Nodup∧∀r∈D::U,C.heap.size+1+1<r∧V.heap[r]?=some (.deferred (some []))):=by
     refine⟨List.nodup_cons.2 ⟨fun h=>?_,A4.o.1⟩,fun r J=>?_⟩
     ·have:=(A4.o.2 D h).2.1;omega
     ·rcases List.mem_cons.1 J with rfl|h
      ·exact⟨by omega,hK⟩
      ·have h3:=A4.o.2 r h;exact⟨h3.1,(E.block r (by omega) (by omega)).trans h3.2.2⟩
    have E9:=u.2.1;have F9:C.heap.size+1+1<V.heap.size:=by omega
    clear N E hK
    gi_wp2
    have ek:((k+1:Nat):Int)=(k:Int)+1:=by simp
    rw[←ek];refine⟨⟨k+1,I,D::U,_,_,_,_,_,_,_,_,_,_,_,_,_,_,_,_,_,_,_,_,_,_,_,rfl,by omega,by omega,G7,G2,F9,F7,G4,F8⟩,?_⟩;simp[intOf];omega
  ·have e:k=l.length:=by omega
   subst e;have X:=Y.o;obtain⟨V,hV⟩:∃V,V=z4d U wr:=⟨_,rfl⟩;have D5:∀j,j≤C.heap.size+1+1→V.heap[j]?=wr.heap[j]?:=fun j hj=>by rw[hV];exact znn U wr j (fun r J=>by have:=(X.2 r J).1;omega)
   have G0:Hid (MapC V C.heap.size n (zfq l (lastK l l.length) l.length)):=B5.o.block (D5 _ (by omega))
   have G5:Hid (Below w.heap.size w V):=by
    have h1:Below C.heap.size C V:=HB.o.trans (by rw[hV];exact zno U wr (fun r J=>by have:=(X.2 r J).1;omega) X.1 (fun r J=>(X.2 r J).2));exact zae A5.o h1
   have g4:=cell_of_row wr _ 0 _ _ _ C3.o;have HV:=zab hV;have E7:=zab X;clear D5 hV X
   gi_wp2
   refine zj5 U _ E7.o.1 (fun r J=>(E7.o.2 r J).2) ?_;rw[←HV.o];refine⟨.map (some C.heap.size),by simp[results,results116,go_sem],C.heap.size,n,rfl,G0.o,A5.o.size,G5.o⟩
end Go.Proofs.YtjnpndfpajjihacGreat

