/-
  
-/
import Derived.Test.YtjnpndfpajjihacGreatGrTopOrdered24
import Derived.Test.YtjnpndfpajjihacGreatGrTopOrdered26
set_option maxRecDepth 100000
set_option maxHeartbeats 40000000
namespace Go.Proofs.YtjnpndfpajjihacGreat
open Go.RowKit Go.Shelf
attribute [local go_sem] Oper.semAt_some
def zgf (b:Int):List (Int×ByteArray)→Option (Int×ByteArray)
 |[]=>none
 |x::r=>if x.1=b then some x else zgf b r
def zg4 (L:Int→Int)(k:Nat)(f:Int→Option (Int×ByteArray))(m:List (Int×ByteArray)):Int→Option (Int×ByteArray):=fun z=>match zgf z m with
 |some c=>if L z=(k:Int) then some c else f z
 |none=>f z
def zfu (l:List Tx)(L:Int→Int):Nat→Int→Option (Int×ByteArray)
 |0=>fun _=>none
 |k+1=>zg4 L k (zfu l L k) (l.getD k txz).info
theorem zza{L:Int→Int}{k:Nat}{x:Int×ByteArray}(h:L x.1=(k:Int))(f:Int→Option (Int×ByteArray))(r:List (Int×ByteArray)):zg4 L k f (x::r)=fun z=>if z=x.1 then some (x.1,x.2) else zg4 L k f r z:=by
 funext z
 by_cases e:z=x.1
 ·subst e;simp[zg4,zgf,h]
 ·have:¬x.1=z:=fun y=>e y.symm;simp[zg4,zgf,e,this]
theorem z2k{L:Int→Int}{k:Nat}{x:Int×ByteArray}(h:¬L x.1=(k:Int))(f:Int→Option (Int×ByteArray))(r:List (Int×ByteArray)):zg4 L k f (x::r)=zg4 L k f r:=by
 funext z
 by_cases e:x.1=z
 ·subst e;simp only[zg4,zgf,if_true];cases zgf x.1 r<;>simp[h]
 ·simp[zg4,zgf,e]
theorem zzb{α:Type}{m:List α}{j:Nat}{z:α}(h:j<m.length):m.drop j=m.getD j z::m.drop (j+1):=by
 rw[List.drop_eq_getElem_cons h,List.getD,List.getElem?_eq_getElem h];rfl
theorem But.grownR{R base:Nat}{w A B:World}{row:Option Nat}(h:But R base w A)(hg:A.grownBy B row)(hr:∀r,row=some r→base≤r)(hs:base≤w.heap.size:=by omega):But R base w B:=
 h.trans (But.of_below ((Below.refl base A).grown hg (Nat.le_trans hs h.size) hr)) (Nat.le_refl _)
theorem MapC.notCells{w:World}{B n:Nat}{f:Int→Option (Int×ByteArray)}(h:MapC w B n f){o:Obj}(ho:w.heap[B]?=some o):o.isCells=false:=by
 obtain⟨D,⟨es,clock,A,_⟩,_⟩:=h;rw[A]at ho;cases ho;rfl
theorem z4e{m:List (Int×ByteArray)}{j:Nat}(h:j<m.length):m.getD j (0,ByteArray.empty)∈m:=by
 rw[List.getD,List.getElem?_eq_getElem h];exact List.getElem_mem h
def z5i (Ms:List Nat):List Deferred:=Ms.map fun r=>{target:=.collected r,args:=#[]}
def z4f (Ms:List Nat)(w:World):World:=Ms.foldl (fun w r=>w.putObj r (.deferred none)) w
theorem znv(Ms:List Nat)(w:World)(j:Nat)(h:∀r∈Ms,r≠j):(z4f Ms w).heap[j]?=w.heap[j]?:=by
 induction Ms generalizing w with
 |nil=>rfl
 |cons r Ms ih=>
  rw[z4f,List.foldl_cons];refine(ih _ (fun r' hr'=>h r' (by simp[hr']))).trans ?_;exact World.putObj_heap_other (Ne.symm (h r (by simp)))
theorem znw{base:Nat}:∀(Ms:List Nat) (w:World),(∀r∈Ms,base≤r)→Ms.Nodup→(∀r∈Ms,w.heap[r]?=some (.deferred (some [])))→Below base w (z4f Ms w):=by
 intro Ms
 induction Ms with
 |nil=>intro w _ _ _;exact Below.refl _ _
 |cons r Ms ih=>
  intro w hb B hd;have A:=List.nodup_cons.1 B;have C:Below base w (w.putObj r (.deferred none)):=⟨rfl,rfl,rfl,by simp[World.putObj],fun j hj=>World.putObj_heap_other (by have:=hb r (by simp);omega)⟩;exact C.trans (ih _ (fun q hq=>hb q (by simp[hq])) A.2 (fun q hq=>(World.putObj_heap_other (by intro e;subst e;exact A.1 hq)).trans (hd q (by simp[hq]))))
theorem zkg{F:Fence}{n:Nat}{P:Program}{fn:Func}{tmps:Array Value}{R:Ending→World→Prop}:∀(Ms:List Nat) (w:World),Ms.Nodup→(∀r∈Ms,w.heap[r]?=some (.deferred (some [])))→LeavesIn F n P fn tmps R [] .returning (z4f Ms w)→LeavesInM F n P fn tmps R (z5i Ms) .returning w:=by
 intro Ms
 induction Ms with
 |nil=>intro w _ _ h;exact h
 |cons r Ms ih=>
  intro w B hd h;have A:=List.nodup_cons.1 B;refine⟨by simp,.inl ⟨r,_,rfl,run_takeDeferred (hd r (by simp)),ih _ A.2 (fun q hq=>?_) h⟩⟩;exact(World.putObj_heap_other (by intro e;subst e;exact A.1 hq)).trans (hd q (by simp[hq]))
open Go.Proofs.Tryz
open Go.RowKit Go.Shelf
attribute [local go_sem] Oper.semAt_some
theorem zk3(a:Option Addr)(c:Nat)(l:List Tx)(w:World)(h:SegTx w a l)(hn:l.length*128≤140737488355328)(hf:∀t∈l,Few t):
  Calls prog 116 #[.slice a l.length c] w fun e w'=>∃B n,e=.returned (.map (some B))∧MapC w' B n (zfu l (lastK l l.length) l.length)∧w.heap.size≤B∧Below w.heap.size w w':=by
 have HS:=zab h;have HW:=zab hf;clear h hf;have X:=fun w:World=>run_makeMap (P:=prog) 175 w;refine(callsIn_wide (n:=9)).1 ?_;refine callsIn_of_wp_marks func116 rfl trivial ?_ rfl;simp only[ntmps116,List.size_toArray,List.length_cons,List.length_nil,Nat.reduceAdd,Nat.reduceSub,Array.replicate_succ,Array.replicate_zero,List.push_toArray,List.append_toArray,List.nil_append,List.cons_append]
 gi_wp2_with fail
 refine⟨trivial,(callsIn_wide.2 (zm4 a c l _ HS.o hn HW.o)).mono ?_⟩;rintro e C ⟨B1,n1,rfl,D2,H8,A0⟩;have D5:=zab D2;have B0:=zab A0;clear D2 A0
 gi_wp2
 obtain⟨W0,A9⟩:∃W0,W0=((C.alloc (.map #[] 0)).alloc (.cells #[.map (some B1)] 213)).alloc (.cells #[.map (some C.heap.size)] 175):=⟨_,rfl⟩;have C8:Below C.heap.size C W0:=by rw[A9];exact zae (zae (zaa _ _) (zaa _ _)) (zaa _ _)
 have y:W0.heap[C.heap.size]?=some (.map #[] 0)∧W0.heap[C.heap.size+1]?=some (.cells #[.map (some B1)] 213 (0,0))∧W0.heap[C.heap.size+1+1]?=some (.cells #[.map (some C.heap.size)] 175 (0,0))∧C.heap.size+1+1<W0.heap.size:=by rw[A9];exact zkb (Below.refl _ _)
 have C3:Hid (MapC W0 C.heap.size 0 (fun _=>none)):=(MapC.made C).block (y.1.trans (heap_alloc_new C (.map #[] 0)).symm);have B5:=zab y.2.1;have C0:=zab y.2.2.1;have E3:=y.2.2.2;have D8:=zab C8;rw[←A9];clear A9 C8 y X
 refine wpIn_loop (fun a' w'=>∃(k n:Nat) (U:List Nat) (u5 u6 u8 u15 u16 u17 u18 u19 u20 u21 u22 u23 u24 u25 u26 u27 u28 u29 u30 u31 u32 u33 u34:Value),a'=⟨#[.slice a l.length c,undef,.map none,.pointer (some ⟨C.heap.size+1,0,none⟩),.pointer (some ⟨C.heap.size+1+1,0,none⟩),u5,u6,undef,u8,.slice a l.length c,.map (some B1),.map (some C.heap.size),.slice a l.length c,.int .i64 (l.length:Int),.int .i64 (k:Int),u15,u16,u17,u18,u19,u20,u21,u22,u23,u24,u25,u26,u27,u28,u29,u30,u31,u32,u33,u34,undef],z5i U⟩∧k≤l.length∧n≤12*k∧Hid (MapC w' C.heap.size n (zfu l (lastK l l.length) k))∧Hid (Below C.heap.size C w')∧C.heap.size+1+1<w'.heap.size∧Hid (w'.heap[C.heap.size+1]?=some (.cells #[.map (some B1)] 213 (0,0)))∧Hid (w'.heap[C.heap.size+1+1]?=some (.cells #[.map (some C.heap.size)] 175 (0,0)))∧Hid (U.Nodup∧∀r∈U,C.heap.size+1+1<r∧w'.heap[r]?=some (.deferred (some []))))
  (fun a' _=>l.length - (intOf (a'.tmps.getD 14 undef)).toNat) ?start ?round
 case start=>exact⟨0,0,[],undef,undef,undef,undef,undef,undef,undef,undef,undef,undef,undef,undef,undef,undef,undef,undef,undef,undef,undef,undef,undef,undef,undef,rfl,Nat.zero_le _,Nat.zero_le _,C3,D8,E3,B5,C0,List.nodup_nil,fun r J=>by cases J⟩
 case round=>
  rintro _ wr ⟨k,n,U,u5,u6,u8,u15,u16,u17,u18,u19,u20,u21,u22,u23,u24,u25,u26,u27,u28,u29,u30,u31,u32,u33,u34,rfl,hk,G8,B9,HB,F7,D3,C2,Z⟩;clear C3 D8 E3 B5 C0;by_cases hlt:k<l.length
  ·obtain⟨b,A8,rfl,hb,hc⟩:=HS.o.resolve_left (fun e=>absurd hlt (by rw[e];exact Nat.not_lt_zero _));obtain⟨t,ht⟩:∃t,t=l.getD k txz:=⟨_,rfl⟩;have E7:b<C.heap.size:=Nat.lt_of_lt_of_le hb B0.o.size;have E1:=((hc k hlt).below B0.o hb).below HB.o E7;rw[←ht]at E1;have C6:=zab ht;obtain⟨p,c0,a1,c1,r,d,⟨x0,x1,x2,x3,x4,x5,x6,x7,x8,x9⟩,hT⟩:=E1;have HT:=zab hT;have H3:(k:Int)<(l.length:Int):=by omega
   clear hc ht hT
   gi_wp2_with fail
   obtain⟨M,A1⟩:∃M,M=(wr.alloc (.cells #[.int .i64 (k:Int)] 3)).alloc (.cells #[.int .i64 t.seq,.slice p t.info.length c0,.slice a1 t.data.length c1,.slice r t.rev.length d,.bool t.h0.on,.int .i64 t.h0.left,.bool t.h1.on,.int .i64 t.h1.left,.bool t.h2.on,.int .i64 t.h2.left] 40):=⟨_,rfl⟩;have A0:Below wr.heap.size wr M:=by rw[A1];exact zae (zaa _ _) (zaa _ _)
   have C5:Hid (M.heap[wr.heap.size]?=some (.cells #[.int .i64 (k:Int)] 3 (0,0))):=by rw[A1];exact zgr (Below.refl _ _)
   have B3:M.heap.size=wr.heap.size+1+1:=by rw[A1];simp
   rw[←A1];clear A1 x0 x1 x2 x3 x4 x5 x6 x7 x8 x9;refine⟨trivial,(z3j Fence.wide 8 trivial rfl p t.info.length c0 M).mono ?_⟩;rintro e L ⟨rfl,A7⟩;have B7:Below M.heap.size M L:=by rw[A7];exact zaa _ _
   have cS:L.cell? ⟨M.heap.size,0,none⟩=some (.slice p t.info.length c0):=by rw[A7];simp[go_sem]
   have C1:L.heap.size=M.heap.size+1:=by rw[A7];simp
   have O:Below wr.heap.size wr L:=zae A0 B7;have E6:=zab O;have F3:=zab cS;have F0:=zab (zad B7 (show wr.heap.size<M.heap.size by omega) C5.o);have B6:=zab (zad O (show C.heap.size+1<wr.heap.size by omega) D3.o);have B4:=zab (zad O F7 C2.o);have F2:=zab (B9.o.below O);have G2:=zab ((D5.o.below HB.o).below O);have A2:Hid (U.Nodup∧∀r∈U,C.heap.size+1+1<r∧r<wr.heap.size∧L.heap[r]?=some (.deferred (some []))):=⟨Z.o.1,fun r J=>⟨(Z.o.2 r J).1,(Array.getElem?_eq_some_iff.1 (Z.o.2 r J).2).1,zad O (Array.getElem?_eq_some_iff.1 (Z.o.2 r J).2).1 (Z.o.2 r J).2⟩⟩;have s:=HW.o t (by rw[C6.o];exact List.mem_of_getElem? (z1u hlt));have H1:M.heap.size<L.heap.size:=by omega
   have H0:wr.heap.size<M.heap.size:=by omega
   have H2:=zab B3;have G9:=zab C1;clear A7 A0 B7 C5 D3 C2 B9 Z cS O B3 C1
   gi_wp2_with fail
   have A5:=HT.o.rows;have A6:SegW L p t.info:=A5.1.below E6.o;have E9:=zab A6;clear A5 A6
   refine zwj (F:=Fence.wide) (n:=9) rfl (by decide) (gf:=192) (lb:=#[.pointer (some ⟨M.heap.size,0,none⟩)]) rfl trivial (enters_of func192 (by kernel_rfl) rfl)
    (zrx Fence.wide 8 trivial rfl (by decide) M.heap.size c0 p t.info (by have:=s.2.1;unfold maxLen;omega) L (by omega) F3.o E9.o) (Below.refl _ _) KeepsR.trans KeepsR.put (fun _=>rfl)
    (fun j V=>∃I,I≤n+j∧MapC V C.heap.size I (zg4 (lastK l l.length) k (zfu l (lastK l l.length) k) (t.info.drop (t.info.length - j)))∧But C.heap.size L.heap.size L V)
    ?own ?drew ?start
    (fun j a' V=>∃B8 I,a'=⟨#[.slice (some ⟨b,A8,none⟩) l.length c,undef,.map none,.pointer (some ⟨C.heap.size+1,0,none⟩),.pointer (some ⟨C.heap.size+1+1,0,none⟩),.pointer (some ⟨wr.heap.size,0,none⟩),.pointer (some ⟨wr.heap.size+1,0,none⟩),undef,.pointer (some ⟨B8,0,none⟩),.slice (some ⟨b,A8,none⟩) l.length c,.map (some B1),.map (some C.heap.size),.slice (some ⟨b,A8,none⟩) l.length c,.int .i64 (l.length:Int),.int .i64 (k:Int),.bool true,.int .i64 (k:Int),.pointer (some ⟨b,A8+k*10,none⟩),.agg #[.int .i64 t.seq,.slice p t.info.length c0,.slice a1 t.data.length c1,.slice r t.rev.length d,.bool t.h0.on,.int .i64 t.h0.left,.bool t.h1.on,.int .i64 t.h1.left,.bool t.h2.on,.int .i64 t.h2.left],.pointer (some ⟨wr.heap.size+1,1,none⟩),.slice p t.info.length c0,.func (.func 192) #[] #[.pointer (some ⟨M.heap.size,0,none⟩)],.int .i64 ((t.info.length - 1 - j:Nat):Int),.agg #[.int .i64 (t.info.getD (t.info.length - 1 - j) (0,ByteArray.empty)).1,.string (t.info.getD (t.info.length - 1 - j) (0,ByteArray.empty)).2],u24,u25,u26,u27,u28,u29,u30,u31,u32,u33,u34,undef],[]⟩∧I≤n+j∧MapC V C.heap.size I (zg4 (lastK l l.length) k (zfu l (lastK l l.length) k) (t.info.drop (t.info.length - j)))∧But C.heap.size L.heap.size L V∧L.heap.size≤B8∧V.heap[B8]?=some (.cells #[.int .i64 (t.info.getD (t.info.length - 1 - j) (0,ByteArray.empty)).1,.string (t.info.getD (t.info.length - 1 - j) (0,ByteArray.empty)).2] 84 (0,0)))
    ?ownJ ?assign ?body ?done
   case own=>
    rintro j A B row ⟨I,Q,N,E⟩ i J;exact⟨I,Q,N.block (i.block _ N.lt (fun e=>by have:=(J _ e.symm).1;omega)),E.grownR i (fun r e=>(J r e).1)⟩
   case drew=>
    rintro j V ⟨I,Q,N,E⟩;exact⟨I,Q,N.block rfl,E.trans (But.of_below ((Below.refl L.heap.size _).drew)) (Nat.le_refl _)⟩
   case start=>
    refine⟨n,Nat.le_refl _,?_,But.of_below (Below.refl _ _)⟩;rw[Nat.sub_zero,List.drop_length];exact F2.o
   case ownJ=>
    rintro j a' A B row ⟨B8,I,rfl,Q,N,E,E4,Y⟩ i J;refine⟨B8,I,rfl,Q,N.block (i.block _ N.lt (fun e=>by have:=(J _ e.symm).1;omega)),E.grownR i (fun r e=>(J r e).1),E4,?_⟩;refine(i.block _ (Array.getElem?_eq_some_iff.1 Y).1 (fun e=>?_)).trans Y;obtain⟨_,o,u,hc⟩:=J _ e.symm;rw[Y]at u;cases u;cases hc
   case assign=>
    rintro lp j V K G0 ⟨I,Q,N,E⟩ E8 hK;unfold z5h;obtain⟨x,m⟩:∃x,x=(t.info.getD (t.info.length - 1 - j) (0,ByteArray.empty)):=⟨_,rfl⟩;rw[←m];have C4:=fun q (hq:q<V.heap.size)=>Below.heap_alloc V (.cells #[.int .i64 x.1,.string x.2] 84) q hq;have A4:=zab C4;have HK:=zab hK;have HM:=zab N;have HX:=zab m;clear C4 hK N m
    gi_wp2
    refine HK.o _ _ (A4.o _ (by omega)) (A4.o _ (by omega)) (fun q _ o u _=>(A4.o q (Array.getElem?_eq_some_iff.1 u).1).trans u) ⟨V.heap.size,I,?_,Q,HM.o.block (A4.o _ HM.o.lt),E.trans (But.of_below ((Below.refl L.heap.size V).alloc E.size _)) (Nat.le_refl _),E.size,?_⟩
    ·rw[←HX.o]
    ·rw[←HX.o];exact heap_alloc_new V _
   case body=>
    rintro lp j _ V G0 ⟨B8,I,rfl,Q,N,E,E4,Y⟩ E8;obtain⟨x,m⟩:∃x,x=(t.info.getD (t.info.length - 1 - j) (0,ByteArray.empty)):=⟨_,rfl⟩;rw[←m]at Y⊢;have D1:x∈t.info:=by rw[m];exact z4e (by omega)
    have E2:=s.2.2.2 x D1;have E5:=zab E2;have F1:=s.2.1
    have B2:t.info.drop (t.info.length - (j+1))=x::t.info.drop (t.info.length - j):=by
     rw[zzb (z:=(0,ByteArray.empty)) (show t.info.length - (j+1)<t.info.length by omega),show t.info.length - (j+1)+1=t.info.length - j from by omega,m,show t.info.length - 1 - j=t.info.length - (j+1) from by omega]
    have E0:(Lit.int .i64 x.1).wf=true:=wfI (by omega) (by omega);have G7:B1<C.heap.size:=D5.o.lt;have C7:MapI V B1 n1 (lastK l l.length):=G2.o.block (E.block B1 (by omega) (by omega));have H5:=C7.look x.1 E0;have g3:=cell_of_row V _ 0 _ _ _ ((E.block (C.heap.size+1) (by omega) (by omega)).trans B6.o);have g4:=cell_of_row V _ 0 _ _ _ ((E.block (C.heap.size+1+1) (by omega) (by omega)).trans B4.o);have g5:=cell_of_row V _ 0 _ _ _ ((E.block wr.heap.size (by omega) (by omega)).trans F0.o);obtain⟨⟨H7,H6⟩,_⟩:=zgq Y;have HM:=zab N;have D4:=zab E;have D7:=zab B2;have HX:=zab m;have G4:=E.size;clear N E B2 m C7 Y D1 E2 E0;by_cases hL:lastK l l.length x.1=(k:Int)
    ·obtain⟨V2,H4,D9,S⟩:=HM.o.store x.1 x.1 x.2 (wfI (by have:=E5.o;omega) (by have:=E5.o;omega)) (by unfold maxLen;omega);have F6:(lastK l l.length x.1==(k:Int))=true:=by simpa using hL
     have A3:Hid ((V2.heap[L.heap.size]?=V.heap[L.heap.size]?∧V2.heap[L.heap.size+1]?=V.heap[L.heap.size+1]?)∧KeepsR M.heap.size (zy9 p) V V2∧∃I,I≤n+(j+1)∧MapC V2 C.heap.size I (zg4 (lastK l l.length) k (zfu l (lastK l l.length) k) (t.info.drop (t.info.length - (j+1))))∧But C.heap.size L.heap.size L V2):=by
      refine⟨⟨S.block _ (by omega) (fun e=>by simp at e;omega),S.block _ (by omega) (fun e=>by simp at e;omega)⟩,?_,I+1,by omega,?_,D4.o.trans ⟨(But.of_below (R:=0) ((Below.refl 0 V).grown S (Nat.zero_le _) (fun _ _=>Nat.zero_le _))).os,(But.of_below (R:=0) ((Below.refl 0 V).grown S (Nat.zero_le _) (fun _ _=>Nat.zero_le _))).tape,(But.of_below (R:=0) ((Below.refl 0 V).grown S (Nat.zero_le _) (fun _ _=>Nat.zero_le _))).output,S.size,fun q hq hne=>S.block q (by omega) (fun e=>hne (by simpa using e))⟩ (Nat.le_refl _)⟩
      ·intro q _ o u hc;refine(S.block q (Array.getElem?_eq_some_iff.1 u).1 (fun e=>?_)).trans u;have e':q=C.heap.size:=by simpa using e
       subst e';rw[HM.o.notCells u]at hc;cases hc
      ·rw[D7.o,zza hL];exact D9
     clear D9 S hL
     gi_wp2
     exact A3.o
    ·have F6:(lastK l l.length x.1==(k:Int))=false:=by simpa using hL
     have A3:Hid (KeepsR M.heap.size (zy9 p) V V∧∃I,I≤n+(j+1)∧MapC V C.heap.size I (zg4 (lastK l l.length) k (zfu l (lastK l l.length) k) (t.info.drop (t.info.length - (j+1))))∧But C.heap.size L.heap.size L V):=by
      refine⟨KeepsR.refl _ _ _,I,by omega,?_,D4.o⟩;rw[D7.o,z2k hL];exact HM.o
     clear hL
     gi_wp2
     exact⟨⟨rfl,rfl⟩,A3.o⟩
   case done=>
    rintro D V hD ⟨I,Q,N,E⟩ hK;have G4:=E.size
    have G6:Hid (MapC V C.heap.size I (zfu l (lastK l l.length) (k+1))):=by
     rw[Nat.sub_self,List.drop_zero]at N;rw[Hid,zfu,←C6.o];exact N
    have G1:Hid (Below C.heap.size C V):=(zae HB.o E6.o).trans ⟨E.os,E.tape,E.output,E.size,fun q hq=>E.block q (by omega) (by omega)⟩;have F5:=zab ((E.block (C.heap.size+1) (by omega) (by omega)).trans B6.o);have G3:=zab ((E.block (C.heap.size+1+1) (by omega) (by omega)).trans B4.o)
    have F4:Hid ((D::U).Nodup∧∀r∈D::U,C.heap.size+1+1<r∧V.heap[r]?=some (.deferred (some []))):=by
     refine⟨List.nodup_cons.2 ⟨fun h=>?_,A2.o.1⟩,fun r J=>?_⟩
     ·have:=(A2.o.2 D h).2.1;omega
     ·rcases List.mem_cons.1 J with rfl|h
      ·exact⟨by omega,hK⟩
      ·have h3:=A2.o.2 r h;exact⟨h3.1,(E.block r (by omega) (by omega)).trans h3.2.2⟩
    have F1:=s.2.1;have F8:C.heap.size+1+1<V.heap.size:=by omega
    clear N E hK
    gi_wp2
    have ek:((k+1:Nat):Int)=(k:Int)+1:=by simp
    rw[←ek];refine⟨⟨k+1,I,D::U,_,_,_,_,_,_,_,_,_,_,_,_,_,_,_,_,_,_,_,_,_,_,_,rfl,by omega,by omega,G6,G1,F8,F5,G3,F4⟩,?_⟩;simp[intOf];omega
  ·have e:k=l.length:=by omega
   subst e;have X:=Z.o;obtain⟨V,hV⟩:∃V,V=z4f U wr:=⟨_,rfl⟩;have D6:∀j,j≤C.heap.size+1+1→V.heap[j]?=wr.heap[j]?:=fun j hj=>by rw[hV];exact znv U wr j (fun r J=>by have:=(X.2 r J).1;omega)
   have F9:Hid (MapC V C.heap.size n (zfu l (lastK l l.length) l.length)):=B9.o.block (D6 _ (by omega))
   have G5:Hid (Below w.heap.size w V):=by
    have h1:Below C.heap.size C V:=HB.o.trans (by rw[hV];exact znw U wr (fun r J=>by have:=(X.2 r J).1;omega) X.1 (fun r J=>(X.2 r J).2));exact zae B0.o h1
   have g4:=cell_of_row wr _ 0 _ _ _ C2.o;have HV:=zab hV;have C9:=zab X;clear D6 hV X
   gi_wp2
   refine zkg U _ C9.o.1 (fun r J=>(C9.o.2 r J).2) ?_;rw[←HV.o];refine⟨.map (some C.heap.size),by simp[results,results116,go_sem],C.heap.size,n,rfl,F9.o,B0.o.size,G5.o⟩
