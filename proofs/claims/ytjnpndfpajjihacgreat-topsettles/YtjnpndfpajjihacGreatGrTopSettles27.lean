/-
  
-/
import Derived.Test.YtjnpndfpajjihacGreatGrTopSettles24
import Derived.Test.YtjnpndfpajjihacGreatGrTopSettles26
set_option maxRecDepth 100000
set_option maxHeartbeats 40000000
namespace Go.Proofs.YtjnpndfpajjihacGreat
open Go.RowKit Go.Shelf
attribute [local go_sem] Oper.semAt_some
def zgg (b:Int):List (Int×ByteArray)→Option (Int×ByteArray)
 |[]=>none
 |x::r=>if x.1=b then some x else zgg b r
def zg5 (L:Int→Int)(k:Nat)(f:Int→Option (Int×ByteArray))(m:List (Int×ByteArray)):Int→Option (Int×ByteArray):=fun z=>match zgg z m with
 |some c=>if L z=(k:Int) then some c else f z
 |none=>f z
def zfw (l:List Tx)(L:Int→Int):Nat→Int→Option (Int×ByteArray)
 |0=>fun _=>none
 |k+1=>zg5 L k (zfw l L k) (l.getD k txz).info
theorem zy5{L:Int→Int}{k:Nat}{x:Int×ByteArray}(h:L x.1=(k:Int))(f:Int→Option (Int×ByteArray))(r:List (Int×ByteArray)):zg5 L k f (x::r)=fun z=>if z=x.1 then some (x.1,x.2) else zg5 L k f r z:=by
 funext z
 by_cases e:z=x.1
 ·subst e;simp[zg5,zgg,h]
 ·have:¬x.1=z:=fun y=>e y.symm;simp[zg5,zgg,e,this]
theorem z2d{L:Int→Int}{k:Nat}{x:Int×ByteArray}(h:¬L x.1=(k:Int))(f:Int→Option (Int×ByteArray))(r:List (Int×ByteArray)):zg5 L k f (x::r)=zg5 L k f r:=by
 funext z
 by_cases e:x.1=z
 ·subst e;simp only[zg5,zgg,if_true];cases zgg x.1 r<;>simp[h]
 ·simp[zg5,zgg,e]
theorem zy6{α:Type}{m:List α}{j:Nat}{z:α}(h:j<m.length):m.drop j=m.getD j z::m.drop (j+1):=by
 rw[List.drop_eq_getElem_cons h,List.getD,List.getElem?_eq_getElem h];rfl
theorem But.grownR{R base:Nat}{w A B:World}{row:Option Nat}(h:But R base w A)(hg:A.grownBy B row)(hr:∀r,row=some r→base≤r)(hs:base≤w.heap.size:=by omega):But R base w B:=
 h.trans (But.of_below ((Below.refl base A).grown hg (Nat.le_trans hs h.size) hr)) (Nat.le_refl _)
theorem MapC.notCells{w:World}{B n:Nat}{f:Int→Option (Int×ByteArray)}(h:MapC w B n f){o:Obj}(ho:w.heap[B]?=some o):o.isCells=false:=by
 obtain⟨D,⟨es,clock,A,_⟩,_⟩:=h;rw[A]at ho;cases ho;rfl
theorem z36{m:List (Int×ByteArray)}{j:Nat}(h:j<m.length):m.getD j (0,ByteArray.empty)∈m:=by
 rw[List.getD,List.getElem?_eq_getElem h];exact List.getElem_mem h
def z5c (Ms:List Nat):List Deferred:=Ms.map fun r=>{target:=.collected r,args:=#[]}
def z38 (Ms:List Nat)(w:World):World:=Ms.foldl (fun w r=>w.putObj r (.deferred none)) w
theorem znh(Ms:List Nat)(w:World)(j:Nat)(h:∀r∈Ms,r≠j):(z38 Ms w).heap[j]?=w.heap[j]?:=by
 induction Ms generalizing w with
 |nil=>rfl
 |cons r Ms ih=>
  rw[z38,List.foldl_cons];refine(ih _ (fun r' hr'=>h r' (by simp[hr']))).trans ?_;exact World.putObj_heap_other (Ne.symm (h r (by simp)))
theorem zni{base:Nat}:∀(Ms:List Nat) (w:World),(∀r∈Ms,base≤r)→Ms.Nodup→(∀r∈Ms,w.heap[r]?=some (.deferred (some [])))→Below base w (z38 Ms w):=by
 intro Ms
 induction Ms with
 |nil=>intro w _ _ _;exact Below.refl _ _
 |cons r Ms ih=>
  intro w hb B hd;have A:=List.nodup_cons.1 B;have C:Below base w (w.putObj r (.deferred none)):=⟨rfl,rfl,rfl,by simp[World.putObj],fun j hj=>World.putObj_heap_other (by have:=hb r (by simp);omega)⟩;exact C.trans (ih _ (fun q hq=>hb q (by simp[hq])) A.2 (fun q hq=>(World.putObj_heap_other (by intro e;subst e;exact A.1 hq)).trans (hd q (by simp[hq]))))
theorem zka{F:Fence}{n:Nat}{P:Program}{fn:Func}{tmps:Array Value}{R:Ending→World→Prop}:∀(Ms:List Nat) (w:World),Ms.Nodup→(∀r∈Ms,w.heap[r]?=some (.deferred (some [])))→LeavesIn F n P fn tmps R [] .returning (z38 Ms w)→LeavesInM F n P fn tmps R (z5c Ms) .returning w:=by
 intro Ms
 induction Ms with
 |nil=>intro w _ _ h;exact h
 |cons r Ms ih=>
  intro w B hd h;have A:=List.nodup_cons.1 B;refine⟨by simp,.inl ⟨r,_,rfl,run_takeDeferred (hd r (by simp)),ih _ A.2 (fun q hq=>?_) h⟩⟩;exact(World.putObj_heap_other (by intro e;subst e;exact A.1 hq)).trans (hd q (by simp[hq]))
open Go.Proofs.Tryz
open Go.RowKit Go.Shelf
attribute [local go_sem] Oper.semAt_some
theorem zkw(a:Option Addr)(c:Nat)(l:List Tx)(w:World)(h:SegTx w a l)(hn:l.length*128≤140737488355328)(hf:∀t∈l,Few t):
  Calls prog 116 #[.slice a l.length c] w fun e w'=>∃B n,e=.returned (.map (some B))∧MapC w' B n (zfw l (lastK l l.length) l.length)∧w.heap.size≤B∧Below w.heap.size w w':=by
 have HS:=zaa h;have HW:=zaa hf;clear h hf;have X:=fun w:World=>run_makeMap (P:=prog) 175 w;refine(callsIn_wide (n:=9)).1 ?_;refine callsIn_of_wp_marks func116 rfl trivial ?_ rfl;simp only[ntmps116,List.size_toArray,List.length_cons,List.length_nil,Nat.reduceAdd,Nat.reduceSub,Array.replicate_succ,Array.replicate_zero,List.push_toArray,List.append_toArray,List.nil_append,List.cons_append]
 gi_wp2_with fail
 refine⟨trivial,(callsIn_wide.2 (zms a c l _ HS.o hn HW.o)).mono ?_⟩;rintro e C ⟨y,n1,rfl,D9,H4,A1⟩;have E0:=zaa D9;have A8:=zaa A1;clear D9 A1
 gi_wp2
 obtain⟨W0,A9⟩:∃W0,W0=((C.alloc (.map #[] 0)).alloc (.cells #[.map (some y)] 213)).alloc (.cells #[.map (some C.heap.size)] 175):=⟨_,rfl⟩;have C7:Below C.heap.size C W0:=by rw[A9];exact zae (zae (zab _ _) (zab _ _)) (zab _ _)
 have A0:W0.heap[C.heap.size]?=some (.map #[] 0)∧W0.heap[C.heap.size+1]?=some (.cells #[.map (some y)] 213 (0,0))∧W0.heap[C.heap.size+1+1]?=some (.cells #[.map (some C.heap.size)] 175 (0,0))∧C.heap.size+1+1<W0.heap.size:=by rw[A9];exact zj5 (Below.refl _ _)
 have C2:Hid (MapC W0 C.heap.size 0 (fun _=>none)):=(MapC.made C).block (A0.1.trans (heap_alloc_new C (.map #[] 0)).symm);have B9:=zaa A0.2.1;have C3:=zaa A0.2.2.1;have D7:=A0.2.2.2;have D1:=zaa C7;rw[←A9];clear A9 C7 A0 X
 refine wpIn_loop (fun a' w'=>∃(k n:Nat) (U:List Nat) (u5 u6 u8 u15 u16 u17 u18 u19 u20 u21 u22 u23 u24 u25 u26 u27 u28 u29 u30 u31 u32 u33 u34:Value),a'=⟨#[.slice a l.length c,undef,.map none,.pointer (some ⟨C.heap.size+1,0,none⟩),.pointer (some ⟨C.heap.size+1+1,0,none⟩),u5,u6,undef,u8,.slice a l.length c,.map (some y),.map (some C.heap.size),.slice a l.length c,.int .i64 (l.length:Int),.int .i64 (k:Int),u15,u16,u17,u18,u19,u20,u21,u22,u23,u24,u25,u26,u27,u28,u29,u30,u31,u32,u33,u34,undef],z5c U⟩∧k≤l.length∧n≤12*k∧Hid (MapC w' C.heap.size n (zfw l (lastK l l.length) k))∧Hid (Below C.heap.size C w')∧C.heap.size+1+1<w'.heap.size∧Hid (w'.heap[C.heap.size+1]?=some (.cells #[.map (some y)] 213 (0,0)))∧Hid (w'.heap[C.heap.size+1+1]?=some (.cells #[.map (some C.heap.size)] 175 (0,0)))∧Hid (U.Nodup∧∀r∈U,C.heap.size+1+1<r∧w'.heap[r]?=some (.deferred (some []))))
  (fun a' _=>l.length - (intOf (a'.tmps.getD 14 undef)).toNat) ?start ?round
 case start=>exact⟨0,0,[],undef,undef,undef,undef,undef,undef,undef,undef,undef,undef,undef,undef,undef,undef,undef,undef,undef,undef,undef,undef,undef,undef,undef,rfl,Nat.zero_le _,Nat.zero_le _,C2,D1,D7,B9,C3,List.nodup_nil,fun r J=>by cases J⟩
 case round=>
  rintro _ wr ⟨k,n,U,u5,u6,u8,u15,u16,u17,u18,u19,u20,u21,u22,u23,u24,u25,u26,u27,u28,u29,u30,u31,u32,u33,u34,rfl,hk,H0,B5,HB,G6,E1,C0,Y⟩;clear C2 D1 D7 B9 C3;by_cases hlt:k<l.length
  ·obtain⟨b,off,rfl,hb,hc⟩:=HS.o.resolve_left (fun e=>absurd hlt (by rw[e];exact Nat.not_lt_zero _));obtain⟨t,ht⟩:∃t,t=l.getD k txz:=⟨_,rfl⟩;have E9:b<C.heap.size:=Nat.lt_of_lt_of_le hb A8.o.size;have C5:=((hc k hlt).below A8.o hb).below HB.o E9;rw[←ht]at C5;have D8:=zaa ht;obtain⟨s,c0,a1,c1,r,d,⟨x0,x1,x2,x3,x4,x5,x6,x7,x8,x9⟩,hT⟩:=C5;have HT:=zaa hT;have G8:(k:Int)<(l.length:Int):=by omega
   clear hc ht hT
   gi_wp2_with fail
   obtain⟨M,A2⟩:∃M,M=(wr.alloc (.cells #[.int .i64 (k:Int)] 3)).alloc (.cells #[.int .i64 t.seq,.slice s t.info.length c0,.slice a1 t.data.length c1,.slice r t.rev.length d,.bool t.h0.on,.int .i64 t.h0.left,.bool t.h1.on,.int .i64 t.h1.left,.bool t.h2.on,.int .i64 t.h2.left] 40):=⟨_,rfl⟩;have A1:Below wr.heap.size wr M:=by rw[A2];exact zae (zab _ _) (zab _ _)
   have C9:Hid (M.heap[wr.heap.size]?=some (.cells #[.int .i64 (k:Int)] 3 (0,0))):=by rw[A2];exact zhl (Below.refl _ _)
   have B6:M.heap.size=wr.heap.size+1+1:=by rw[A2];simp
   rw[←A2];clear A2 x0 x1 x2 x3 x4 x5 x6 x7 x8 x9;refine⟨trivial,(z3c Fence.wide 8 trivial rfl s t.info.length c0 M).mono ?_⟩;rintro e L ⟨rfl,A7⟩;have B3:Below M.heap.size M L:=by rw[A7];exact zab _ _
   have cS:L.cell? ⟨M.heap.size,0,none⟩=some (.slice s t.info.length c0):=by rw[A7];simp[go_sem]
   have C1:L.heap.size=M.heap.size+1:=by rw[A7];simp
   have O:Below wr.heap.size wr L:=zae A1 B3;have C8:=zaa O;have F3:=zaa cS;have F0:=zaa (zad B3 (show wr.heap.size<M.heap.size by omega) C9.o);have B4:=zaa (zad O (show C.heap.size+1<wr.heap.size by omega) E1.o);have B7:=zaa (zad O G6 C0.o);have F2:=zaa (B5.o.below O);have F5:=zaa ((E0.o.below HB.o).below O);have A4:Hid (U.Nodup∧∀r∈U,C.heap.size+1+1<r∧r<wr.heap.size∧L.heap[r]?=some (.deferred (some []))):=⟨Y.o.1,fun r J=>⟨(Y.o.2 r J).1,(Array.getElem?_eq_some_iff.1 (Y.o.2 r J).2).1,zad O (Array.getElem?_eq_some_iff.1 (Y.o.2 r J).2).1 (Y.o.2 r J).2⟩⟩;have u:=HW.o t (by rw[D8.o];exact List.mem_of_getElem? (z1l hlt));have H2:M.heap.size<L.heap.size:=by omega
   have H1:wr.heap.size<M.heap.size:=by omega
   have G9:=zaa B6;have H3:=zaa C1;clear A7 A1 B3 C9 E1 C0 B5 Y cS O B6 C1
   gi_wp2_with fail
   have A5:=HT.o.rows;have B0:SegW L s t.info:=A5.1.below C8.o;have F1:=zaa B0;clear A5 B0
   refine zwg (F:=Fence.wide) (n:=9) rfl (by decide) (gf:=192) (lb:=#[.pointer (some ⟨M.heap.size,0,none⟩)]) rfl trivial (enters_of func192 (by kernel_rfl) rfl)
    (zrr Fence.wide 8 trivial rfl (by decide) M.heap.size c0 s t.info (by have:=u.2.1;unfold maxLen;omega) L (by omega) F3.o F1.o) (Below.refl _ _) KeepsR.trans KeepsR.put (fun _=>rfl)
    (fun j V=>∃I,I≤n+j∧MapC V C.heap.size I (zg5 (lastK l l.length) k (zfw l (lastK l l.length) k) (t.info.drop (t.info.length - j)))∧But C.heap.size L.heap.size L V)
    ?own ?drew ?start
    (fun j a' V=>∃B8 I,a'=⟨#[.slice (some ⟨b,off,none⟩) l.length c,undef,.map none,.pointer (some ⟨C.heap.size+1,0,none⟩),.pointer (some ⟨C.heap.size+1+1,0,none⟩),.pointer (some ⟨wr.heap.size,0,none⟩),.pointer (some ⟨wr.heap.size+1,0,none⟩),undef,.pointer (some ⟨B8,0,none⟩),.slice (some ⟨b,off,none⟩) l.length c,.map (some y),.map (some C.heap.size),.slice (some ⟨b,off,none⟩) l.length c,.int .i64 (l.length:Int),.int .i64 (k:Int),.bool true,.int .i64 (k:Int),.pointer (some ⟨b,off+k*10,none⟩),.agg #[.int .i64 t.seq,.slice s t.info.length c0,.slice a1 t.data.length c1,.slice r t.rev.length d,.bool t.h0.on,.int .i64 t.h0.left,.bool t.h1.on,.int .i64 t.h1.left,.bool t.h2.on,.int .i64 t.h2.left],.pointer (some ⟨wr.heap.size+1,1,none⟩),.slice s t.info.length c0,.func (.func 192) #[] #[.pointer (some ⟨M.heap.size,0,none⟩)],.int .i64 ((t.info.length - 1 - j:Nat):Int),.agg #[.int .i64 (t.info.getD (t.info.length - 1 - j) (0,ByteArray.empty)).1,.string (t.info.getD (t.info.length - 1 - j) (0,ByteArray.empty)).2],u24,u25,u26,u27,u28,u29,u30,u31,u32,u33,u34,undef],[]⟩∧I≤n+j∧MapC V C.heap.size I (zg5 (lastK l l.length) k (zfw l (lastK l l.length) k) (t.info.drop (t.info.length - j)))∧But C.heap.size L.heap.size L V∧L.heap.size≤B8∧V.heap[B8]?=some (.cells #[.int .i64 (t.info.getD (t.info.length - 1 - j) (0,ByteArray.empty)).1,.string (t.info.getD (t.info.length - 1 - j) (0,ByteArray.empty)).2] 84 (0,0)))
    ?ownJ ?assign ?body ?done
   case own=>
    rintro j A B row ⟨I,Q,N,E⟩ i J;exact⟨I,Q,N.block (i.block _ N.lt (fun e=>by have:=(J _ e.symm).1;omega)),E.grownR i (fun r e=>(J r e).1)⟩
   case drew=>
    rintro j V ⟨I,Q,N,E⟩;exact⟨I,Q,N.block rfl,E.trans (But.of_below ((Below.refl L.heap.size _).drew)) (Nat.le_refl _)⟩
   case start=>
    refine⟨n,Nat.le_refl _,?_,But.of_below (Below.refl _ _)⟩;rw[Nat.sub_zero,List.drop_length];exact F2.o
   case ownJ=>
    rintro j a' A B row ⟨B8,I,rfl,Q,N,E,E6,Z⟩ i J;refine⟨B8,I,rfl,Q,N.block (i.block _ N.lt (fun e=>by have:=(J _ e.symm).1;omega)),E.grownR i (fun r e=>(J r e).1),E6,?_⟩;refine(i.block _ (Array.getElem?_eq_some_iff.1 Z).1 (fun e=>?_)).trans Z;obtain⟨_,o,p,hc⟩:=J _ e.symm;rw[Z]at p;cases p;cases hc
   case assign=>
    rintro lp j V K G3 ⟨I,Q,N,E⟩ E8 hK;unfold z5b;obtain⟨x,m⟩:∃x,x=(t.info.getD (t.info.length - 1 - j) (0,ByteArray.empty)):=⟨_,rfl⟩;rw[←m];have D4:=fun q (hq:q<V.heap.size)=>Below.heap_alloc V (.cells #[.int .i64 x.1,.string x.2] 84) q hq;have A6:=zaa D4;have HK:=zaa hK;have HM:=zaa N;have HX:=zaa m;clear D4 hK N m
    gi_wp2
    refine HK.o _ _ (A6.o _ (by omega)) (A6.o _ (by omega)) (fun q _ o p _=>(A6.o q (Array.getElem?_eq_some_iff.1 p).1).trans p) ⟨V.heap.size,I,?_,Q,HM.o.block (A6.o _ HM.o.lt),E.trans (But.of_below ((Below.refl L.heap.size V).alloc E.size _)) (Nat.le_refl _),E.size,?_⟩
    ·rw[←HX.o]
    ·rw[←HX.o];exact heap_alloc_new V _
   case body=>
    rintro lp j _ V G3 ⟨B8,I,rfl,Q,N,E,E6,Z⟩ E8;obtain⟨x,m⟩:∃x,x=(t.info.getD (t.info.length - 1 - j) (0,ByteArray.empty)):=⟨_,rfl⟩;rw[←m]at Z⊢;have C6:x∈t.info:=by rw[m];exact z36 (by omega)
    have E2:=u.2.2.2 x C6;have E4:=zaa E2;have E7:=u.2.1
    have B2:t.info.drop (t.info.length - (j+1))=x::t.info.drop (t.info.length - j):=by
     rw[zy6 (z:=(0,ByteArray.empty)) (show t.info.length - (j+1)<t.info.length by omega),show t.info.length - (j+1)+1=t.info.length - j from by omega,m,show t.info.length - 1 - j=t.info.length - (j+1) from by omega]
    have E3:(Lit.int .i64 x.1).wf=true:=wfI (by omega) (by omega);have G7:y<C.heap.size:=E0.o.lt;have D2:MapI V y n1 (lastK l l.length):=F5.o.block (E.block y (by omega) (by omega));have H6:=D2.look x.1 E3;have g3:=cell_of_row V _ 0 _ _ _ ((E.block (C.heap.size+1) (by omega) (by omega)).trans B4.o);have g4:=cell_of_row V _ 0 _ _ _ ((E.block (C.heap.size+1+1) (by omega) (by omega)).trans B7.o);have g5:=cell_of_row V _ 0 _ _ _ ((E.block wr.heap.size (by omega) (by omega)).trans F0.o);obtain⟨⟨H8,H7⟩,_⟩:=zgr Z;have HM:=zaa N;have C4:=zaa E;have D6:=zaa B2;have HX:=zaa m;have G4:=E.size;clear N E B2 m D2 Z C6 E2 E3;by_cases hL:lastK l l.length x.1=(k:Int)
    ·obtain⟨V2,H5,D5,S⟩:=HM.o.store x.1 x.1 x.2 (wfI (by have:=E4.o;omega) (by have:=E4.o;omega)) (by unfold maxLen;omega);have F8:(lastK l l.length x.1==(k:Int))=true:=by simpa using hL
     have A3:Hid ((V2.heap[L.heap.size]?=V.heap[L.heap.size]?∧V2.heap[L.heap.size+1]?=V.heap[L.heap.size+1]?)∧KeepsR M.heap.size (zy4 s) V V2∧∃I,I≤n+(j+1)∧MapC V2 C.heap.size I (zg5 (lastK l l.length) k (zfw l (lastK l l.length) k) (t.info.drop (t.info.length - (j+1))))∧But C.heap.size L.heap.size L V2):=by
      refine⟨⟨S.block _ (by omega) (fun e=>by simp at e;omega),S.block _ (by omega) (fun e=>by simp at e;omega)⟩,?_,I+1,by omega,?_,C4.o.trans ⟨(But.of_below (R:=0) ((Below.refl 0 V).grown S (Nat.zero_le _) (fun _ _=>Nat.zero_le _))).os,(But.of_below (R:=0) ((Below.refl 0 V).grown S (Nat.zero_le _) (fun _ _=>Nat.zero_le _))).tape,(But.of_below (R:=0) ((Below.refl 0 V).grown S (Nat.zero_le _) (fun _ _=>Nat.zero_le _))).output,S.size,fun q hq hne=>S.block q (by omega) (fun e=>hne (by simpa using e))⟩ (Nat.le_refl _)⟩
      ·intro q _ o p hc;refine(S.block q (Array.getElem?_eq_some_iff.1 p).1 (fun e=>?_)).trans p;have e':q=C.heap.size:=by simpa using e
       subst e';rw[HM.o.notCells p]at hc;cases hc
      ·rw[D6.o,zy5 hL];exact D5
     clear D5 S hL
     gi_wp2
     exact A3.o
    ·have F8:(lastK l l.length x.1==(k:Int))=false:=by simpa using hL
     have A3:Hid (KeepsR M.heap.size (zy4 s) V V∧∃I,I≤n+(j+1)∧MapC V C.heap.size I (zg5 (lastK l l.length) k (zfw l (lastK l l.length) k) (t.info.drop (t.info.length - (j+1))))∧But C.heap.size L.heap.size L V):=by
      refine⟨KeepsR.refl _ _ _,I,by omega,?_,C4.o⟩;rw[D6.o,z2d hL];exact HM.o
     clear hL
     gi_wp2
     exact⟨⟨rfl,rfl⟩,A3.o⟩
   case done=>
    rintro D V hD ⟨I,Q,N,E⟩ hK;have G4:=E.size
    have F7:Hid (MapC V C.heap.size I (zfw l (lastK l l.length) (k+1))):=by
     rw[Nat.sub_self,List.drop_zero]at N;rw[Hid,zfw,←D8.o];exact N
    have F6:Hid (Below C.heap.size C V):=(zae HB.o C8.o).trans ⟨E.os,E.tape,E.output,E.size,fun q hq=>E.block q (by omega) (by omega)⟩;have F9:=zaa ((E.block (C.heap.size+1) (by omega) (by omega)).trans B4.o);have G5:=zaa ((E.block (C.heap.size+1+1) (by omega) (by omega)).trans B7.o)
    have F4:Hid ((D::U).Nodup∧∀r∈D::U,C.heap.size+1+1<r∧V.heap[r]?=some (.deferred (some []))):=by
     refine⟨List.nodup_cons.2 ⟨fun h=>?_,A4.o.1⟩,fun r J=>?_⟩
     ·have:=(A4.o.2 D h).2.1;omega
     ·rcases List.mem_cons.1 J with rfl|h
      ·exact⟨by omega,hK⟩
      ·have h3:=A4.o.2 r h;exact⟨h3.1,(E.block r (by omega) (by omega)).trans h3.2.2⟩
    have E7:=u.2.1;have G1:C.heap.size+1+1<V.heap.size:=by omega
    clear N E hK
    gi_wp2
    have ek:((k+1:Nat):Int)=(k:Int)+1:=by simp
    rw[←ek];refine⟨⟨k+1,I,D::U,_,_,_,_,_,_,_,_,_,_,_,_,_,_,_,_,_,_,_,_,_,_,_,rfl,by omega,by omega,F7,F6,G1,F9,G5,F4⟩,?_⟩;simp[intOf];omega
  ·have e:k=l.length:=by omega
   subst e;have X:=Y.o;obtain⟨V,hV⟩:∃V,V=z38 U wr:=⟨_,rfl⟩;have E5:∀j,j≤C.heap.size+1+1→V.heap[j]?=wr.heap[j]?:=fun j hj=>by rw[hV];exact znh U wr j (fun r J=>by have:=(X.2 r J).1;omega)
   have G0:Hid (MapC V C.heap.size n (zfw l (lastK l l.length) l.length)):=B5.o.block (E5 _ (by omega))
   have G2:Hid (Below w.heap.size w V):=by
    have h1:Below C.heap.size C V:=HB.o.trans (by rw[hV];exact zni U wr (fun r J=>by have:=(X.2 r J).1;omega) X.1 (fun r J=>(X.2 r J).2));exact zae A8.o h1
   have g4:=cell_of_row wr _ 0 _ _ _ C0.o;have HV:=zaa hV;have D3:=zaa X;clear E5 hV X
   gi_wp2
   refine zka U _ D3.o.1 (fun r J=>(D3.o.2 r J).2) ?_;rw[←HV.o];refine⟨.map (some C.heap.size),by simp[results,results116,go_sem],C.heap.size,n,rfl,G0.o,A8.o.size,G2.o⟩
