/-
  
-/
import Derived.Test.YtjnpndfpajjihacGreatGrTopAnywhere25
import Derived.Test.YtjnpndfpajjihacGreatGrTopAnywhere27
set_option maxRecDepth 100000
set_option maxHeartbeats 40000000
namespace Go.Proofs.YtjnpndfpajjihacGreat
open Go.RowKit Go.Shelf
attribute [local go_sem] Oper.semAt_some
def zgd (b:Int):List (Int×ByteArray)→Option (Int×ByteArray)
 |[]=>none
 |x::r=>if x.1=b then some x else zgd b r
def zg1 (L:Int→Int)(k:Nat)(f:Int→Option (Int×ByteArray))(m:List (Int×ByteArray)):Int→Option (Int×ByteArray):=fun z=>match zgd z m with
 |some c=>if L z=(k:Int) then some c else f z
 |none=>f z
def zfr (l:List Tx)(L:Int→Int):Nat→Int→Option (Int×ByteArray)
 |0=>fun _=>none
 |k+1=>zg1 L k (zfr l L k) (l.getD k txz).info
theorem zza{L:Int→Int}{k:Nat}{x:Int×ByteArray}(h:L x.1=(k:Int))(f:Int→Option (Int×ByteArray))(r:List (Int×ByteArray)):zg1 L k f (x::r)=fun z=>if z=x.1 then some (x.1,x.2) else zg1 L k f r z:=by
 funext z
 by_cases e:z=x.1
 ·subst e;simp[zg1,zgd,h]
 ·have:¬x.1=z:=fun y=>e y.symm;simp[zg1,zgd,e,this]
theorem z2r{L:Int→Int}{k:Nat}{x:Int×ByteArray}(h:¬L x.1=(k:Int))(f:Int→Option (Int×ByteArray))(r:List (Int×ByteArray)):zg1 L k f (x::r)=zg1 L k f r:=by
 funext z
 by_cases e:x.1=z
 ·subst e;simp only[zg1,zgd,if_true];cases zgd x.1 r<;>simp[h]
 ·simp[zg1,zgd,e]
theorem zzb{α:Type}{m:List α}{j:Nat}{z:α}(h:j<m.length):m.drop j=m.getD j z::m.drop (j+1):=by
 rw[List.drop_eq_getElem_cons h,List.getD,List.getElem?_eq_getElem h];rfl
theorem But.grownR{R base:Nat}{w A B:World}{row:Option Nat}(h:But R base w A)(hg:A.grownBy B row)(hr:∀r,row=some r→base≤r)(hs:base≤w.heap.size:=by omega):But R base w B:=
 h.trans (But.of_below ((Below.refl base A).grown hg (Nat.le_trans hs h.size) hr)) (Nat.le_refl _)
theorem MapC.notCells{w:World}{B n:Nat}{f:Int→Option (Int×ByteArray)}(h:MapC w B n f){o:Obj}(ho:w.heap[B]?=some o):o.isCells=false:=by
 obtain⟨D,⟨es,clock,A,_⟩,_⟩:=h;rw[A]at ho;cases ho;rfl
theorem z4m{m:List (Int×ByteArray)}{j:Nat}(h:j<m.length):m.getD j (0,ByteArray.empty)∈m:=by
 rw[List.getD,List.getElem?_eq_getElem h];exact List.getElem_mem h
def z5w (Ms:List Nat):List Deferred:=Ms.map fun r=>{target:=.collected r,args:=#[]}
def z4n (Ms:List Nat)(w:World):World:=Ms.foldl (fun w r=>w.putObj r (.deferred none)) w
theorem znv(Ms:List Nat)(w:World)(j:Nat)(h:∀r∈Ms,r≠j):(z4n Ms w).heap[j]?=w.heap[j]?:=by
 induction Ms generalizing w with
 |nil=>rfl
 |cons r Ms ih=>
  rw[z4n,List.foldl_cons];refine(ih _ (fun r' hr'=>h r' (by simp[hr']))).trans ?_;exact World.putObj_heap_other (Ne.symm (h r (by simp)))
theorem znw{base:Nat}:∀(Ms:List Nat) (w:World),(∀r∈Ms,base≤r)→Ms.Nodup→(∀r∈Ms,w.heap[r]?=some (.deferred (some [])))→Below base w (z4n Ms w):=by
 intro Ms
 induction Ms with
 |nil=>intro w _ _ _;exact Below.refl _ _
 |cons r Ms ih=>
  intro w hb B hd;have A:=List.nodup_cons.1 B;have C:Below base w (w.putObj r (.deferred none)):=⟨rfl,rfl,rfl,by simp[World.putObj],fun j hj=>World.putObj_heap_other (by have:=hb r (by simp);omega)⟩;exact C.trans (ih _ (fun q hq=>hb q (by simp[hq])) A.2 (fun q hq=>(World.putObj_heap_other (by intro e;subst e;exact A.1 hq)).trans (hd q (by simp[hq]))))
theorem zkf{F:Fence}{n:Nat}{P:Program}{fn:Func}{tmps:Array Value}{R:Ending→World→Prop}:∀(Ms:List Nat) (w:World),Ms.Nodup→(∀r∈Ms,w.heap[r]?=some (.deferred (some [])))→LeavesIn F n P fn tmps R [] .returning (z4n Ms w)→LeavesInM F n P fn tmps R (z5w Ms) .returning w:=by
 intro Ms
 induction Ms with
 |nil=>intro w _ _ h;exact h
 |cons r Ms ih=>
  intro w B hd h;have A:=List.nodup_cons.1 B;refine⟨by simp,.inl ⟨r,_,rfl,run_takeDeferred (hd r (by simp)),ih _ A.2 (fun q hq=>?_) h⟩⟩;exact(World.putObj_heap_other (by intro e;subst e;exact A.1 hq)).trans (hd q (by simp[hq]))
open Go.Proofs.Tryz
open Go.RowKit Go.Shelf
attribute [local go_sem] Oper.semAt_some
theorem zk1(a:Option Addr)(c:Nat)(l:List Tx)(w:World)(h:SegTx w a l)(hn:l.length*128≤140737488355328)(hf:∀t∈l,Few t):
  Calls prog 116 #[.slice a l.length c] w fun e w'=>∃B n,e=.returned (.map (some B))∧MapC w' B n (zfr l (lastK l l.length) l.length)∧w.heap.size≤B∧Below w.heap.size w w':=by
 have HS:=zaa h;have HW:=zaa hf;clear h hf;have X:=fun w:World=>run_makeMap (P:=prog) 175 w;refine(callsIn_wide (n:=9)).1 ?_;refine callsIn_of_wp_marks func116 rfl trivial ?_ rfl;simp only[ntmps116,List.size_toArray,List.length_cons,List.length_nil,Nat.reduceAdd,Nat.reduceSub,Array.replicate_succ,Array.replicate_zero,List.push_toArray,List.append_toArray,List.nil_append,List.cons_append]
 gi_wp2_with fail
 refine⟨trivial,(callsIn_wide.2 (zm3 a c l _ HS.o hn HW.o)).mono ?_⟩;rintro e C ⟨B1,n1,rfl,D9,H8,A1⟩;have D4:=zaa D9;have A4:=zaa A1;clear D9 A1
 gi_wp2
 obtain⟨W0,A8⟩:∃W0,W0=((C.alloc (.map #[] 0)).alloc (.cells #[.map (some B1)] 213)).alloc (.cells #[.map (some C.heap.size)] 175):=⟨_,rfl⟩;have E5:Below C.heap.size C W0:=by rw[A8];exact zae (zae (zab _ _) (zab _ _)) (zab _ _)
 have y:W0.heap[C.heap.size]?=some (.map #[] 0)∧W0.heap[C.heap.size+1]?=some (.cells #[.map (some B1)] 213 (0,0))∧W0.heap[C.heap.size+1+1]?=some (.cells #[.map (some C.heap.size)] 175 (0,0))∧C.heap.size+1+1<W0.heap.size:=by rw[A8];exact zj9 (Below.refl _ _)
 have B3:Hid (MapC W0 C.heap.size 0 (fun _=>none)):=(MapC.made C).block (y.1.trans (heap_alloc_new C (.map #[] 0)).symm);have C3:=zaa y.2.1;have B4:=zaa y.2.2.1;have E6:=y.2.2.2;have D1:=zaa E5;rw[←A8];clear A8 E5 y X
 refine wpIn_loop (fun a' w'=>∃(k n:Nat) (U:List Nat) (u5 u6 u8 u15 u16 u17 u18 u19 u20 u21 u22 u23 u24 u25 u26 u27 u28 u29 u30 u31 u32 u33 u34:Value),a'=⟨#[.slice a l.length c,undef,.map none,.pointer (some ⟨C.heap.size+1,0,none⟩),.pointer (some ⟨C.heap.size+1+1,0,none⟩),u5,u6,undef,u8,.slice a l.length c,.map (some B1),.map (some C.heap.size),.slice a l.length c,.int .i64 (l.length:Int),.int .i64 (k:Int),u15,u16,u17,u18,u19,u20,u21,u22,u23,u24,u25,u26,u27,u28,u29,u30,u31,u32,u33,u34,undef],z5w U⟩∧k≤l.length∧n≤12*k∧Hid (MapC w' C.heap.size n (zfr l (lastK l l.length) k))∧Hid (Below C.heap.size C w')∧C.heap.size+1+1<w'.heap.size∧Hid (w'.heap[C.heap.size+1]?=some (.cells #[.map (some B1)] 213 (0,0)))∧Hid (w'.heap[C.heap.size+1+1]?=some (.cells #[.map (some C.heap.size)] 175 (0,0)))∧Hid (U.Nodup∧∀r∈U,C.heap.size+1+1<r∧w'.heap[r]?=some (.deferred (some []))))
  (fun a' _=>l.length - (intOf (a'.tmps.getD 14 undef)).toNat) ?start ?round
 case start=>exact⟨0,0,[],undef,undef,undef,undef,undef,undef,undef,undef,undef,undef,undef,undef,undef,undef,undef,undef,undef,undef,undef,undef,undef,undef,undef,rfl,Nat.zero_le _,Nat.zero_le _,B3,D1,E6,C3,B4,List.nodup_nil,fun r J=>by cases J⟩
 case round=>
  rintro _ wr ⟨k,n,U,u5,u6,u8,u15,u16,u17,u18,u19,u20,u21,u22,u23,u24,u25,u26,u27,u28,u29,u30,u31,u32,u33,u34,rfl,hk,H3,C2,HB,G3,E4,C0,Y⟩;clear B3 D1 E6 C3 B4;by_cases hlt:k<l.length
  ·obtain⟨b,B2,rfl,hb,hc⟩:=HS.o.resolve_left (fun e=>absurd hlt (by rw[e];exact Nat.not_lt_zero _));obtain⟨t,ht⟩:∃t,t=l.getD k txz:=⟨_,rfl⟩;have E7:b<C.heap.size:=Nat.lt_of_lt_of_le hb A4.o.size;have E3:=((hc k hlt).below A4.o hb).below HB.o E7;rw[←ht]at E3;have D7:=zaa ht;obtain⟨m,c0,a1,c1,r,d,⟨x0,x1,x2,x3,x4,x5,x6,x7,x8,x9⟩,hT⟩:=E3;have HT:=zaa hT;have H2:(k:Int)<(l.length:Int):=by omega
   clear hc ht hT
   gi_wp2_with fail
   obtain⟨M,A0⟩:∃M,M=(wr.alloc (.cells #[.int .i64 (k:Int)] 3)).alloc (.cells #[.int .i64 t.seq,.slice m t.info.length c0,.slice a1 t.data.length c1,.slice r t.rev.length d,.bool t.h0.on,.int .i64 t.h0.left,.bool t.h1.on,.int .i64 t.h1.left,.bool t.h2.on,.int .i64 t.h2.left] 40):=⟨_,rfl⟩;have A1:Below wr.heap.size wr M:=by rw[A0];exact zae (zab _ _) (zab _ _)
   have E1:Hid (M.heap[wr.heap.size]?=some (.cells #[.int .i64 (k:Int)] 3 (0,0))):=by rw[A0];exact zhm (Below.refl _ _)
   have B5:M.heap.size=wr.heap.size+1+1:=by rw[A0];simp
   rw[←A0];clear A0 x0 x1 x2 x3 x4 x5 x6 x7 x8 x9;refine⟨trivial,(z3q Fence.wide 8 trivial rfl m t.info.length c0 M).mono ?_⟩;rintro e L ⟨rfl,A6⟩;have C1:Below M.heap.size M L:=by rw[A6];exact zab _ _
   have cS:L.cell? ⟨M.heap.size,0,none⟩=some (.slice m t.info.length c0):=by rw[A6];simp[go_sem]
   have B7:L.heap.size=M.heap.size+1:=by rw[A6];simp
   have O:Below wr.heap.size wr L:=zae A1 C1;have D6:=zaa O;have G4:=zaa cS;have F2:=zaa (zad C1 (show wr.heap.size<M.heap.size by omega) E1.o);have B9:=zaa (zad O (show C.heap.size+1<wr.heap.size by omega) E4.o);have B6:=zaa (zad O G3 C0.o);have F1:=zaa (C2.o.below O);have G0:=zaa ((D4.o.below HB.o).below O);have A2:Hid (U.Nodup∧∀r∈U,C.heap.size+1+1<r∧r<wr.heap.size∧L.heap[r]?=some (.deferred (some []))):=⟨Y.o.1,fun r J=>⟨(Y.o.2 r J).1,(Array.getElem?_eq_some_iff.1 (Y.o.2 r J).2).1,zad O (Array.getElem?_eq_some_iff.1 (Y.o.2 r J).2).1 (Y.o.2 r J).2⟩⟩;have p:=HW.o t (by rw[D7.o];exact List.mem_of_getElem? (z1y hlt));have H0:M.heap.size<L.heap.size:=by omega
   have G9:wr.heap.size<M.heap.size:=by omega
   have H1:=zaa B5;have G8:=zaa B7;clear A6 A1 C1 E1 E4 C0 C2 Y cS O B5 B7
   gi_wp2_with fail
   have A9:=HT.o.rows;have A7:SegW L m t.info:=A9.1.below D6.o;have E8:=zaa A7;clear A9 A7
   refine zwi (F:=Fence.wide) (n:=9) rfl (by decide) (gf:=192) (lb:=#[.pointer (some ⟨M.heap.size,0,none⟩)]) rfl trivial (enters_of func192 (by kernel_rfl) rfl)
    (zrz Fence.wide 8 trivial rfl (by decide) M.heap.size c0 m t.info (by have:=p.2.1;unfold maxLen;omega) L (by omega) G4.o E8.o) (Below.refl _ _) KeepsR.trans KeepsR.put (fun _=>rfl)
    (fun j V=>∃I,I≤n+j∧MapC V C.heap.size I (zg1 (lastK l l.length) k (zfr l (lastK l l.length) k) (t.info.drop (t.info.length - j)))∧But C.heap.size L.heap.size L V)
    ?own ?drew ?start
    (fun j a' V=>∃B8 I,a'=⟨#[.slice (some ⟨b,B2,none⟩) l.length c,undef,.map none,.pointer (some ⟨C.heap.size+1,0,none⟩),.pointer (some ⟨C.heap.size+1+1,0,none⟩),.pointer (some ⟨wr.heap.size,0,none⟩),.pointer (some ⟨wr.heap.size+1,0,none⟩),undef,.pointer (some ⟨B8,0,none⟩),.slice (some ⟨b,B2,none⟩) l.length c,.map (some B1),.map (some C.heap.size),.slice (some ⟨b,B2,none⟩) l.length c,.int .i64 (l.length:Int),.int .i64 (k:Int),.bool true,.int .i64 (k:Int),.pointer (some ⟨b,B2+k*10,none⟩),.agg #[.int .i64 t.seq,.slice m t.info.length c0,.slice a1 t.data.length c1,.slice r t.rev.length d,.bool t.h0.on,.int .i64 t.h0.left,.bool t.h1.on,.int .i64 t.h1.left,.bool t.h2.on,.int .i64 t.h2.left],.pointer (some ⟨wr.heap.size+1,1,none⟩),.slice m t.info.length c0,.func (.func 192) #[] #[.pointer (some ⟨M.heap.size,0,none⟩)],.int .i64 ((t.info.length - 1 - j:Nat):Int),.agg #[.int .i64 (t.info.getD (t.info.length - 1 - j) (0,ByteArray.empty)).1,.string (t.info.getD (t.info.length - 1 - j) (0,ByteArray.empty)).2],u24,u25,u26,u27,u28,u29,u30,u31,u32,u33,u34,undef],[]⟩∧I≤n+j∧MapC V C.heap.size I (zg1 (lastK l l.length) k (zfr l (lastK l l.length) k) (t.info.drop (t.info.length - j)))∧But C.heap.size L.heap.size L V∧L.heap.size≤B8∧V.heap[B8]?=some (.cells #[.int .i64 (t.info.getD (t.info.length - 1 - j) (0,ByteArray.empty)).1,.string (t.info.getD (t.info.length - 1 - j) (0,ByteArray.empty)).2] 84 (0,0)))
    ?ownJ ?assign ?body ?done
   case own=>
    rintro j A B row ⟨I,Q,N,E⟩ i J;exact⟨I,Q,N.block (i.block _ N.lt (fun e=>by have:=(J _ e.symm).1;omega)),E.grownR i (fun r e=>(J r e).1)⟩
   case drew=>
    rintro j V ⟨I,Q,N,E⟩;exact⟨I,Q,N.block rfl,E.trans (But.of_below ((Below.refl L.heap.size _).drew)) (Nat.le_refl _)⟩
   case start=>
    refine⟨n,Nat.le_refl _,?_,But.of_below (Below.refl _ _)⟩;rw[Nat.sub_zero,List.drop_length];exact F1.o
   case ownJ=>
    rintro j a' A B row ⟨B8,I,rfl,Q,N,E,D8,Z⟩ i J;refine⟨B8,I,rfl,Q,N.block (i.block _ N.lt (fun e=>by have:=(J _ e.symm).1;omega)),E.grownR i (fun r e=>(J r e).1),D8,?_⟩;refine(i.block _ (Array.getElem?_eq_some_iff.1 Z).1 (fun e=>?_)).trans Z;obtain⟨_,o,s,hc⟩:=J _ e.symm;rw[Z]at s;cases s;cases hc
   case assign=>
    rintro lp j V K F8 ⟨I,Q,N,E⟩ E9 hK;unfold z5v;obtain⟨x,u⟩:∃x,x=(t.info.getD (t.info.length - 1 - j) (0,ByteArray.empty)):=⟨_,rfl⟩;rw[←u];have C9:=fun q (hq:q<V.heap.size)=>Below.heap_alloc V (.cells #[.int .i64 x.1,.string x.2] 84) q hq;have A5:=zaa C9;have HK:=zaa hK;have HM:=zaa N;have HX:=zaa u;clear C9 hK N u
    gi_wp2
    refine HK.o _ _ (A5.o _ (by omega)) (A5.o _ (by omega)) (fun q _ o s _=>(A5.o q (Array.getElem?_eq_some_iff.1 s).1).trans s) ⟨V.heap.size,I,?_,Q,HM.o.block (A5.o _ HM.o.lt),E.trans (But.of_below ((Below.refl L.heap.size V).alloc E.size _)) (Nat.le_refl _),E.size,?_⟩
    ·rw[←HX.o]
    ·rw[←HX.o];exact heap_alloc_new V _
   case body=>
    rintro lp j _ V F8 ⟨B8,I,rfl,Q,N,E,D8,Z⟩ E9;obtain⟨x,u⟩:∃x,x=(t.info.getD (t.info.length - 1 - j) (0,ByteArray.empty)):=⟨_,rfl⟩;rw[←u]at Z⊢;have D3:x∈t.info:=by rw[u];exact z4m (by omega)
    have D5:=p.2.2.2 x D3;have C8:=zaa D5;have F0:=p.2.1
    have B0:t.info.drop (t.info.length - (j+1))=x::t.info.drop (t.info.length - j):=by
     rw[zzb (z:=(0,ByteArray.empty)) (show t.info.length - (j+1)<t.info.length by omega),show t.info.length - (j+1)+1=t.info.length - j from by omega,u,show t.info.length - 1 - j=t.info.length - (j+1) from by omega]
    have C5:(Lit.int .i64 x.1).wf=true:=wfI (by omega) (by omega);have G7:B1<C.heap.size:=D4.o.lt;have C6:MapI V B1 n1 (lastK l l.length):=G0.o.block (E.block B1 (by omega) (by omega));have H7:=C6.look x.1 C5;have g3:=cell_of_row V _ 0 _ _ _ ((E.block (C.heap.size+1) (by omega) (by omega)).trans B9.o);have g4:=cell_of_row V _ 0 _ _ _ ((E.block (C.heap.size+1+1) (by omega) (by omega)).trans B6.o);have g5:=cell_of_row V _ 0 _ _ _ ((E.block wr.heap.size (by omega) (by omega)).trans F2.o);obtain⟨⟨H5,H6⟩,_⟩:=zgo Z;have HM:=zaa N;have D2:=zaa E;have C7:=zaa B0;have HX:=zaa u;have F6:=E.size;clear N E B0 u C6 Z D3 D5 C5;by_cases hL:lastK l l.length x.1=(k:Int)
    ·obtain⟨V2,H4,C4,S⟩:=HM.o.store x.1 x.1 x.2 (wfI (by have:=C8.o;omega) (by have:=C8.o;omega)) (by unfold maxLen;omega);have F7:(lastK l l.length x.1==(k:Int))=true:=by simpa using hL
     have A3:Hid ((V2.heap[L.heap.size]?=V.heap[L.heap.size]?∧V2.heap[L.heap.size+1]?=V.heap[L.heap.size+1]?)∧KeepsR M.heap.size (zy9 m) V V2∧∃I,I≤n+(j+1)∧MapC V2 C.heap.size I (zg1 (lastK l l.length) k (zfr l (lastK l l.length) k) (t.info.drop (t.info.length - (j+1))))∧But C.heap.size L.heap.size L V2):=by
      refine⟨⟨S.block _ (by omega) (fun e=>by simp at e;omega),S.block _ (by omega) (fun e=>by simp at e;omega)⟩,?_,I+1,by omega,?_,D2.o.trans ⟨(But.of_below (R:=0) ((Below.refl 0 V).grown S (Nat.zero_le _) (fun _ _=>Nat.zero_le _))).os,(But.of_below (R:=0) ((Below.refl 0 V).grown S (Nat.zero_le _) (fun _ _=>Nat.zero_le _))).tape,(But.of_below (R:=0) ((Below.refl 0 V).grown S (Nat.zero_le _) (fun _ _=>Nat.zero_le _))).output,S.size,fun q hq hne=>S.block q (by omega) (fun e=>hne (by simpa using e))⟩ (Nat.le_refl _)⟩
      ·intro q _ o s hc;refine(S.block q (Array.getElem?_eq_some_iff.1 s).1 (fun e=>?_)).trans s;have e':q=C.heap.size:=by simpa using e
       subst e';rw[HM.o.notCells s]at hc;cases hc
      ·rw[C7.o,zza hL];exact C4
     clear C4 S hL
     gi_wp2
     exact A3.o
    ·have F7:(lastK l l.length x.1==(k:Int))=false:=by simpa using hL
     have A3:Hid (KeepsR M.heap.size (zy9 m) V V∧∃I,I≤n+(j+1)∧MapC V C.heap.size I (zg1 (lastK l l.length) k (zfr l (lastK l l.length) k) (t.info.drop (t.info.length - (j+1))))∧But C.heap.size L.heap.size L V):=by
      refine⟨KeepsR.refl _ _ _,I,by omega,?_,D2.o⟩;rw[C7.o,z2r hL];exact HM.o
     clear hL
     gi_wp2
     exact⟨⟨rfl,rfl⟩,A3.o⟩
   case done=>
    rintro D V hD ⟨I,Q,N,E⟩ hK;have F6:=E.size
    have F9:Hid (MapC V C.heap.size I (zfr l (lastK l l.length) (k+1))):=by
     rw[Nat.sub_self,List.drop_zero]at N;rw[Hid,zfr,←D7.o];exact N
    have F4:Hid (Below C.heap.size C V):=(zae HB.o D6.o).trans ⟨E.os,E.tape,E.output,E.size,fun q hq=>E.block q (by omega) (by omega)⟩;have F3:=zaa ((E.block (C.heap.size+1) (by omega) (by omega)).trans B9.o);have G1:=zaa ((E.block (C.heap.size+1+1) (by omega) (by omega)).trans B6.o)
    have G5:Hid ((D::U).Nodup∧∀r∈D::U,C.heap.size+1+1<r∧V.heap[r]?=some (.deferred (some []))):=by
     refine⟨List.nodup_cons.2 ⟨fun h=>?_,A2.o.1⟩,fun r J=>?_⟩
     ·have:=(A2.o.2 D h).2.1;omega
     ·rcases List.mem_cons.1 J with rfl|h
      ·exact⟨by omega,hK⟩
      ·have h3:=A2.o.2 r h;exact⟨h3.1,(E.block r (by omega) (by omega)).trans h3.2.2⟩
    have F0:=p.2.1;have G6:C.heap.size+1+1<V.heap.size:=by omega
    clear N E hK
    gi_wp2
    have ek:((k+1:Nat):Int)=(k:Int)+1:=by simp
    rw[←ek];refine⟨⟨k+1,I,D::U,_,_,_,_,_,_,_,_,_,_,_,_,_,_,_,_,_,_,_,_,_,_,_,rfl,by omega,by omega,F9,F4,G6,F3,G1,G5⟩,?_⟩;simp[intOf];omega
  ·have e:k=l.length:=by omega
   subst e;have X:=Y.o;obtain⟨V,hV⟩:∃V,V=z4n U wr:=⟨_,rfl⟩;have E2:∀j,j≤C.heap.size+1+1→V.heap[j]?=wr.heap[j]?:=fun j hj=>by rw[hV];exact znv U wr j (fun r J=>by have:=(X.2 r J).1;omega)
   have G2:Hid (MapC V C.heap.size n (zfr l (lastK l l.length) l.length)):=C2.o.block (E2 _ (by omega))
   have F5:Hid (Below w.heap.size w V):=by
    have h1:Below C.heap.size C V:=HB.o.trans (by rw[hV];exact znw U wr (fun r J=>by have:=(X.2 r J).1;omega) X.1 (fun r J=>(X.2 r J).2));exact zae A4.o h1
   have g4:=cell_of_row wr _ 0 _ _ _ C0.o;have HV:=zaa hV;have E0:=zaa X;clear E2 hV X
   gi_wp2
   refine zkf U _ E0.o.1 (fun r J=>(E0.o.2 r J).2) ?_;rw[←HV.o];refine⟨.map (some C.heap.size),by simp[results,results116,go_sem],C.heap.size,n,rfl,G2.o,A4.o.size,F5.o⟩
