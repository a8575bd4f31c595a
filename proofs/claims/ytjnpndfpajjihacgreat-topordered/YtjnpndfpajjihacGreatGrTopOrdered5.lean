/-
  
-/
import Derived.Test.YtjnpndfpajjihacGreatGrTopOrdered0
import Derived.Lib.SliceRun
set_option maxRecDepth 100000
set_option maxHeartbeats 40000000
namespace Go.Proofs.YtjnpndfpajjihacGreat
open Go.Proofs.Tryz
open Go.RowKit
def cellsS (ss:List ByteArray):List Value:=ss.map Value.string
def cellsW:List (Int×ByteArray)→List Value
 |[]=>[]
 |x::r=>.int .i64 x.1:: .string x.2::cellsW r
theorem zit(ss:List ByteArray):(cellsS ss).length=ss.length*1:=by simp[cellsS]
theorem zga(ws:List (Int×ByteArray)):(cellsW ws).length=ws.length*2:=by
 induction ws with
 |nil=>rfl
 |cons x r ih=>simp[cellsW,ih];omega
theorem zof(l r:List (Int×ByteArray)):cellsW (l++r)=cellsW l++cellsW r:=by
 induction l with
 |nil=>rfl
 |cons x t ih=>simp[cellsW,ih]
theorem ziu(l r:List ByteArray):cellsS (l++r)=cellsS l++cellsS r:=by simp[cellsS]
theorem znb{ss:List ByteArray}:∀u∈cellsS ss,u.oneCell'=true:=by
 intro u A;obtain⟨s,_,rfl⟩:=List.mem_map.1 A;rfl
theorem znc(ws:List (Int×ByteArray)):∀u∈cellsW ws,u.oneCell'=true:=by
 induction ws with
 |nil=>intro u A;cases A
 |cons x r ih=>
  intro u A;simp only[cellsW,List.mem_cons]at A;rcases A with rfl|rfl|A
  ·rfl
  ·rfl
  ·exact ih u A
theorem zpz(ss:List ByteArray)(i:Nat)(h:i<ss.length):(cellsS ss)[i]?=some (.string (ss.getD i ByteArray.empty)):=by
 rw[cellsS,List.getElem?_map,zeq ss i ByteArray.empty h];rfl
theorem zp0(ws:List (Int×ByteArray))(i:Nat)(h:i<ws.length):
  (cellsW ws)[i*2]?=some (.int .i64 (ws.getD i (0,ByteArray.empty)).1)∧(cellsW ws)[i*2+1]?=some (.string (ws.getD i (0,ByteArray.empty)).2):=by
 induction ws generalizing i with
 |nil=>simp at h
 |cons x r ih=>
  cases i with
  |zero=>simp[cellsW]
  |succ k=>
   have:=ih k (by simpa using h);rw[show(k+1)*2=k*2+1+1 from by omega]
   simpa[cellsW] using this
theorem SegS.news{w:World}{b off:Nat}{ss:List ByteArray}(h:∀i,i<ss.length→w.cell? ⟨b,off+i,none⟩=some (.string (ss.getD i ByteArray.empty))):
  ∀j u,(cellsS ss)[j]?=some u→w.cell? ⟨b,off+j,none⟩=some u:=by
 intro j u B;have A:j<ss.length:=by have:=(List.getElem?_eq_some_iff.1 B).1;simpa[cellsS] using this
 rw[h j A,←zpz ss j A,B]
theorem SegW.news{w:World}{b off:Nat}{ws:List (Int×ByteArray)}(h:∀i,i<ws.length→
  w.cell? ⟨b,off+i*2,none⟩=some (.int .i64 (ws.getD i (0,ByteArray.empty)).1)∧w.cell? ⟨b,off+i*2+1,none⟩=some (.string (ws.getD i (0,ByteArray.empty)).2)):
  ∀j u,(cellsW ws)[j]?=some u→w.cell? ⟨b,off+j,none⟩=some u:=by
 intro j u A;have A0:j<ws.length*2:=by have:=(List.getElem?_eq_some_iff.1 A).1;rwa [zga]at this
 have C:j/2<ws.length:=by omega
 have e:=zp0 ws (j/2) C;have g:=h (j/2) C;rcases Nat.mod_two_eq_zero_or_one j with h0|h0
 ·have B:j=j/2*2:=by omega
  rw[B]at A⊢;rw[g.1,←e.1,A]
 ·have B:j=j/2*2+1:=by omega
  rw[B]at A⊢;rw[show off+(j/2*2+1)=off+j/2*2+1 from by omega,g.2,←e.2,A]
theorem SegS.of_owns{w:World}{base n:Nat}{v:Value}{ss:List ByteArray}(h:w.ownsRow base 9 1 v n (cellsS ss)):∃a c,v=.slice a ss.length c∧SegS w a ss∧∀b off,a=some ⟨b,off,none⟩→base≤b:=by
 have A:ss.length=n:=by have:=h.1;rw[zit]at this;omega
 subst A;rcases h.2 with⟨rfl,h0⟩|⟨g,cap,cur,rfl,hb,hg,rest⟩
 ·exact⟨none,0,by rw[h0],.inl (List.eq_nil_of_length_eq_zero h0),fun _ _ h=>by cases h⟩
 ·refine⟨_,cap,rfl,.inr ⟨g,0,rfl,(Array.getElem?_eq_some_iff.1 hg).1,fun i hi=>?_⟩,fun _ _ h=>by cases h;exact hb⟩;rw[Nat.zero_add,h.cellAt i (by omega),zpz ss i hi]
theorem SegW.of_owns{w:World}{base n:Nat}{v:Value}{ws:List (Int×ByteArray)}(h:w.ownsRow base 82 2 v n (cellsW ws)):∃a c,v=.slice a ws.length c∧SegW w a ws∧∀b off,a=some ⟨b,off,none⟩→base≤b:=by
 have A:ws.length=n:=by have:=h.1;rw[zga]at this;omega
 subst A;rcases h.2 with⟨rfl,h0⟩|⟨g,cap,cur,rfl,hb,hg,rest⟩
 ·exact⟨none,0,by rw[h0],.inl (List.eq_nil_of_length_eq_zero h0),fun _ _ h=>by cases h⟩
 ·refine⟨_,cap,rfl,.inr ⟨g,0,rfl,(Array.getElem?_eq_some_iff.1 hg).1,fun i hi=>?_⟩,fun _ _ h=>by cases h;exact hb⟩;have e:=zp0 ws i hi;rw[Nat.zero_add,h.cellAt (i*2) (by omega),h.cellAt (i*2+1) (by omega)];exact e
theorem z4y:(prog.info? 9).map (fun i=>(i.zero,i.size,i.bytes))=some (some (.string ⟨#[]⟩),1,16):=by kernel_rfl
theorem z4z:(prog.info? 82).map (fun i=>(i.zero,i.size,i.bytes))=some (some (.agg #[.int .i64 0,.string ⟨#[]⟩]),2,24):=by kernel_rfl
theorem znd(a:Option Addr)(c:Nat)(ss:List ByteArray)(w:World)(h:SegS w a ss)(hn:ss.length≤maxLen)(hbig:ss.length*16≤140737488355328):
  Calls prog 51 #[.slice a ss.length c] w fun e w'=>∃v',e=.returned v'∧w'.ownsRow w.heap.size 9 1 v' ss.length (cellsS ss)∧Below w.heap.size w w':=by
 have A0:∀(w:World) (a:Option Addr) (n c n' c':Nat),(binOp .eql 43 (.slice a n c) (.slice none n' c')).run prog w=.ok (.bool a.isNone) w:=fun w a n c n' c'=>Lib.run_eql_slice_nil w _ _ a n c n' c' underlying43;obtain⟨M,R,K,F,J⟩:=info_parts z4y;rcases a with _|ad
 ·have Q:ss=[]:=by rcases h with h|⟨b,off,he,_⟩;exact h;cases he
  subst Q;go_enter func51,ntmps51;go_wp2;go_ret;exact⟨_,rfl,World.ownsRow_nil _ _ _ _,Below.refl _ _⟩
 ·have A:Hid (∀j u,(cellsS ss)[j]?=some u→w.cell? (ad.add j)=some u):=by
   rcases h with h|⟨b,off,he,hlt,hc⟩
   ·rw[h];intro j u C;simp[cellsS]at C
   ·intro j u C;cases he;rw[Addr.add_lit];exact SegS.news hc j u C
  clear h;go_enter func51,ntmps51;go_wp2_with (at_builtin;refine wpList_append_own _ rfl _ _ 43 rfl w.heap.size 9 M (.string ⟨#[]⟩) 1 16 underlying43 R K F J rfl (by decide) _ _ _ rfl (World.ownsRow_made w #[] 0 (Nat.le_refl _) (Nat.zero_le _) (by simp)) ad ss.length c (cellsS ss) rfl ?qc1 ?qc2 ?qc3 ?qc4 ?qc5 ?qc6 ?_)
  case qc1=>exact zit ss
  case qc2=>intro j u C;exact Lib.cell?_alloc_some _ (A.o j u C)
  case qc3=>exact znb
  case qc4=>rw[Nat.zero_add];exact hn
  case qc5=>rw[Nat.zero_add];exact hbig
  case qc6=>simp
  intro v' I D B E;have N:Hid (I.ownsRow w.heap.size 9 1 v' ss.length (cellsS ss)):=by unfold Hid;simpa using D
  have O:Hid (Below w.heap.size w I):=(zaa w _).grown B (by simp) (by intro k L;simp[Value.ownBlock]at L;omega);clear D B E;go_wp2;go_ret;exact⟨v',rfl,N.o,O.o⟩
theorem zne(a:Option Addr)(c:Nat)(ss:List (Int×ByteArray))(w:World)(h:SegW w a ss)(hn:ss.length≤maxLen)(hbig:ss.length*24≤140737488355328):
  Calls prog 52 #[.slice a ss.length c] w fun e w'=>∃v',e=.returned v'∧w'.ownsRow w.heap.size 82 2 v' ss.length (cellsW ss)∧Below w.heap.size w w':=by
 have A0:∀(w:World) (a:Option Addr) (n c n' c':Nat),(binOp .eql 44 (.slice a n c) (.slice none n' c')).run prog w=.ok (.bool a.isNone) w:=fun w a n c n' c'=>Lib.run_eql_slice_nil w _ _ a n c n' c' underlying44;obtain⟨M,R,K,F,J⟩:=info_parts z4z;rcases a with _|ad
 ·have Q:ss=[]:=by rcases h with h|⟨b,off,he,_⟩;exact h;cases he
  subst Q;go_enter func52,ntmps52;go_wp2;go_ret;exact⟨_,rfl,World.ownsRow_nil _ _ _ _,Below.refl _ _⟩
 ·have A:Hid (∀j u,(cellsW ss)[j]?=some u→w.cell? (ad.add j)=some u):=by
   rcases h with h|⟨b,off,he,hlt,hc⟩
   ·rw[h];intro j u C;simp[cellsW]at C
   ·intro j u C;cases he;rw[Addr.add_lit];exact SegW.news hc j u C
  clear h;go_enter func52,ntmps52;go_wp2_with (at_builtin;refine wpList_append_own _ rfl _ _ 44 rfl w.heap.size 82 M (.agg #[.int .i64 0,.string ⟨#[]⟩]) 2 24 underlying44 R K F J rfl (by decide) _ _ _ rfl (World.ownsRow_made w #[] 0 (Nat.le_refl _) (Nat.zero_le _) (by simp)) ad ss.length c (cellsW ss) rfl ?qc1 ?qc2 ?qc3 ?qc4 ?qc5 ?qc6 ?_)
  case qc1=>exact zga ss
  case qc2=>intro j u C;exact Lib.cell?_alloc_some _ (A.o j u C)
  case qc3=>exact znc ss
  case qc4=>rw[Nat.zero_add];exact hn
  case qc5=>rw[Nat.zero_add];exact hbig
  case qc6=>simp
  intro v' I D B E;have N:Hid (I.ownsRow w.heap.size 82 2 v' ss.length (cellsW ss)):=by unfold Hid;simpa using D
  have O:Hid (Below w.heap.size w I):=(zaa w _).grown B (by simp) (by intro k L;simp[Value.ownBlock]at L;omega);clear D B E;go_wp2;go_ret;exact⟨v',rfl,N.o,O.o⟩
def zid (d:Dk)(n:Int)(s:ByteArray):Int:=
 if(za3 d&&zb0 n)=true then(if zbb s=true then(if d.wr.length=200 then 11 else 0) else 1) else 2
def zhn (d:Dk)(n:Int)(s:ByteArray):Dk:=if zid d n s=0 then⟨d.safe,d.wr++[(n,s)]⟩ else d
theorem zye(v:Value)(d:Dk)(n:Int)(s:ByteArray)(w:World)(h:IsDk w v d)(hno:(za3 d&&zb0 n)=false):
  Calls prog 109 #[v,.int .i64 n,.string s] w fun e w'=>e=.returned (.tuple #[v,.int .i64 2])∧Below w.heap.size w w':=by
 have I:Hid (IsDk w v d):=h;obtain⟨a,c,K,F,rfl,_,_,_,_⟩:=h;by_cases hg:za3 d=true
 ·have hp:zb0 n=false:=by simpa[hg] using hno
  clear hno;go_enter func109,ntmps109;go_wp2_with fail;refine(zc4 _ d _ (I.o.below (zae (zaa _ _) (zaa _ _)))).mono ?_;rintro e C ⟨rfl,A⟩;obtain⟨D,E⟩:=zpx A;have J:w.heap.size+1<C.heap.size:=by have:=A.size;simp at this;omega
  go_wp2_with fail;refine(zct _ _).mono ?_;rintro e w2 ⟨rfl,rfl⟩;go_wp2;refine bodyPost_ret (v:=.tuple #[.agg #[.slice a d.safe.length c,.slice K d.wr.length F],.int .i64 2]) (by simp[results,results109,go_sem,D]) rfl ⟨rfl,?_⟩;have B:Below w.heap.size w C:=zae (zae (zaa _ _) (zaa _ _)) A;exact(B.setCell (by simp) _).setCell (by simp) _
 ·have A0:za3 d=false:=by simpa using hg
  clear hno hg;go_enter func109,ntmps109;go_wp2_with fail;refine(zc4 _ d _ (I.o.below (zae (zaa _ _) (zaa _ _)))).mono ?_;rintro e C ⟨rfl,A⟩;obtain⟨D,E⟩:=zpx A;have J:w.heap.size+1<C.heap.size:=by have:=A.size;simp at this;omega
  go_wp2;refine bodyPost_ret (v:=.tuple #[.agg #[.slice a d.safe.length c,.slice K d.wr.length F],.int .i64 2]) (by simp[results,results109,go_sem,D]) rfl ⟨rfl,?_⟩;have B:Below w.heap.size w C:=zae (zae (zaa _ _) (zaa _ _)) A;exact(B.setCell (by simp) _).setCell (by simp) _
theorem z1w(v:Value)(d:Dk)(n:Int)(s:ByteArray)(w:World)(h:IsDk w v d)(hg:za3 d=true)(hp:zb0 n=true)(hf:zbb s=false):
  Calls prog 109 #[v,.int .i64 n,.string s] w fun e w'=>e=.returned (.tuple #[v,.int .i64 1])∧Below w.heap.size w w':=by
 have J:Hid (IsDk w v d):=h;obtain⟨a,c,E,I,rfl,_,_,_,_⟩:=h;go_enter func109,ntmps109;go_wp2_with fail;refine(zc4 _ d _ (J.o.below (zae (zaa _ _) (zaa _ _)))).mono ?_;rintro e C ⟨rfl,A⟩;obtain⟨D,A0⟩:=zpx A;have A1:w.heap.size+1<C.heap.size:=by have:=A.size;simp at this;omega
 go_wp2_with fail;refine(zct _ _).mono ?_;rintro e F ⟨rfl,rfl⟩;go_wp2_with fail;refine(zf9 _ _).mono ?_;rintro e F ⟨rfl,rfl⟩;go_wp2;refine bodyPost_ret (v:=.tuple #[.agg #[.slice a d.safe.length c,.slice E d.wr.length I],.int .i64 1]) (by simp[results,results109,go_sem,D]) rfl ⟨rfl,?_⟩;have B:Below w.heap.size w C:=zae (zae (zaa _ _) (zaa _ _)) A;exact(B.setCell (by simp) _).setCell (by simp) _
theorem z1x(v:Value)(d:Dk)(n:Int)(s:ByteArray)(w:World)(h:IsDk w v d)(hg:za3 d=true)(hp:zb0 n=true)(hf:zbb s=true)(hl:d.wr.length=200):
  Calls prog 109 #[v,.int .i64 n,.string s] w fun e w'=>e=.returned (.tuple #[v,.int .i64 11])∧Below w.heap.size w w':=by
 have I:Hid (IsDk w v d):=h;obtain⟨a,c,J,F,rfl,_,_,_,_⟩:=h;have A2:((d.wr.length:Int)==200)=true:=by rw[hl];rfl
 clear hl;go_enter func109,ntmps109;go_wp2_with fail;refine(zc4 _ d _ (I.o.below (zae (zaa _ _) (zaa _ _)))).mono ?_;rintro e C ⟨rfl,A⟩;obtain⟨D,A0⟩:=zpx A;have A1:w.heap.size+1<C.heap.size:=by have:=A.size;simp at this;omega
 go_wp2_with fail;refine(zct _ _).mono ?_;rintro e E ⟨rfl,rfl⟩;go_wp2_with fail;refine(zf9 _ _).mono ?_;rintro e E ⟨rfl,rfl⟩;go_wp2;refine bodyPost_ret (v:=.tuple #[.agg #[.slice a d.safe.length c,.slice J d.wr.length F],.int .i64 11]) (by simp[results,results109,go_sem,D]) rfl ⟨rfl,?_⟩;have B:Below w.heap.size w C:=zae (zae (zaa _ _) (zaa _ _)) A;exact(B.setCell (by simp) _).setCell (by simp) _
theorem z40(v:Value)(d:Dk)(n:Int)(s:ByteArray)(w:World)(h:IsDk w v d)(hg:za3 d=true)(hp:zb0 n=true)(hf:zbb s=true)(hl:¬d.wr.length=200):
  Calls prog 109 #[v,.int .i64 n,.string s] w fun e w'=>∃v2,e=.returned (.tuple #[v2,.int .i64 0])∧IsDk w' v2 ⟨d.safe,d.wr++[(n,s)]⟩∧Below w.heap.size w w'∧DkFrom w.heap.size v2:=by
 have HI:Hid (IsDk w v d):=h;obtain⟨a,c,r,c',rfl,z,hW,_,_⟩:=h;have HS:Hid (SegS w a d.safe):=z;have HW:Hid (SegW w r d.wr):=hW;clear z hW;have B8:((d.wr.length:Int)==200)=false:=by simp;omega
 have U:=(zeh hg).1;have Q:Hid (d.safe.length=37):=U;have B2:=(zeh hg).2;clear hl U;obtain⟨i0,hi,B1,A7,A9⟩:=info_parts z4z;go_enter func109,ntmps109;go_wp2_with fail;refine(zc4 _ d _ (HI.o.below (zae (zaa _ _) (zaa _ _)))).mono ?_;rintro e L ⟨rfl,A⟩;have B7:w.heap.size+1<L.heap.size:=by have:=A.size;simp at this;omega
 have x0:=zac A (b:=w.heap.size) (o:=0) (v:=.slice a d.safe.length c) (by simp;omega) (by simp[go_sem]);have x1:=zac A (b:=w.heap.size) (o:=1) (v:=.slice r d.wr.length c') (by simp;omega) (by simp[go_sem]);have y0:=zac A (b:=w.heap.size+1) (o:=0) (v:=.slice none 0 0) (by simp) (by simp[go_sem]);have y1:=zac A (b:=w.heap.size+1) (o:=1) (v:=.slice none 0 0) (by simp) (by simp[go_sem]);have f0:=za4 A (b:=w.heap.size+1) (o:=0) (v:=false) (by simp) (by simp[go_sem]);have f1:=za4 A (b:=w.heap.size+1) (o:=1) (v:=false) (by simp) (by simp[go_sem]);go_wp2_with fail;refine(zct _ _).mono ?_;rintro e w2 ⟨rfl,rfl⟩;go_wp2_with fail;refine(zf9 _ _).mono ?_;rintro e w2 ⟨rfl,rfl⟩;go_wp2_with fail;have i:Below w.heap.size w L:=zae (zae (zaa _ _) (zaa _ _)) A;refine(zne r c' d.wr _ (HW.o.below i) (by unfold maxLen;omega) (by omega)).mono ?_;rintro e w3 ⟨v3,rfl,F,M⟩;have m:=M.size;go_wp2_with (at_builtin;refine wpList_append_own _ rfl _ _ 44 rfl L.heap.size 82 i0 (.agg #[.int .i64 0,.string ⟨#[]⟩]) 2 24 underlying44 hi B1 A7 A9 rfl (by decide) _ _ _ rfl (F.alloc _) ⟨w3.heap.size,0,none⟩ 1 1 (cellsW [(n,s)]) rfl ?qc1 ?qc2 ?qc3 ?qc4 ?qc5 ?qc6 ?_)
 case qc1=>rfl
 case qc2=>
  intro j u I
  match j,I with
  |0,I=>simp[cellsW]at I;subst I;simp[Addr.add]
  |1,I=>simp[cellsW]at I;subst I;simp[Addr.add]
 case qc3=>exact znc _
 case qc4=>unfold maxLen;omega
 case qc5=>omega
 case qc6=>simp;omega
 intro v4 y D E S;have C:Below L.heap.size L y:=(M.alloc m _).grown E (by simp;omega) (fun k hk=>(F.lt k hk).1);rw[←zof]at D;obtain⟨K,c4,A8,l,X⟩:=SegW.of_owns D;have A0:Hid (SegW y K (d.wr++[(n,s)])):=l;have N:Hid (∀b off,K=some ⟨b,off,none⟩→L.heap.size≤b):=X;clear D E S F M m l X;subst A8;have B6:=C.size;have A1:=zac C (by omega) x0;go_wp2_with fail;have Y:=zae i C;refine(znd a c d.safe _ (HS.o.below Y) (by rw[Q.o];decide) (by rw[Q.o];decide)).mono ?_;rintro e x ⟨v6,rfl,J,B⟩;obtain⟨O,q,A5,Z,p⟩:=SegS.of_owns J;have B0:Hid (SegS x O d.safe):=Z;have R:Hid (∀b off,O=some ⟨b,off,none⟩→y.heap.size≤b):=p;have A6:Hid (SegW x K (d.wr++[(n,s)])):=A0.o.below B;have A4:Hid (Below w.heap.size w x):=zae Y B;have B5:=B.size;have A2:=zac B (by omega) (zac C (by omega) y0);have A3:=zac B (by omega) (zac C (by omega) y1);have B3:=za4 B (by omega) (za4 C (by omega) f0);have B4:=za4 B (by omega) (za4 C (by omega) f1);clear J Z p x0 x1 A1 y0 y1 f0 f1;subst A5;go_wp2;refine bodyPost_ret (v:=.tuple #[.agg #[.slice O d.safe.length q,.slice K (d.wr.length+1) c4],.int .i64 0]) (by simp[results,results109,go_sem,A2,A3]) rfl ⟨_,rfl,⟨O,q,K,c4,by simp,?_,?_,?_,?_⟩,?_,⟨O,_,q,K,_,c4,rfl,fun b off e=>by have:=R.o b off e;omega,fun b off e=>by have:=N.o b off e;omega⟩⟩
 ·exact(B0.o.setCell R.o (by simp;omega) _).setCell R.o (by simp;omega) _
 ·exact(A6.o.setCell N.o (by simp;omega) _).setCell N.o (by simp;omega) _
 ·show d.safe.length≤maxLen;rw[Q.o];decide
 ·show(d.wr++[(n,s)]).length≤maxLen;simp[maxLen];omega
 ·exact(A4.o.setCell (by simp) _).setCell (by simp) _
theorem z1y(v:Value)(d:Dk)(n:Int)(s:ByteArray)(w:World)(h:IsDk w v d):
  Calls prog 109 #[v,.int .i64 n,.string s] w fun e w'=>∃v2,e=.returned (.tuple #[v2,.int .i64 (zid d n s)])∧IsDk w' v2 (zhn d n s)∧(zid d n s≠0→v2=v)∧Below w.heap.size w w'∧(v2=v∨DkFrom w.heap.size v2):=by
 have back:∀k:Int,zid d n s=k→k≠0→Calls prog 109 #[v,.int .i64 n,.string s] w (fun e w'=>e=.returned (.tuple #[v,.int .i64 k])∧Below w.heap.size w w')→
   Calls prog 109 #[v,.int .i64 n,.string s] w fun e w'=>∃v2,e=.returned (.tuple #[v2,.int .i64 (zid d n s)])∧IsDk w' v2 (zhn d n s)∧(zid d n s≠0→v2=v)∧Below w.heap.size w w'∧(v2=v∨DkFrom w.heap.size v2):=by
  intro k E L A;have C:zhn d n s=d:=by rw[zhn,if_neg (by rw[E];exact L)]
  rw[E,C];exact A.mono fun e w' he=>⟨v,he.1,h.below he.2,fun _=>rfl,he.2,.inl rfl⟩
 cases hgp:(za3 d&&zb0 n) with
 |false=>exact back 2 (by simp only[zid,hgp];rfl) (by decide) (zye v d n s w h hgp)
 |true=>
  have B:za3 d=true:=by simp at hgp;exact hgp.1
  have D:zb0 n=true:=by simp at hgp;exact hgp.2
  cases hf:zbb s with
  |false=>exact back 1 (by simp only[zid,hgp,hf];rfl) (by decide) (z1w v d n s w h B D hf)
  |true=>
   by_cases hl:d.wr.length=200
   ·exact back 11 (by simp only[zid,hgp,hf,hl];rfl) (by decide) (z1x v d n s w h B D hf hl)
   ·have F:zid d n s=0:=by simp[zid,hgp,hf,hl]
    have C:zhn d n s=⟨d.safe,d.wr++[(n,s)]⟩:=by rw[zhn,if_pos F]
    rw[F,C]
    exact(z40 v d n s w h B D hf hl).mono fun e w' he=>by
     obtain⟨v2,K,I,J,M⟩:=he;exact⟨v2,K,I,fun h=>absurd rfl h,J,.inr M⟩
def zck (n:Int):List (Int×ByteArray)→List ByteArray
 |[]=>[]
 |x::r=>if x.1=n then x.2::zck n r else zck n r
def zdc (d:Dk)(n k:Nat):List ByteArray:=d.safe.getD n ByteArray.empty::zck n (d.wr.take k)
def ways (d:Dk)(n:Nat):List ByteArray:=d.safe.getD n ByteArray.empty::zck n d.wr
theorem zg1(n:Int)(l:List (Int×ByteArray))(x:Int×ByteArray):zck n (l++[x])=if x.1=n then zck n l++[x.2] else zck n l:=by
 induction l with
 |nil=>simp[zck]
 |cons y r ih=>by_cases h:y.1=n<;>by_cases h':x.1=n<;>simp[zck,h,h']<;>simpa[h'] using ih
theorem zm0(n:Int)(l:List (Int×ByteArray)):(zck n l).length≤l.length:=by
 induction l with
 |nil=>simp[zck]
 |cons y r ih=>by_cases h:y.1=n<;>simp[zck,h]<;>omega
theorem zv9(d:Dk)(n k:Nat)(x:Int×ByteArray)(h:d.wr[k]?=some x)(hx:x.1=n):zdc d n (k+1)=zdc d n k++[x.2]:=by
 rw[zdc,List.take_add_one,h];simp only[Option.toList_some];rw[zg1,if_pos hx];rfl
theorem zsw(d:Dk)(n k:Nat)(x:Int×ByteArray)(h:d.wr[k]?=some x)(hx:¬x.1=n):zdc d n (k+1)=zdc d n k:=by
 rw[zdc,List.take_add_one,h];simp only[Option.toList_some];rw[zg1,if_neg hx];rfl
theorem zi5(d:Dk)(n k:Nat)(h:d.wr.length≤200):1≤(zdc d n k).length∧(zdc d n k).length≤201:=by
 have:=zm0 n (d.wr.take k);have h2:(d.wr.take k).length≤d.wr.length:=by rw[List.length_take];omega
 simp only[zdc,List.length_cons];omega
