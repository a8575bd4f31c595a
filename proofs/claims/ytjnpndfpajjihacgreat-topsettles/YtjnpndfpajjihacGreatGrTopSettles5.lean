/-
  
-/
import Derived.Test.YtjnpndfpajjihacGreatGrTopSettles0
import Derived.Lib.SliceRun
set_option maxRecDepth 100000
set_option maxHeartbeats 40000000
namespace Go.Proofs.YtjnpndfpajjihacGreat
open Go.Proofs.Tryz
open Go.RowKit
def cellsS (ss:List ByteArray):List Value:=ss.map Value.string
def cellsW:List (Int×ByteArray)→List Value
 |[]=>[]
 |x::r=>.int .i64 x.1:: .string x.2::cellsW r
theorem zis(ss:List ByteArray):(cellsS ss).length=ss.length*1:=by simp[cellsS]
theorem zgc(ws:List (Int×ByteArray)):(cellsW ws).length=ws.length*2:=by
 induction ws with
 |nil=>rfl
 |cons x r ih=>simp[cellsW,ih];omega
theorem zn3(l r:List (Int×ByteArray)):cellsW (l++r)=cellsW l++cellsW r:=by
 induction l with
 |nil=>rfl
 |cons x t ih=>simp[cellsW,ih]
theorem zit(l r:List ByteArray):cellsS (l++r)=cellsS l++cellsS r:=by simp[cellsS]
theorem zmx{ss:List ByteArray}:∀u∈cellsS ss,u.oneCell'=true:=by
 intro u A;obtain⟨s,_,rfl⟩:=List.mem_map.1 A;rfl
theorem zmy(ws:List (Int×ByteArray)):∀u∈cellsW ws,u.oneCell'=true:=by
 induction ws with
 |nil=>intro u A;cases A
 |cons x r ih=>
  intro u A;simp only[cellsW,List.mem_cons]at A;rcases A with rfl|rfl|A
  ·rfl
  ·rfl
  ·exact ih u A
theorem zpq(ss:List ByteArray)(i:Nat)(h:i<ss.length):(cellsS ss)[i]?=some (.string (ss.getD i ByteArray.empty)):=by
 rw[cellsS,List.getElem?_map,ze1 ss i ByteArray.empty h];rfl
theorem zpr(ws:List (Int×ByteArray))(i:Nat)(h:i<ws.length):
  (cellsW ws)[i*2]?=some (.int .i64 (ws.getD i (0,ByteArray.empty)).1)∧(cellsW ws)[i*2+1]?=some (.string (ws.getD i (0,ByteArray.empty)).2):=by
 induction ws generalizing i with
 |nil=>simp at h
 |cons x r ih=>
  cases i with
  |zero=>simp[cellsW]
  |succ k=>
   have:=ih k (by simpa using h);rw[show(k+1)*2=k*2+1+1 from by omega]
   simpa[cellsW] using this
theorem SegS.news{w:World}{b off:Nat}{ss:List ByteArray}(h:∀i,i<ss.length→w.cell? ⟨b,off+i,none⟩=some (.string (ss.getD i ByteArray.empty))):
  ∀j u,(cellsS ss)[j]?=some u→w.cell? ⟨b,off+j,none⟩=some u:=by
 intro j u B;have A:j<ss.length:=by have:=(List.getElem?_eq_some_iff.1 B).1;simpa[cellsS] using this
 rw[h j A,←zpq ss j A,B]
theorem SegW.news{w:World}{b off:Nat}{ws:List (Int×ByteArray)}(h:∀i,i<ws.length→
  w.cell? ⟨b,off+i*2,none⟩=some (.int .i64 (ws.getD i (0,ByteArray.empty)).1)∧w.cell? ⟨b,off+i*2+1,none⟩=some (.string (ws.getD i (0,ByteArray.empty)).2)):
  ∀j u,(cellsW ws)[j]?=some u→w.cell? ⟨b,off+j,none⟩=some u:=by
 intro j u A;have A0:j<ws.length*2:=by have:=(List.getElem?_eq_some_iff.1 A).1;rwa [zgc]at this
 have C:j/2<ws.length:=by omega
 have e:=zpr ws (j/2) C;have g:=h (j/2) C;rcases Nat.mod_two_eq_zero_or_one j with h0|h0
 ·have B:j=j/2*2:=by omega
  rw[B]at A⊢;rw[g.1,←e.1,A]
 ·have B:j=j/2*2+1:=by omega
  rw[B]at A⊢;rw[show off+(j/2*2+1)=off+j/2*2+1 from by omega,g.2,←e.2,A]
theorem SegS.of_owns{w:World}{base n:Nat}{v:Value}{ss:List ByteArray}(h:w.ownsRow base 9 1 v n (cellsS ss)):∃a c,v=.slice a ss.length c∧SegS w a ss∧∀b off,a=some ⟨b,off,none⟩→base≤b:=by
 have A:ss.length=n:=by have:=h.1;rw[zis]at this;omega
 subst A;rcases h.2 with⟨rfl,h0⟩|⟨g,cap,cur,rfl,hb,hg,rest⟩
 ·exact⟨none,0,by rw[h0],.inl (List.eq_nil_of_length_eq_zero h0),fun _ _ h=>by cases h⟩
 ·refine⟨_,cap,rfl,.inr ⟨g,0,rfl,(Array.getElem?_eq_some_iff.1 hg).1,fun i hi=>?_⟩,fun _ _ h=>by cases h;exact hb⟩;rw[Nat.zero_add,h.cellAt i (by omega),zpq ss i hi]
theorem SegW.of_owns{w:World}{base n:Nat}{v:Value}{ws:List (Int×ByteArray)}(h:w.ownsRow base 82 2 v n (cellsW ws)):∃a c,v=.slice a ws.length c∧SegW w a ws∧∀b off,a=some ⟨b,off,none⟩→base≤b:=by
 have A:ws.length=n:=by have:=h.1;rw[zgc]at this;omega
 subst A;rcases h.2 with⟨rfl,h0⟩|⟨g,cap,cur,rfl,hb,hg,rest⟩
 ·exact⟨none,0,by rw[h0],.inl (List.eq_nil_of_length_eq_zero h0),fun _ _ h=>by cases h⟩
 ·refine⟨_,cap,rfl,.inr ⟨g,0,rfl,(Array.getElem?_eq_some_iff.1 hg).1,fun i hi=>?_⟩,fun _ _ h=>by cases h;exact hb⟩;have e:=zpr ws i hi;rw[Nat.zero_add,h.cellAt (i*2) (by omega),h.cellAt (i*2+1) (by omega)];exact e
theorem z4s:(prog.info? 9).map (fun i=>(i.zero,i.size,i.bytes))=some (some (.string ⟨#[]⟩),1,16):=by kernel_rfl
theorem z4t:(prog.info? 82).map (fun i=>(i.zero,i.size,i.bytes))=some (some (.agg #[.int .i64 0,.string ⟨#[]⟩]),2,24):=by kernel_rfl
theorem zmz(a:Option Addr)(c:Nat)(ss:List ByteArray)(w:World)(h:SegS w a ss)(hn:ss.length≤maxLen)(hbig:ss.length*16≤140737488355328):
  Calls prog 51 #[.slice a ss.length c] w fun e w'=>∃v',e=.returned v'∧w'.ownsRow w.heap.size 9 1 v' ss.length (cellsS ss)∧Below w.heap.size w w':=by
 have A0:∀(w:World) (a:Option Addr) (n c n' c':Nat),(binOp .eql 43 (.slice a n c) (.slice none n' c')).run prog w=.ok (.bool a.isNone) w:=fun w a n c n' c'=>Lib.run_eql_slice_nil w _ _ a n c n' c' underlying43;obtain⟨M,R,J,F,I⟩:=info_parts z4s;rcases a with _|ad
 ·have Q:ss=[]:=by rcases h with h|⟨b,off,he,_⟩;exact h;cases he
  subst Q;go_enter func51,ntmps51;go_wp2;go_ret;exact⟨_,rfl,World.ownsRow_nil _ _ _ _,Below.refl _ _⟩
 ·have A:Hid (∀j u,(cellsS ss)[j]?=some u→w.cell? (ad.add j)=some u):=by
   rcases h with h|⟨b,off,he,hlt,hc⟩
   ·rw[h];intro j u D;simp[cellsS]at D
   ·intro j u D;cases he;rw[Addr.add_lit];exact SegS.news hc j u D
  clear h;go_enter func51,ntmps51;go_wp2_with (at_builtin;refine wpList_append_own _ rfl _ _ 43 rfl w.heap.size 9 M (.string ⟨#[]⟩) 1 16 underlying43 R J F I rfl (by decide) _ _ _ rfl (World.ownsRow_made w #[] 0 (Nat.le_refl _) (Nat.zero_le _) (by simp)) ad ss.length c (cellsS ss) rfl ?qc1 ?qc2 ?qc3 ?qc4 ?qc5 ?qc6 ?_)
  case qc1=>exact zis ss
  case qc2=>intro j u D;exact Lib.cell?_alloc_some _ (A.o j u D)
  case qc3=>exact zmx
  case qc4=>rw[Nat.zero_add];exact hn
  case qc5=>rw[Nat.zero_add];exact hbig
  case qc6=>simp
  intro v' K C B E;have L:Hid (K.ownsRow w.heap.size 9 1 v' ss.length (cellsS ss)):=by unfold Hid;simpa using C
  have O:Hid (Below w.heap.size w K):=(zab w _).grown B (by simp) (by intro k N;simp[Value.ownBlock]at N;omega);clear C B E;go_wp2;go_ret;exact⟨v',rfl,L.o,O.o⟩
theorem zm0(a:Option Addr)(c:Nat)(ss:List (Int×ByteArray))(w:World)(h:SegW w a ss)(hn:ss.length≤maxLen)(hbig:ss.length*24≤140737488355328):
  Calls prog 52 #[.slice a ss.length c] w fun e w'=>∃v',e=.returned v'∧w'.ownsRow w.heap.size 82 2 v' ss.length (cellsW ss)∧Below w.heap.size w w':=by
 have A0:∀(w:World) (a:Option Addr) (n c n' c':Nat),(binOp .eql 44 (.slice a n c) (.slice none n' c')).run prog w=.ok (.bool a.isNone) w:=fun w a n c n' c'=>Lib.run_eql_slice_nil w _ _ a n c n' c' underlying44;obtain⟨M,R,J,F,I⟩:=info_parts z4t;rcases a with _|ad
 ·have Q:ss=[]:=by rcases h with h|⟨b,off,he,_⟩;exact h;cases he
  subst Q;go_enter func52,ntmps52;go_wp2;go_ret;exact⟨_,rfl,World.ownsRow_nil _ _ _ _,Below.refl _ _⟩
 ·have A:Hid (∀j u,(cellsW ss)[j]?=some u→w.cell? (ad.add j)=some u):=by
   rcases h with h|⟨b,off,he,hlt,hc⟩
   ·rw[h];intro j u D;simp[cellsW]at D
   ·intro j u D;cases he;rw[Addr.add_lit];exact SegW.news hc j u D
  clear h;go_enter func52,ntmps52;go_wp2_with (at_builtin;refine wpList_append_own _ rfl _ _ 44 rfl w.heap.size 82 M (.agg #[.int .i64 0,.string ⟨#[]⟩]) 2 24 underlying44 R J F I rfl (by decide) _ _ _ rfl (World.ownsRow_made w #[] 0 (Nat.le_refl _) (Nat.zero_le _) (by simp)) ad ss.length c (cellsW ss) rfl ?qc1 ?qc2 ?qc3 ?qc4 ?qc5 ?qc6 ?_)
  case qc1=>exact zgc ss
  case qc2=>intro j u D;exact Lib.cell?_alloc_some _ (A.o j u D)
  case qc3=>exact zmy ss
  case qc4=>rw[Nat.zero_add];exact hn
  case qc5=>rw[Nat.zero_add];exact hbig
  case qc6=>simp
  intro v' K C B E;have L:Hid (K.ownsRow w.heap.size 82 2 v' ss.length (cellsW ss)):=by unfold Hid;simpa using C
  have O:Hid (Below w.heap.size w K):=(zab w _).grown B (by simp) (by intro k N;simp[Value.ownBlock]at N;omega);clear C B E;go_wp2;go_ret;exact⟨v',rfl,L.o,O.o⟩
def zie (d:Dk)(n:Int)(s:ByteArray):Int:=
 if(za0 d&&zbz n)=true then(if zba s=true then(if d.wr.length=200 then 11 else 0) else 1) else 2
def zho (d:Dk)(n:Int)(s:ByteArray):Dk:=if zie d n s=0 then⟨d.safe,d.wr++[(n,s)]⟩ else d
theorem zx9(v:Value)(d:Dk)(n:Int)(s:ByteArray)(w:World)(h:IsDk w v d)(hno:(za0 d&&zbz n)=false):
  Calls prog 109 #[v,.int .i64 n,.string s] w fun e w'=>e=.returned (.tuple #[v,.int .i64 2])∧Below w.heap.size w w':=by
 have F:Hid (IsDk w v d):=h;obtain⟨a,c,K,I,rfl,_,_,_,_⟩:=h;by_cases hg:za0 d=true
 ·have hp:zbz n=false:=by simpa[hg] using hno
  clear hno;go_enter func109,ntmps109;go_wp2_with fail;refine(zc4 _ d _ (F.o.below (zae (zab _ _) (zab _ _)))).mono ?_;rintro e C ⟨rfl,A⟩;obtain⟨D,J⟩:=zpn A;have E:w.heap.size+1<C.heap.size:=by have:=A.size;simp at this;omega
  go_wp2_with fail;refine(zcx _ _).mono ?_;rintro e w2 ⟨rfl,rfl⟩;go_wp2;refine bodyPost_ret (v:=.tuple #[.agg #[.slice a d.safe.length c,.slice K d.wr.length I],.int .i64 2]) (by simp[results,results109,go_sem,D]) rfl ⟨rfl,?_⟩;have B:Below w.heap.size w C:=zae (zae (zab _ _) (zab _ _)) A;exact(B.setCell (by simp) _).setCell (by simp) _
 ·have A0:za0 d=false:=by simpa using hg
  clear hno hg;go_enter func109,ntmps109;go_wp2_with fail;refine(zc4 _ d _ (F.o.below (zae (zab _ _) (zab _ _)))).mono ?_;rintro e C ⟨rfl,A⟩;obtain⟨D,J⟩:=zpn A;have E:w.heap.size+1<C.heap.size:=by have:=A.size;simp at this;omega
  go_wp2;refine bodyPost_ret (v:=.tuple #[.agg #[.slice a d.safe.length c,.slice K d.wr.length I],.int .i64 2]) (by simp[results,results109,go_sem,D]) rfl ⟨rfl,?_⟩;have B:Below w.heap.size w C:=zae (zae (zab _ _) (zab _ _)) A;exact(B.setCell (by simp) _).setCell (by simp) _
theorem z1n(v:Value)(d:Dk)(n:Int)(s:ByteArray)(w:World)(h:IsDk w v d)(hg:za0 d=true)(hp:zbz n=true)(hf:zba s=false):
  Calls prog 109 #[v,.int .i64 n,.string s] w fun e w'=>e=.returned (.tuple #[v,.int .i64 1])∧Below w.heap.size w w':=by
 have F:Hid (IsDk w v d):=h;obtain⟨a,c,J,I,rfl,_,_,_,_⟩:=h;go_enter func109,ntmps109;go_wp2_with fail;refine(zc4 _ d _ (F.o.below (zae (zab _ _) (zab _ _)))).mono ?_;rintro e C ⟨rfl,A⟩;obtain⟨D,A1⟩:=zpn A;have A0:w.heap.size+1<C.heap.size:=by have:=A.size;simp at this;omega
 go_wp2_with fail;refine(zcx _ _).mono ?_;rintro e E ⟨rfl,rfl⟩;go_wp2_with fail;refine(zgb _ _).mono ?_;rintro e E ⟨rfl,rfl⟩;go_wp2;refine bodyPost_ret (v:=.tuple #[.agg #[.slice a d.safe.length c,.slice J d.wr.length I],.int .i64 1]) (by simp[results,results109,go_sem,D]) rfl ⟨rfl,?_⟩;have B:Below w.heap.size w C:=zae (zae (zab _ _) (zab _ _)) A;exact(B.setCell (by simp) _).setCell (by simp) _
theorem z1o(v:Value)(d:Dk)(n:Int)(s:ByteArray)(w:World)(h:IsDk w v d)(hg:za0 d=true)(hp:zbz n=true)(hf:zba s=true)(hl:d.wr.length=200):
  Calls prog 109 #[v,.int .i64 n,.string s] w fun e w'=>e=.returned (.tuple #[v,.int .i64 11])∧Below w.heap.size w w':=by
 have F:Hid (IsDk w v d):=h;obtain⟨a,c,J,I,rfl,_,_,_,_⟩:=h;have A1:((d.wr.length:Int)==200)=true:=by rw[hl];rfl
 clear hl;go_enter func109,ntmps109;go_wp2_with fail;refine(zc4 _ d _ (F.o.below (zae (zab _ _) (zab _ _)))).mono ?_;rintro e C ⟨rfl,A⟩;obtain⟨D,A2⟩:=zpn A;have A0:w.heap.size+1<C.heap.size:=by have:=A.size;simp at this;omega
 go_wp2_with fail;refine(zcx _ _).mono ?_;rintro e E ⟨rfl,rfl⟩;go_wp2_with fail;refine(zgb _ _).mono ?_;rintro e E ⟨rfl,rfl⟩;go_wp2;refine bodyPost_ret (v:=.tuple #[.agg #[.slice a d.safe.length c,.slice J d.wr.length I],.int .i64 11]) (by simp[results,results109,go_sem,D]) rfl ⟨rfl,?_⟩;have B:Below w.heap.size w C:=zae (zae (zab _ _) (zab _ _)) A;exact(B.setCell (by simp) _).setCell (by simp) _
theorem z4u(v:Value)(d:Dk)(n:Int)(s:ByteArray)(w:World)(h:IsDk w v d)(hg:za0 d=true)(hp:zbz n=true)(hf:zba s=true)(hl:¬d.wr.length=200):
  Calls prog 109 #[v,.int .i64 n,.string s] w fun e w'=>∃v2,e=.returned (.tuple #[v2,.int .i64 0])∧IsDk w' v2 ⟨d.safe,d.wr++[(n,s)]⟩∧Below w.heap.size w w'∧DkFrom w.heap.size v2:=by
 have HI:Hid (IsDk w v d):=h;obtain⟨a,c,y,c',rfl,hS,hW,_,_⟩:=h;have HS:Hid (SegS w a d.safe):=hS;have HW:Hid (SegW w y d.wr):=hW;clear hS hW;have B2:((d.wr.length:Int)==200)=false:=by simp;omega
 have m:=(zes hg).1;have M:Hid (d.safe.length=37):=m;have B1:=(zes hg).2;clear hl m;obtain⟨i0,hi,A8,z,A5⟩:=info_parts z4t;go_enter func109,ntmps109;go_wp2_with fail;refine(zc4 _ d _ (HI.o.below (zae (zab _ _) (zab _ _)))).mono ?_;rintro e K ⟨rfl,A⟩;have B4:w.heap.size+1<K.heap.size:=by have:=A.size;simp at this;omega
 have x0:=zac A (b:=w.heap.size) (o:=0) (v:=.slice a d.safe.length c) (by simp;omega) (by simp[go_sem]);have x1:=zac A (b:=w.heap.size) (o:=1) (v:=.slice y d.wr.length c') (by simp;omega) (by simp[go_sem]);have y0:=zac A (b:=w.heap.size+1) (o:=0) (v:=.slice none 0 0) (by simp) (by simp[go_sem]);have y1:=zac A (b:=w.heap.size+1) (o:=1) (v:=.slice none 0 0) (by simp) (by simp[go_sem]);have f0:=za6 A (b:=w.heap.size+1) (o:=0) (v:=false) (by simp) (by simp[go_sem]);have f1:=za6 A (b:=w.heap.size+1) (o:=1) (v:=false) (by simp) (by simp[go_sem]);go_wp2_with fail;refine(zcx _ _).mono ?_;rintro e w2 ⟨rfl,rfl⟩;go_wp2_with fail;refine(zgb _ _).mono ?_;rintro e w2 ⟨rfl,rfl⟩;go_wp2_with fail;have Y:Below w.heap.size w K:=zae (zae (zab _ _) (zab _ _)) A;refine(zm0 y c' d.wr _ (HW.o.below Y) (by unfold maxLen;omega) (by omega)).mono ?_;rintro e w3 ⟨v3,rfl,I,Q⟩;have Z:=Q.size;go_wp2_with (at_builtin;refine wpList_append_own _ rfl _ _ 44 rfl K.heap.size 82 i0 (.agg #[.int .i64 0,.string ⟨#[]⟩]) 2 24 underlying44 hi A8 z A5 rfl (by decide) _ _ _ rfl (I.alloc _) ⟨w3.heap.size,0,none⟩ 1 1 (cellsW [(n,s)]) rfl ?qc1 ?qc2 ?qc3 ?qc4 ?qc5 ?qc6 ?_)
 case qc1=>rfl
 case qc2=>
  intro j u F
  match j,F with
  |0,F=>simp[cellsW]at F;subst F;simp[Addr.add]
  |1,F=>simp[cellsW]at F;subst F;simp[Addr.add]
 case qc3=>exact zmy _
 case qc4=>unfold maxLen;omega
 case qc5=>omega
 case qc6=>simp;omega
 intro v4 q D E S;have C:Below K.heap.size K q:=(Q.alloc Z _).grown E (by simp;omega) (fun k hk=>(I.lt k hk).1);rw[←zn3]at D;obtain⟨L,c4,A2,p,U⟩:=SegW.of_owns D;have A0:Hid (SegW q L (d.wr++[(n,s)])):=p;have R:Hid (∀b off,L=some ⟨b,off,none⟩→K.heap.size≤b):=U;clear D E S I Q Z p U;subst A2;have B6:=C.size;have A6:=zac C (by omega) x0;go_wp2_with fail;have i:=zae Y C;refine(zmz a c d.safe _ (HS.o.below i) (by rw[M.o];decide) (by rw[M.o];decide)).mono ?_;rintro e x ⟨v6,rfl,J,B⟩;obtain⟨O,r,A9,l,X⟩:=SegS.of_owns J;have A1:Hid (SegS x O d.safe):=l;have N:Hid (∀b off,O=some ⟨b,off,none⟩→q.heap.size≤b):=X;have B0:Hid (SegW x L (d.wr++[(n,s)])):=A0.o.below B;have A7:Hid (Below w.heap.size w x):=zae i B;have B7:=B.size;have A3:=zac B (by omega) (zac C (by omega) y0);have A4:=zac B (by omega) (zac C (by omega) y1);have B3:=za6 B (by omega) (za6 C (by omega) f0);have B5:=za6 B (by omega) (za6 C (by omega) f1);clear J l X x0 x1 A6 y0 y1 f0 f1;subst A9;go_wp2;refine bodyPost_ret (v:=.tuple #[.agg #[.slice O d.safe.length r,.slice L (d.wr.length+1) c4],.int .i64 0]) (by simp[results,results109,go_sem,A3,A4]) rfl ⟨_,rfl,⟨O,r,L,c4,by simp,?_,?_,?_,?_⟩,?_,⟨O,_,r,L,_,c4,rfl,fun b off e=>by have:=N.o b off e;omega,fun b off e=>by have:=R.o b off e;omega⟩⟩
 ·exact(A1.o.setCell N.o (by simp;omega) _).setCell N.o (by simp;omega) _
 ·exact(B0.o.setCell R.o (by simp;omega) _).setCell R.o (by simp;omega) _
 ·show d.safe.length≤maxLen;rw[M.o];decide
 ·show(d.wr++[(n,s)]).length≤maxLen;simp[maxLen];omega
 ·exact(A7.o.setCell (by simp) _).setCell (by simp) _
theorem z1p(v:Value)(d:Dk)(n:Int)(s:ByteArray)(w:World)(h:IsDk w v d):
  Calls prog 109 #[v,.int .i64 n,.string s] w fun e w'=>∃v2,e=.returned (.tuple #[v2,.int .i64 (zie d n s)])∧IsDk w' v2 (zho d n s)∧(zie d n s≠0→v2=v)∧Below w.heap.size w w'∧(v2=v∨DkFrom w.heap.size v2):=by
 have back:∀k:Int,zie d n s=k→k≠0→Calls prog 109 #[v,.int .i64 n,.string s] w (fun e w'=>e=.returned (.tuple #[v,.int .i64 k])∧Below w.heap.size w w')→
   Calls prog 109 #[v,.int .i64 n,.string s] w fun e w'=>∃v2,e=.returned (.tuple #[v2,.int .i64 (zie d n s)])∧IsDk w' v2 (zho d n s)∧(zie d n s≠0→v2=v)∧Below w.heap.size w w'∧(v2=v∨DkFrom w.heap.size v2):=by
  intro k F L A;have D:zho d n s=d:=by rw[zho,if_neg (by rw[F];exact L)]
  rw[F,D];exact A.mono fun e w' he=>⟨v,he.1,h.below he.2,fun _=>rfl,he.2,.inl rfl⟩
 cases hgp:(za0 d&&zbz n) with
 |false=>exact back 2 (by simp only[zie,hgp];rfl) (by decide) (zx9 v d n s w h hgp)
 |true=>
  have C:za0 d=true:=by simp at hgp;exact hgp.1
  have B:zbz n=true:=by simp at hgp;exact hgp.2
  cases hf:zba s with
  |false=>exact back 1 (by simp only[zie,hgp,hf];rfl) (by decide) (z1n v d n s w h C B hf)
  |true=>
   by_cases hl:d.wr.length=200
   ·exact back 11 (by simp only[zie,hgp,hf,hl];rfl) (by decide) (z1o v d n s w h C B hf hl)
   ·have E:zie d n s=0:=by simp[zie,hgp,hf,hl]
    have D:zho d n s=⟨d.safe,d.wr++[(n,s)]⟩:=by rw[zho,if_pos E]
    rw[E,D]
    exact(z4u v d n s w h C B hf hl).mono fun e w' he=>by
     obtain⟨v2,J,M,K,I⟩:=he;exact⟨v2,J,M,fun h=>absurd rfl h,K,.inr I⟩
def zcl (n:Int):List (Int×ByteArray)→List ByteArray
 |[]=>[]
 |x::r=>if x.1=n then x.2::zcl n r else zcl n r
def zdb (d:Dk)(n k:Nat):List ByteArray:=d.safe.getD n ByteArray.empty::zcl n (d.wr.take k)
def ways (d:Dk)(n:Nat):List ByteArray:=d.safe.getD n ByteArray.empty::zcl n d.wr
theorem zg2(n:Int)(l:List (Int×ByteArray))(x:Int×ByteArray):zcl n (l++[x])=if x.1=n then zcl n l++[x.2] else zcl n l:=by
 induction l with
 |nil=>simp[zcl]
 |cons y r ih=>by_cases h:y.1=n<;>by_cases h':x.1=n<;>simp[zcl,h,h']<;>simpa[h'] using ih
theorem zmp(n:Int)(l:List (Int×ByteArray)):(zcl n l).length≤l.length:=by
 induction l with
 |nil=>simp[zcl]
 |cons y r ih=>by_cases h:y.1=n<;>simp[zcl,h]<;>omega
theorem zv6(d:Dk)(n k:Nat)(x:Int×ByteArray)(h:d.wr[k]?=some x)(hx:x.1=n):zdb d n (k+1)=zdb d n k++[x.2]:=by
 rw[zdb,List.take_add_one,h];simp only[Option.toList_some];rw[zg2,if_pos hx];rfl
theorem zsr(d:Dk)(n k:Nat)(x:Int×ByteArray)(h:d.wr[k]?=some x)(hx:¬x.1=n):zdb d n (k+1)=zdb d n k:=by
 rw[zdb,List.take_add_one,h];simp only[Option.toList_some];rw[zg2,if_neg hx];rfl
theorem zi3(d:Dk)(n k:Nat)(h:d.wr.length≤200):1≤(zdb d n k).length∧(zdb d n k).length≤201:=by
 have:=zmp n (d.wr.take k);have h2:(d.wr.take k).length≤d.wr.length:=by rw[List.length_take];omega
 simp only[zdb,List.length_cons];omega
