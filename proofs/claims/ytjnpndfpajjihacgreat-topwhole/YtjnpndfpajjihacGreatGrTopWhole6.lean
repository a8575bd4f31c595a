/-
  
-/
import Derived.Test.YtjnpndfpajjihacGreatGrTopWhole0
import Derived.Lib.SliceRun
set_option maxRecDepth 100000
set_option maxHeartbeats 40000000
namespace Go.Proofs.YtjnpndfpajjihacGreat
open Tryz
open Go.RowKit
def cellsS (ss:List ByteArray):List Value:=ss.map Value.string
def cellsW:List (Int×ByteArray)→List Value
 |[]=>[]
 |x::r=>.int .i64 x.1:: .string x.2::cellsW r
theorem zil (ss:List ByteArray):(cellsS ss).length=ss.length*1:=by simp[cellsS]
theorem zf5 (ws:List (Int×ByteArray)):(cellsW ws).length=ws.length*2:=by
 induction ws with
 |nil=>rfl
 |cons x r ih=>simp[cellsW,ih];omega
theorem zn8 (l r:List (Int×ByteArray)):cellsW (l++r)=cellsW l++cellsW r:=by
 induction l with
 |nil=>rfl
 |cons x t ih=>simp[cellsW,ih]
theorem zim (l r:List ByteArray):cellsS (l++r)=cellsS l++cellsS r:=by simp[cellsS]
theorem zm3 {ss:List ByteArray}:∀u∈cellsS ss,u.oneCell'=true:=by
 intro u A;obtain⟨s,_,rfl⟩:=List.mem_map.1 A;rfl
theorem zm4 (ws:List (Int×ByteArray)):∀u∈cellsW ws,u.oneCell'=true:=by
 induction ws with
 |nil=>intro u A;cases A
 |cons x r ih=>
  intro u A;simp only[cellsW,List.mem_cons] at A;rcases A with rfl|rfl|A
  ·rfl
  ·rfl
  ·exact ih u A
theorem zpv (ss:List ByteArray)(i:Nat)(h:i<ss.length):(cellsS ss)[i]?=some (.string (ss.getD i ByteArray.empty)):=by
 rw[cellsS,List.getElem?_map,zeo ss i ByteArray.empty h];rfl
theorem zpw (ws:List (Int×ByteArray))(i:Nat)(h:i<ws.length):
  (cellsW ws)[i*2]?=some (.int .i64 (ws.getD i (0,ByteArray.empty)).1)∧(cellsW ws)[i*2+1]?=some (.string (ws.getD i (0,ByteArray.empty)).2):=by
 induction ws generalizing i with
 |nil=>simp at h
 |cons x r ih=>
  cases i with
  |zero=>simp[cellsW]
  |succ k=>
   have:=ih k (by simpa using h);rw[show(k+1)*2=k*2+1+1 from by omega]
   simpa[cellsW] using this
theorem SegS.news {w:World}{b off:Nat}{ss:List ByteArray}(h:∀i,i<ss.length→w.cell? ⟨b,off+i,none⟩=some (.string (ss.getD i ByteArray.empty))):
  ∀j u,(cellsS ss)[j]?=some u→w.cell? ⟨b,off+j,none⟩=some u:=by
 intro j u B;have A:j<ss.length:=by have:=(List.getElem?_eq_some_iff.1 B).1;simpa[cellsS] using this
 rw[h j A,←zpv ss j A,B]
theorem SegW.news {w:World}{b off:Nat}{ws:List (Int×ByteArray)}(h:∀i,i<ws.length→
  w.cell? ⟨b,off+i*2,none⟩=some (.int .i64 (ws.getD i (0,ByteArray.empty)).1)∧w.cell? ⟨b,off+i*2+1,none⟩=some (.string (ws.getD i (0,ByteArray.empty)).2)):
  ∀j u,(cellsW ws)[j]?=some u→w.cell? ⟨b,off+j,none⟩=some u:=by
 intro j u A;have A0:j<ws.length*2:=by have:=(List.getElem?_eq_some_iff.1 A).1;rwa [zf5] at this
 have C:j/2<ws.length:=by omega
 have e:=zpw ws (j/2) C;have g:=h (j/2) C;rcases Nat.mod_two_eq_zero_or_one j with h0|h0
 ·have B:j=j/2*2:=by omega
  rw[B] at A⊢;rw[g.1,←e.1,A]
 ·have B:j=j/2*2+1:=by omega
  rw[B] at A⊢;rw[show off+(j/2*2+1)=off+j/2*2+1 from by omega,g.2,←e.2,A]
theorem SegS.of_owns {w:World}{base n:Nat}{v:Value}{ss:List ByteArray}(h:w.ownsRow base 9 1 v n (cellsS ss)):∃a c,v=.slice a ss.length c∧SegS w a ss∧∀b off,a=some ⟨b,off,none⟩→base≤b:=by
 have A:ss.length=n:=by have:=h.1;rw[zil] at this;omega
 subst A;rcases h.2 with⟨rfl,h0⟩|⟨g,cap,cur,rfl,hb,hg,rest⟩
 ·exact⟨none,0,by rw[h0],.inl (List.eq_nil_of_length_eq_zero h0),fun _ _ h=>by cases h⟩
 ·refine⟨_,cap,rfl,.inr ⟨g,0,rfl,(Array.getElem?_eq_some_iff.1 hg).1,fun i hi=>?_⟩,fun _ _ h=>by cases h;exact hb⟩;rw[Nat.zero_add,h.cellAt i (by omega),zpv ss i hi]
theorem SegW.of_owns {w:World}{base n:Nat}{v:Value}{ws:List (Int×ByteArray)}(h:w.ownsRow base 82 2 v n (cellsW ws)):∃a c,v=.slice a ws.length c∧SegW w a ws∧∀b off,a=some ⟨b,off,none⟩→base≤b:=by
 have A:ws.length=n:=by have:=h.1;rw[zf5] at this;omega
 subst A;rcases h.2 with⟨rfl,h0⟩|⟨g,cap,cur,rfl,hb,hg,rest⟩
 ·exact⟨none,0,by rw[h0],.inl (List.eq_nil_of_length_eq_zero h0),fun _ _ h=>by cases h⟩
 ·refine⟨_,cap,rfl,.inr ⟨g,0,rfl,(Array.getElem?_eq_some_iff.1 hg).1,fun i hi=>?_⟩,fun _ _ h=>by cases h;exact hb⟩;have e:=zpw ws i hi;rw[Nat.zero_add,h.cellAt (i*2) (by omega),h.cellAt (i*2+1) (by omega)];exact e
theorem z41:(prog.info? 9).map (fun i=>(i.zero,i.size,i.bytes))=some (some (.string ⟨#[]⟩),1,16):=by kernel_rfl
theorem z42:(prog.info? 82).map (fun i=>(i.zero,i.size,i.bytes))=some (some (.agg #[.int .i64 0,.string ⟨#[]⟩]),2,24):=by kernel_rfl
theorem zm5 (a:Option Addr)(c:Nat)(ss:List ByteArray)(w:World)(h:SegS w a ss)(hn:ss.length≤maxLen)(hbig:ss.length*16≤140737488355328):
  Calls prog 51 #[.slice a ss.length c] w fun e w'=>∃v',e=.returned v'∧w'.ownsRow w.heap.size 9 1 v' ss.length (cellsS ss)∧Below w.heap.size w w':=by
 have A0:∀(w:World) (a:Option Addr) (n c n' c':Nat),(binOp .eql 43 (.slice a n c) (.slice none n' c')).run prog w=.ok (.bool a.isNone) w:=fun w a n c n' c'=>Lib.run_eql_slice_nil w _ _ a n c n' c' underlying43;obtain⟨Q,O,J,K,I⟩:=info_parts z41;rcases a with _|ad
 ·have L:ss=[]:=by rcases h with h|⟨b,off,he,_⟩;exact h;cases he
  subst L;go_enter func51,ntmps51;go_wp2;go_ret;exact⟨_,rfl,World.ownsRow_nil _ _ _ _,Below.refl _ _⟩
 ·have A:Hid (∀j u,(cellsS ss)[j]?=some u→w.cell? (ad.add j)=some u):=by
   rcases h with h|⟨b,off,he,hlt,hc⟩
   ·rw[h];intro j u C;simp[cellsS] at C
   ·intro j u C;cases he;rw[Addr.add_lit];exact SegS.news hc j u C
  clear h;go_enter func51,ntmps51;go_wp2_with (at_builtin;refine wpList_append_own _ rfl _ _ 43 rfl w.heap.size 9 Q (.string ⟨#[]⟩) 1 16 underlying43 O J K I rfl (by decide) _ _ _ rfl (World.ownsRow_made w #[] 0 (Nat.le_refl _) (Nat.zero_le _) (by simp)) ad ss.length c (cellsS ss) rfl ?qc1 ?qc2 ?qc3 ?qc4 ?qc5 ?qc6 ?_)
  case qc1=>exact zil ss
  case qc2=>intro j u C;exact Lib.cell?_alloc_some _ (A.o j u C)
  case qc3=>exact zm3
  case qc4=>rw[Nat.zero_add];exact hn
  case qc5=>rw[Nat.zero_add];exact hbig
  case qc6=>simp
  intro v' F D B E;have M:Hid (F.ownsRow w.heap.size 9 1 v' ss.length (cellsS ss)):=by unfold Hid;simpa using D
  have N:Hid (Below w.heap.size w F):=(zaa w _).grown B (by simp) (by intro k R;simp[Value.ownBlock] at R;omega);clear D B E;go_wp2;go_ret;exact⟨v',rfl,M.o,N.o⟩
theorem zm6 (a:Option Addr)(c:Nat)(ss:List (Int×ByteArray))(w:World)(h:SegW w a ss)(hn:ss.length≤maxLen)(hbig:ss.length*24≤140737488355328):
  Calls prog 52 #[.slice a ss.length c] w fun e w'=>∃v',e=.returned v'∧w'.ownsRow w.heap.size 82 2 v' ss.length (cellsW ss)∧Below w.heap.size w w':=by
 have A0:∀(w:World) (a:Option Addr) (n c n' c':Nat),(binOp .eql 44 (.slice a n c) (.slice none n' c')).run prog w=.ok (.bool a.isNone) w:=fun w a n c n' c'=>Lib.run_eql_slice_nil w _ _ a n c n' c' underlying44;obtain⟨Q,O,J,K,I⟩:=info_parts z42;rcases a with _|ad
 ·have L:ss=[]:=by rcases h with h|⟨b,off,he,_⟩;exact h;cases he
  subst L;go_enter func52,ntmps52;go_wp2;go_ret;exact⟨_,rfl,World.ownsRow_nil _ _ _ _,Below.refl _ _⟩
 ·have A:Hid (∀j u,(cellsW ss)[j]?=some u→w.cell? (ad.add j)=some u):=by
   rcases h with h|⟨b,off,he,hlt,hc⟩
   ·rw[h];intro j u C;simp[cellsW] at C
   ·intro j u C;cases he;rw[Addr.add_lit];exact SegW.news hc j u C
  clear h;go_enter func52,ntmps52;go_wp2_with (at_builtin;refine wpList_append_own _ rfl _ _ 44 rfl w.heap.size 82 Q (.agg #[.int .i64 0,.string ⟨#[]⟩]) 2 24 underlying44 O J K I rfl (by decide) _ _ _ rfl (World.ownsRow_made w #[] 0 (Nat.le_refl _) (Nat.zero_le _) (by simp)) ad ss.length c (cellsW ss) rfl ?qc1 ?qc2 ?qc3 ?qc4 ?qc5 ?qc6 ?_)
  case qc1=>exact zf5 ss
  case qc2=>intro j u C;exact Lib.cell?_alloc_some _ (A.o j u C)
  case qc3=>exact zm4 ss
  case qc4=>rw[Nat.zero_add];exact hn
  case qc5=>rw[Nat.zero_add];exact hbig
  case qc6=>simp
  intro v' F D B E;have M:Hid (F.ownsRow w.heap.size 82 2 v' ss.length (cellsW ss)):=by unfold Hid;simpa using D
  have N:Hid (Below w.heap.size w F):=(zaa w _).grown B (by simp) (by intro k R;simp[Value.ownBlock] at R;omega);clear D B E;go_wp2;go_ret;exact⟨v',rfl,M.o,N.o⟩
open Go.RowKit
def zh9 (d:Dk)(n:Int)(s:ByteArray):Int:=
 if(za2 d&&zb0 n)=true then(if zbd s=true then(if d.wr.length=200 then 11 else 0) else 1) else 2
def zhh (d:Dk)(n:Int)(s:ByteArray):Dk:=if zh9 d n s=0 then⟨d.safe,d.wr++[(n,s)]⟩ else d
theorem zx9 (v:Value)(d:Dk)(n:Int)(s:ByteArray)(w:World)(h:IsDk w v d)(hno:(za2 d&&zb0 n)=false):
  Calls prog 109 #[v,.int .i64 n,.string s] w fun e w'=>e=.returned (.tuple #[v,.int .i64 2])∧Below w.heap.size w w':=by
 have J:Hid (IsDk w v d):=h;obtain⟨a,c,E,I,rfl,_,_,_,_⟩:=h;by_cases hg:za2 d=true
 ·have hp:zb0 n=false:=by simpa[hg] using hno
  clear hno;go_enter func109,ntmps109;go_wp2_with fail;refine(zc1 _ d _ (J.o.below (zae (zaa _ _) (zaa _ _)))).mono ?_;rintro e B ⟨rfl,A⟩;obtain⟨C,K⟩:=zpr A;have F:w.heap.size+1<B.heap.size:=by have:=A.size;simp at this;omega
  go_wp2_with fail;refine(zct _ _).mono ?_;rintro e w2 ⟨rfl,rfl⟩;go_wp2;refine bodyPost_ret (v:=.tuple #[.agg #[.slice a d.safe.length c,.slice E d.wr.length I],.int .i64 2]) (by simp[results,results109,go_sem,C]) rfl ⟨rfl,?_⟩;have D:Below w.heap.size w B:=zae (zae (zaa _ _) (zaa _ _)) A;exact(D.setCell (by simp) _).setCell (by simp) _
 ·have A0:za2 d=false:=by simpa using hg
  clear hno hg;go_enter func109,ntmps109;go_wp2_with fail;refine(zc1 _ d _ (J.o.below (zae (zaa _ _) (zaa _ _)))).mono ?_;rintro e B ⟨rfl,A⟩;obtain⟨C,K⟩:=zpr A;have F:w.heap.size+1<B.heap.size:=by have:=A.size;simp at this;omega
  go_wp2;refine bodyPost_ret (v:=.tuple #[.agg #[.slice a d.safe.length c,.slice E d.wr.length I],.int .i64 2]) (by simp[results,results109,go_sem,C]) rfl ⟨rfl,?_⟩;have D:Below w.heap.size w B:=zae (zae (zaa _ _) (zaa _ _)) A;exact(D.setCell (by simp) _).setCell (by simp) _
theorem z1v (v:Value)(d:Dk)(n:Int)(s:ByteArray)(w:World)(h:IsDk w v d)(hg:za2 d=true)(hp:zb0 n=true)(hf:zbd s=false):
  Calls prog 109 #[v,.int .i64 n,.string s] w fun e w'=>e=.returned (.tuple #[v,.int .i64 1])∧Below w.heap.size w w':=by
 have I:Hid (IsDk w v d):=h;obtain⟨a,c,E,F,rfl,_,_,_,_⟩:=h;go_enter func109,ntmps109;go_wp2_with fail;refine(zc1 _ d _ (I.o.below (zae (zaa _ _) (zaa _ _)))).mono ?_;rintro e B ⟨rfl,A⟩;obtain⟨D,A1⟩:=zpr A;have A0:w.heap.size+1<B.heap.size:=by have:=A.size;simp at this;omega
 go_wp2_with fail;refine(zct _ _).mono ?_;rintro e J ⟨rfl,rfl⟩;go_wp2_with fail;refine(zfz _ _).mono ?_;rintro e J ⟨rfl,rfl⟩;go_wp2;refine bodyPost_ret (v:=.tuple #[.agg #[.slice a d.safe.length c,.slice E d.wr.length F],.int .i64 1]) (by simp[results,results109,go_sem,D]) rfl ⟨rfl,?_⟩;have C:Below w.heap.size w B:=zae (zae (zaa _ _) (zaa _ _)) A;exact(C.setCell (by simp) _).setCell (by simp) _
theorem z1w (v:Value)(d:Dk)(n:Int)(s:ByteArray)(w:World)(h:IsDk w v d)(hg:za2 d=true)(hp:zb0 n=true)(hf:zbd s=true)(hl:d.wr.length=200):
  Calls prog 109 #[v,.int .i64 n,.string s] w fun e w'=>e=.returned (.tuple #[v,.int .i64 11])∧Below w.heap.size w w':=by
 have I:Hid (IsDk w v d):=h;obtain⟨a,c,E,F,rfl,_,_,_,_⟩:=h;have A1:((d.wr.length:Int)==200)=true:=by rw[hl];rfl
 clear hl;go_enter func109,ntmps109;go_wp2_with fail;refine(zc1 _ d _ (I.o.below (zae (zaa _ _) (zaa _ _)))).mono ?_;rintro e B ⟨rfl,A⟩;obtain⟨C,A2⟩:=zpr A;have A0:w.heap.size+1<B.heap.size:=by have:=A.size;simp at this;omega
 go_wp2_with fail;refine(zct _ _).mono ?_;rintro e J ⟨rfl,rfl⟩;go_wp2_with fail;refine(zfz _ _).mono ?_;rintro e J ⟨rfl,rfl⟩;go_wp2;refine bodyPost_ret (v:=.tuple #[.agg #[.slice a d.safe.length c,.slice E d.wr.length F],.int .i64 11]) (by simp[results,results109,go_sem,C]) rfl ⟨rfl,?_⟩;have D:Below w.heap.size w B:=zae (zae (zaa _ _) (zaa _ _)) A;exact(D.setCell (by simp) _).setCell (by simp) _
theorem z43 (v:Value)(d:Dk)(n:Int)(s:ByteArray)(w:World)(h:IsDk w v d)(hg:za2 d=true)(hp:zb0 n=true)(hf:zbd s=true)(hl:¬d.wr.length=200):
  Calls prog 109 #[v,.int .i64 n,.string s] w fun e w'=>∃v2,e=.returned (.tuple #[v2,.int .i64 0])∧IsDk w' v2 ⟨d.safe,d.wr++[(n,s)]⟩∧Below w.heap.size w w'∧DkFrom w.heap.size v2:=by
 have HI:Hid (IsDk w v d):=h;obtain⟨a,c,q,c',rfl,hS,hW,_,_⟩:=h;have HS:Hid (SegS w a d.safe):=hS;have HW:Hid (SegW w q d.wr):=hW;clear hS hW;have B6:((d.wr.length:Int)==200)=false:=by simp;omega
 have Y:=(zeh hg).1;have N:Hid (d.safe.length=37):=Y;have B1:=(zeh hg).2;clear hl Y;obtain⟨i0,hi,A3,A6,A1⟩:=info_parts z42;go_enter func109,ntmps109;go_wp2_with fail;refine(zc1 _ d _ (HI.o.below (zae (zaa _ _) (zaa _ _)))).mono ?_;rintro e K ⟨rfl,A⟩;have B4:w.heap.size+1<K.heap.size:=by have:=A.size;simp at this;omega
 have x0:=zac A (b:=w.heap.size) (o:=0) (v:=.slice a d.safe.length c) (by simp;omega) (by simp[go_sem]);have x1:=zac A (b:=w.heap.size) (o:=1) (v:=.slice q d.wr.length c') (by simp;omega) (by simp[go_sem]);have y0:=zac A (b:=w.heap.size+1) (o:=0) (v:=.slice none 0 0) (by simp) (by simp[go_sem]);have y1:=zac A (b:=w.heap.size+1) (o:=1) (v:=.slice none 0 0) (by simp) (by simp[go_sem]);have f0:=za7 A (b:=w.heap.size+1) (o:=0) (v:=false) (by simp) (by simp[go_sem]);have f1:=za7 A (b:=w.heap.size+1) (o:=1) (v:=false) (by simp) (by simp[go_sem]);go_wp2_with fail;refine(zct _ _).mono ?_;rintro e w2 ⟨rfl,rfl⟩;go_wp2_with fail;refine(zfz _ _).mono ?_;rintro e w2 ⟨rfl,rfl⟩;go_wp2_with fail;have m:Below w.heap.size w K:=zae (zae (zaa _ _) (zaa _ _)) A;refine(zm6 q c' d.wr _ (HW.o.below m) (by unfold maxLen;omega) (by omega)).mono ?_;rintro e w3 ⟨v3,rfl,I,Q⟩;have p:=Q.size;go_wp2_with (at_builtin;refine wpList_append_own _ rfl _ _ 44 rfl K.heap.size 82 i0 (.agg #[.int .i64 0,.string ⟨#[]⟩]) 2 24 underlying44 hi A3 A6 A1 rfl (by decide) _ _ _ rfl (I.alloc _) ⟨w3.heap.size,0,none⟩ 1 1 (cellsW [(n,s)]) rfl ?qc1 ?qc2 ?qc3 ?qc4 ?qc5 ?qc6 ?_)
 case qc1=>rfl
 case qc2=>
  intro j u F
  match j,F with
  |0,F=>simp[cellsW] at F;subst F;simp[Addr.add]
  |1,F=>simp[cellsW] at F;subst F;simp[Addr.add]
 case qc3=>exact zm4 _
 case qc4=>unfold maxLen;omega
 case qc5=>omega
 case qc6=>simp;omega
 intro v4 x D E S;have B:Below K.heap.size K x:=(Q.alloc p _).grown E (by simp;omega) (fun k hk=>(I.lt k hk).1);rw[←zn8] at D;obtain⟨L,c4,A0,X,l⟩:=SegW.of_owns D;have A7:Hid (SegW x L (d.wr++[(n,s)])):=X;have M:Hid (∀b off,L=some ⟨b,off,none⟩→K.heap.size≤b):=l;clear D E S I Q p X l;subst A0;have B7:=B.size;have A2:=zac B (by omega) x0;go_wp2_with fail;have Z:=zae m B;refine(zm5 a c d.safe _ (HS.o.below Z) (by rw[N.o];decide) (by rw[N.o];decide)).mono ?_;rintro e y ⟨v6,rfl,J,C⟩;obtain⟨R,r,B0,i,U⟩:=SegS.of_owns J;have A9:Hid (SegS y R d.safe):=i;have O:Hid (∀b off,R=some ⟨b,off,none⟩→x.heap.size≤b):=U;have A8:Hid (SegW y L (d.wr++[(n,s)])):=A7.o.below C;have z:Hid (Below w.heap.size w y):=zae Z C;have B2:=C.size;have A5:=zac C (by omega) (zac B (by omega) y0);have A4:=zac C (by omega) (zac B (by omega) y1);have B3:=za7 C (by omega) (za7 B (by omega) f0);have B5:=za7 C (by omega) (za7 B (by omega) f1);clear J i U x0 x1 A2 y0 y1 f0 f1;subst B0;go_wp2;refine bodyPost_ret (v:=.tuple #[.agg #[.slice R d.safe.length r,.slice L (d.wr.length+1) c4],.int .i64 0]) (by simp[results,results109,go_sem,A5,A4]) rfl ⟨_,rfl,⟨R,r,L,c4,by simp,?_,?_,?_,?_⟩,?_,⟨R,_,r,L,_,c4,rfl,fun b off e=>by have:=O.o b off e;omega,fun b off e=>by have:=M.o b off e;omega⟩⟩
 ·exact(A9.o.setCell O.o (by simp;omega) _).setCell O.o (by simp;omega) _
 ·exact(A8.o.setCell M.o (by simp;omega) _).setCell M.o (by simp;omega) _
 ·show d.safe.length≤maxLen;rw[N.o];decide
 ·show(d.wr++[(n,s)]).length≤maxLen;simp[maxLen];omega
 ·exact(z.o.setCell (by simp) _).setCell (by simp) _
theorem z1x (v:Value)(d:Dk)(n:Int)(s:ByteArray)(w:World)(h:IsDk w v d):
  Calls prog 109 #[v,.int .i64 n,.string s] w fun e w'=>∃v2,e=.returned (.tuple #[v2,.int .i64 (zh9 d n s)])∧IsDk w' v2 (zhh d n s)∧(zh9 d n s≠0→v2=v)∧Below w.heap.size w w'∧(v2=v∨DkFrom w.heap.size v2):=by
 have back:∀k:Int,zh9 d n s=k→k≠0→Calls prog 109 #[v,.int .i64 n,.string s] w (fun e w'=>e=.returned (.tuple #[v,.int .i64 k])∧Below w.heap.size w w')→
   Calls prog 109 #[v,.int .i64 n,.string s] w fun e w'=>∃v2,e=.returned (.tuple #[v2,.int .i64 (zh9 d n s)])∧IsDk w' v2 (zhh d n s)∧(zh9 d n s≠0→v2=v)∧Below w.heap.size w w'∧(v2=v∨DkFrom w.heap.size v2):=by
  intro k E J A;have B:zhh d n s=d:=by rw[zhh,if_neg (by rw[E];exact J)]
  rw[E,B];exact A.mono fun e w' he=>⟨v,he.1,h.below he.2,fun _=>rfl,he.2,.inl rfl⟩
 cases hgp:(za2 d&&zb0 n) with
 |false=>exact back 2 (by simp only[zh9,hgp];rfl) (by decide) (zx9 v d n s w h hgp)
 |true=>
  have D:za2 d=true:=by simp at hgp;exact hgp.1
  have C:zb0 n=true:=by simp at hgp;exact hgp.2
  cases hf:zbd s with
  |false=>exact back 1 (by simp only[zh9,hgp,hf];rfl) (by decide) (z1v v d n s w h D C hf)
  |true=>
   by_cases hl:d.wr.length=200
   ·exact back 11 (by simp only[zh9,hgp,hf,hl];rfl) (by decide) (z1w v d n s w h D C hf hl)
   ·have F:zh9 d n s=0:=by simp[zh9,hgp,hf,hl]
    have B:zhh d n s=⟨d.safe,d.wr++[(n,s)]⟩:=by rw[zhh,if_pos F]
    rw[F,B]
    exact(z43 v d n s w h D C hf hl).mono fun e w' he=>by
     obtain⟨v2,K,I,L,M⟩:=he;exact⟨v2,K,I,fun h=>absurd rfl h,L,.inr M⟩
end Go.Proofs.YtjnpndfpajjihacGreat


namespace Go.Proofs.YtjnpndfpajjihacGreat
open Go.RowKit
def zcm (n:Int):List (Int×ByteArray)→List ByteArray
 |[]=>[]
 |x::r=>if x.1=n then x.2::zcm n r else zcm n r
def zc9 (d:Dk)(n k:Nat):List ByteArray:=d.safe.getD n ByteArray.empty::zcm n (d.wr.take k)
def ways (d:Dk)(n:Nat):List ByteArray:=d.safe.getD n ByteArray.empty::zcm n d.wr
theorem zgu (n:Int)(l:List (Int×ByteArray))(x:Int×ByteArray):zcm n (l++[x])=if x.1=n then zcm n l++[x.2] else zcm n l:=by
 induction l with
 |nil=>simp[zcm]
 |cons y r ih=>by_cases h:y.1=n<;>by_cases h':x.1=n<;>simp[zcm,h,h']<;>simpa[h'] using ih
theorem zmr (n:Int)(l:List (Int×ByteArray)):(zcm n l).length≤l.length:=by
 induction l with
 |nil=>simp[zcm]
 |cons y r ih=>by_cases h:y.1=n<;>simp[zcm,h]<;>omega
theorem zv2 (d:Dk)(n k:Nat)(x:Int×ByteArray)(h:d.wr[k]?=some x)(hx:x.1=n):zc9 d n (k+1)=zc9 d n k++[x.2]:=by
 rw[zc9,List.take_add_one,h];simp only[Option.toList_some];rw[zgu,if_pos hx];rfl
theorem zsm (d:Dk)(n k:Nat)(x:Int×ByteArray)(h:d.wr[k]?=some x)(hx:¬x.1=n):zc9 d n (k+1)=zc9 d n k:=by
 rw[zc9,List.take_add_one,h];simp only[Option.toList_some];rw[zgu,if_neg hx];rfl
theorem ziy (d:Dk)(n k:Nat)(h:d.wr.length≤200):1≤(zc9 d n k).length∧(zc9 d n k).length≤201:=by
 have:=zmr n (d.wr.take k);have h2:(d.wr.take k).length≤d.wr.length:=by rw[List.length_take];omega
 simp only[zc9,List.length_cons];omega
end Go.Proofs.YtjnpndfpajjihacGreat

