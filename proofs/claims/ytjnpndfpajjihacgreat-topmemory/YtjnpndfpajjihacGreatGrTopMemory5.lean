/-
  
-/
import Derived.Test.YtjnpndfpajjihacGreatGrTopMemory0
import Derived.Lib.SliceRun
set_option maxRecDepth 100000
set_option maxHeartbeats 40000000
namespace Go.Proofs.YtjnpndfpajjihacGreat
open Go.RowKit
def cellsS (ss:List ByteArray):List Value:=ss.map Value.string
def cellsW:List (Int×ByteArray)→List Value
 |[]=>[]
 |x::r=>.int .i64 x.1:: .string x.2::cellsW r
theorem zif (ss:List ByteArray):(cellsS ss).length=ss.length*1:=by simp[cellsS]
theorem zfp (ws:List (Int×ByteArray)):(cellsW ws).length=ws.length*2:=by
 induction ws with
 |nil=>rfl
 |cons x r ih=>simp[cellsW,ih];omega
theorem znx (l r:List (Int×ByteArray)):cellsW (l++r)=cellsW l++cellsW r:=by
 induction l with
 |nil=>rfl
 |cons x t ih=>simp[cellsW,ih]
theorem zig (l r:List ByteArray):cellsS (l++r)=cellsS l++cellsS r:=by simp[cellsS]
theorem zmr {ss:List ByteArray}:∀u∈cellsS ss,u.oneCell'=true:=by
 intro u hu;obtain⟨s,_,rfl⟩:=List.mem_map.1 hu;rfl
theorem zms (ws:List (Int×ByteArray)):∀u∈cellsW ws,u.oneCell'=true:=by
 induction ws with
 |nil=>intro u hu;cases hu
 |cons x r ih=>
  intro u hu;simp only[cellsW,List.mem_cons] at hu;rcases hu with rfl|rfl|hu
  ·rfl
  ·rfl
  ·exact ih u hu
theorem zk5 (ss:List ByteArray)(i:Nat)(h:i<ss.length):(cellsS ss)[i]?=some (.string (ss.getD i ByteArray.empty)):=by
 rw[cellsS,List.getElem?_map,zeg ss i ByteArray.empty h];rfl
theorem zk6 (ws:List (Int×ByteArray))(i:Nat)(h:i<ws.length):
  (cellsW ws)[i*2]?=some (.int .i64 (ws.getD i (0,ByteArray.empty)).1)∧(cellsW ws)[i*2+1]?=some (.string (ws.getD i (0,ByteArray.empty)).2):=by
 induction ws generalizing i with
 |nil=>simp at h
 |cons x r ih=>
  cases i with
  |zero=>simp[cellsW]
  |succ k=>
   have:=ih k (by simpa using h);rw[show(k+1)*2=k*2+1+1 from by omega]
   simpa[cellsW] using this
theorem SegS.news {w:World}{b off:Nat}{ss:List ByteArray}(h:∀i,i<ss.length→w.cell? ⟨b,off+i,none⟩=some (.string (ss.getD i ByteArray.empty))):
  ∀j u,(cellsS ss)[j]?=some u→w.cell? ⟨b,off+j,none⟩=some u:=by
 intro j u hj;have hlt:j<ss.length:=by have:=(List.getElem?_eq_some_iff.1 hj).1;simpa[cellsS] using this
 rw[h j hlt,←zk5 ss j hlt,hj]
theorem SegW.news {w:World}{b off:Nat}{ws:List (Int×ByteArray)}(h:∀i,i<ws.length→
  w.cell? ⟨b,off+i*2,none⟩=some (.int .i64 (ws.getD i (0,ByteArray.empty)).1)∧w.cell? ⟨b,off+i*2+1,none⟩=some (.string (ws.getD i (0,ByteArray.empty)).2)):
  ∀j u,(cellsW ws)[j]?=some u→w.cell? ⟨b,off+j,none⟩=some u:=by
 intro j u hj;have hlt:j<ws.length*2:=by have:=(List.getElem?_eq_some_iff.1 hj).1;rwa [zfp] at this
 have hk:j/2<ws.length:=by omega
 have e:=zk6 ws (j/2) hk;have g:=h (j/2) hk;rcases Nat.mod_two_eq_zero_or_one j with h0|h0
 ·have ej:j=j/2*2:=by omega
  rw[ej] at hj⊢;rw[g.1,←e.1,hj]
 ·have ej:j=j/2*2+1:=by omega
  rw[ej] at hj⊢;rw[show off+(j/2*2+1)=off+j/2*2+1 from by omega,g.2,←e.2,hj]
theorem SegS.of_owns {w:World}{base n:Nat}{v:Value}{ss:List ByteArray}(h:w.ownsRow base 9 1 v n (cellsS ss)):∃a c,v=.slice a ss.length c∧SegS w a ss∧∀b off,a=some ⟨b,off,none⟩→base≤b:=by
 have hn:ss.length=n:=by have:=h.1;rw[zif] at this;omega
 subst hn;rcases h.2 with⟨rfl,h0⟩|⟨g,cap,cur,rfl,hb,hg,rest⟩
 ·exact⟨none,0,by rw[h0],.inl (List.eq_nil_of_length_eq_zero h0),fun _ _ h=>by cases h⟩
 ·refine⟨_,cap,rfl,.inr ⟨g,0,rfl,(Array.getElem?_eq_some_iff.1 hg).1,fun i hi=>?_⟩,fun _ _ h=>by cases h;exact hb⟩
  rw[Nat.zero_add,h.cellAt i (by omega),zk5 ss i hi]
theorem SegW.of_owns {w:World}{base n:Nat}{v:Value}{ws:List (Int×ByteArray)}(h:w.ownsRow base 82 2 v n (cellsW ws)):∃a c,v=.slice a ws.length c∧SegW w a ws∧∀b off,a=some ⟨b,off,none⟩→base≤b:=by
 have hn:ws.length=n:=by have:=h.1;rw[zfp] at this;omega
 subst hn;rcases h.2 with⟨rfl,h0⟩|⟨g,cap,cur,rfl,hb,hg,rest⟩
 ·exact⟨none,0,by rw[h0],.inl (List.eq_nil_of_length_eq_zero h0),fun _ _ h=>by cases h⟩
 ·refine⟨_,cap,rfl,.inr ⟨g,0,rfl,(Array.getElem?_eq_some_iff.1 hg).1,fun i hi=>?_⟩,fun _ _ h=>by cases h;exact hb⟩
  have e:=zk6 ws i hi;rw[Nat.zero_add,h.cellAt (i*2) (by omega),h.cellAt (i*2+1) (by omega)];exact e
theorem z3t:(Tryz.prog.info? 9).map (fun i=>(i.zero,i.size,i.bytes))=some (some (.string ⟨#[]⟩),1,16):=by kernel_rfl
theorem z3u:(Tryz.prog.info? 82).map (fun i=>(i.zero,i.size,i.bytes))=some (some (.agg #[.int .i64 0,.string ⟨#[]⟩]),2,24):=by kernel_rfl
theorem zmt (a:Option Addr)(c:Nat)(ss:List ByteArray)(w:World)(h:SegS w a ss)(hn:ss.length≤maxLen)(hbig:ss.length*16≤140737488355328):
  Calls Tryz.prog 51 #[.slice a ss.length c] w fun e w'=>∃v',e=.returned v'∧w'.ownsRow w.heap.size 9 1 v' ss.length (cellsS ss)∧Below w.heap.size w w':=by
 have q22:∀(w:World) (a:Option Addr) (n c n' c':Nat),(binOp .eql 43 (.slice a n c) (.slice none n' c')).run Tryz.prog w=.ok (.bool a.isNone) w:=fun w a n c n' c'=>Lib.run_eql_slice_nil w _ _ a n c n' c' Tryz.underlying43;obtain⟨i0,hi,hz0,hz1,hz2⟩:=info_parts z3t;rcases a with _|ad
 ·have h0:ss=[]:=by rcases h with h|⟨b,off,he,_⟩;exact h;cases he
  subst h0;go_enter Tryz.func51,Tryz.ntmps51;go_wp2;go_ret;exact⟨_,rfl,World.ownsRow_nil _ _ _ _,Below.refl _ _⟩
 ·have A:Hid (∀j u,(cellsS ss)[j]?=some u→w.cell? (ad.add j)=some u):=by
   rcases h with h|⟨b,off,he,hlt,hc⟩
   ·rw[h];intro j u hj;simp[cellsS] at hj
   ·intro j u hj
    cases he;rw[Addr.add_lit];exact SegS.news hc j u hj
  clear h;go_enter Tryz.func51,Tryz.ntmps51;go_wp2_with (at_builtin;refine wpList_append_own _ rfl _ _ 43 rfl w.heap.size 9 i0 (.string ⟨#[]⟩) 1 16 Tryz.underlying43 hi hz0 hz1 hz2 rfl (by decide) _ _ _ rfl (World.ownsRow_made w #[] 0 (Nat.le_refl _) (Nat.zero_le _) (by simp)) ad ss.length c (cellsS ss) rfl ?qc1 ?qc2 ?qc3 ?qc4 ?qc5 ?qc6 ?_)
  case qc1=>exact zif ss
  case qc2=>intro j u hj;exact Lib.cell?_alloc_some _ (A.o j u hj)
  case qc3=>exact zmr
  case qc4=>rw[Nat.zero_add];exact hn
  case qc5=>rw[Nat.zero_add];exact hbig
  case qc6=>simp
  intro v' w1 hown hgrow hnil;have HO:Hid (w1.ownsRow w.heap.size 9 1 v' ss.length (cellsS ss)):=by unfold Hid;simpa using hown
  have HB:Hid (Below w.heap.size w w1):=(zab w _).grown hgrow (by simp) (by intro k hk;simp[Value.ownBlock] at hk;omega);clear hown hgrow hnil;go_wp2;go_ret;exact⟨v',rfl,HO.o,HB.o⟩
theorem zmu (a:Option Addr)(c:Nat)(ss:List (Int×ByteArray))(w:World)(h:SegW w a ss)(hn:ss.length≤maxLen)(hbig:ss.length*24≤140737488355328):
  Calls Tryz.prog 52 #[.slice a ss.length c] w fun e w'=>∃v',e=.returned v'∧w'.ownsRow w.heap.size 82 2 v' ss.length (cellsW ss)∧Below w.heap.size w w':=by
 have q22:∀(w:World) (a:Option Addr) (n c n' c':Nat),(binOp .eql 44 (.slice a n c) (.slice none n' c')).run Tryz.prog w=.ok (.bool a.isNone) w:=fun w a n c n' c'=>Lib.run_eql_slice_nil w _ _ a n c n' c' Tryz.underlying44;obtain⟨i0,hi,hz0,hz1,hz2⟩:=info_parts z3u;rcases a with _|ad
 ·have h0:ss=[]:=by rcases h with h|⟨b,off,he,_⟩;exact h;cases he
  subst h0;go_enter Tryz.func52,Tryz.ntmps52;go_wp2;go_ret;exact⟨_,rfl,World.ownsRow_nil _ _ _ _,Below.refl _ _⟩
 ·have A:Hid (∀j u,(cellsW ss)[j]?=some u→w.cell? (ad.add j)=some u):=by
   rcases h with h|⟨b,off,he,hlt,hc⟩
   ·rw[h];intro j u hj;simp[cellsW] at hj
   ·intro j u hj
    cases he;rw[Addr.add_lit];exact SegW.news hc j u hj
  clear h;go_enter Tryz.func52,Tryz.ntmps52;go_wp2_with (at_builtin;refine wpList_append_own _ rfl _ _ 44 rfl w.heap.size 82 i0 (.agg #[.int .i64 0,.string ⟨#[]⟩]) 2 24 Tryz.underlying44 hi hz0 hz1 hz2 rfl (by decide) _ _ _ rfl (World.ownsRow_made w #[] 0 (Nat.le_refl _) (Nat.zero_le _) (by simp)) ad ss.length c (cellsW ss) rfl ?qc1 ?qc2 ?qc3 ?qc4 ?qc5 ?qc6 ?_)
  case qc1=>exact zfp ss
  case qc2=>intro j u hj;exact Lib.cell?_alloc_some _ (A.o j u hj)
  case qc3=>exact zms ss
  case qc4=>rw[Nat.zero_add];exact hn
  case qc5=>rw[Nat.zero_add];exact hbig
  case qc6=>simp
  intro v' w1 hown hgrow hnil;have HO:Hid (w1.ownsRow w.heap.size 82 2 v' ss.length (cellsW ss)):=by unfold Hid;simpa using hown
  have HB:Hid (Below w.heap.size w w1):=(zab w _).grown hgrow (by simp) (by intro k hk;simp[Value.ownBlock] at hk;omega);clear hown hgrow hnil;go_wp2;go_ret;exact⟨v',rfl,HO.o,HB.o⟩
def zh0 (d:Dk)(n:Int)(s:ByteArray):Int:=
 if(za1 d&&zbx n)=true then(if za9 s=true then(if d.wr.length=200 then 11 else 0) else 1) else 2
def zg6 (d:Dk)(n:Int)(s:ByteArray):Dk:=if zh0 d n s=0 then⟨d.safe,d.wr++[(n,s)]⟩ else d
theorem zxi (v:Value)(d:Dk)(n:Int)(s:ByteArray)(w:World)(h:IsDk w v d)(hno:(za1 d&&zbx n)=false):
  Calls Tryz.prog 109 #[v,.int .i64 n,.string s] w fun e w'=>e=.returned (.tuple #[v,.int .i64 2])∧Below w.heap.size w w':=by
 have HI:Hid (IsDk w v d):=h;obtain⟨a,c,a',c',rfl,_,_,_,_⟩:=h;by_cases hg:za1 d=true
 ·have hp:zbx n=false:=by simpa[hg] using hno
  clear hno;go_enter Tryz.func109,Tryz.ntmps109;go_wp2_with fail;refine(zcw _ d _ (HI.o.below (zae (zab _ _) (zab _ _)))).mono ?_;rintro e w1 ⟨rfl,hb1⟩;obtain⟨hc1,hf1⟩:=zo9 hb1;have hs1:w.heap.size+1<w1.heap.size:=by have:=hb1.size;simp at this;omega
  go_wp2_with fail;refine(zcp _ _).mono ?_;rintro e w2 ⟨rfl,rfl⟩;go_wp2;refine bodyPost_ret (v:=.tuple #[.agg #[.slice a d.safe.length c,.slice a' d.wr.length c'],.int .i64 2]) (by simp[results,Tryz.results109,go_sem,hc1]) rfl ⟨rfl,?_⟩;have hb2:Below w.heap.size w w1:=zae (zae (zab _ _) (zab _ _)) hb1;exact(hb2.setCell (by simp) _).setCell (by simp) _
 ·have hg':za1 d=false:=by simpa using hg
  clear hno hg;go_enter Tryz.func109,Tryz.ntmps109;go_wp2_with fail;refine(zcw _ d _ (HI.o.below (zae (zab _ _) (zab _ _)))).mono ?_;rintro e w1 ⟨rfl,hb1⟩;obtain⟨hc1,hf1⟩:=zo9 hb1;have hs1:w.heap.size+1<w1.heap.size:=by have:=hb1.size;simp at this;omega
  go_wp2;refine bodyPost_ret (v:=.tuple #[.agg #[.slice a d.safe.length c,.slice a' d.wr.length c'],.int .i64 2]) (by simp[results,Tryz.results109,go_sem,hc1]) rfl ⟨rfl,?_⟩;have hb2:Below w.heap.size w w1:=zae (zae (zab _ _) (zab _ _)) hb1;exact(hb2.setCell (by simp) _).setCell (by simp) _
theorem z0u (v:Value)(d:Dk)(n:Int)(s:ByteArray)(w:World)(h:IsDk w v d)(hg:za1 d=true)(hp:zbx n=true)(hf:za9 s=false):
  Calls Tryz.prog 109 #[v,.int .i64 n,.string s] w fun e w'=>e=.returned (.tuple #[v,.int .i64 1])∧Below w.heap.size w w':=by
 have HI:Hid (IsDk w v d):=h;obtain⟨a,c,a',c',rfl,_,_,_,_⟩:=h;go_enter Tryz.func109,Tryz.ntmps109;go_wp2_with fail;refine(zcw _ d _ (HI.o.below (zae (zab _ _) (zab _ _)))).mono ?_;rintro e w1 ⟨rfl,hb1⟩;obtain⟨hc1,hf1⟩:=zo9 hb1;have hs1:w.heap.size+1<w1.heap.size:=by have:=hb1.size;simp at this;omega
 go_wp2_with fail;refine(zcp _ _).mono ?_;rintro e w2 ⟨rfl,rfl⟩;go_wp2_with fail;refine(zfo _ _).mono ?_;rintro e w2 ⟨rfl,rfl⟩;go_wp2;refine bodyPost_ret (v:=.tuple #[.agg #[.slice a d.safe.length c,.slice a' d.wr.length c'],.int .i64 1]) (by simp[results,Tryz.results109,go_sem,hc1]) rfl ⟨rfl,?_⟩;have hb2:Below w.heap.size w w1:=zae (zae (zab _ _) (zab _ _)) hb1;exact(hb2.setCell (by simp) _).setCell (by simp) _
theorem z0v (v:Value)(d:Dk)(n:Int)(s:ByteArray)(w:World)(h:IsDk w v d)(hg:za1 d=true)(hp:zbx n=true)(hf:za9 s=true)(hl:d.wr.length=200):
  Calls Tryz.prog 109 #[v,.int .i64 n,.string s] w fun e w'=>e=.returned (.tuple #[v,.int .i64 11])∧Below w.heap.size w w':=by
 have HI:Hid (IsDk w v d):=h;obtain⟨a,c,a',c',rfl,_,_,_,_⟩:=h;have hl':((d.wr.length:Int)==200)=true:=by rw[hl];rfl
 clear hl;go_enter Tryz.func109,Tryz.ntmps109;go_wp2_with fail;refine(zcw _ d _ (HI.o.below (zae (zab _ _) (zab _ _)))).mono ?_;rintro e w1 ⟨rfl,hb1⟩;obtain⟨hc1,hf1⟩:=zo9 hb1;have hs1:w.heap.size+1<w1.heap.size:=by have:=hb1.size;simp at this;omega
 go_wp2_with fail;refine(zcp _ _).mono ?_;rintro e w2 ⟨rfl,rfl⟩;go_wp2_with fail;refine(zfo _ _).mono ?_;rintro e w2 ⟨rfl,rfl⟩;go_wp2;refine bodyPost_ret (v:=.tuple #[.agg #[.slice a d.safe.length c,.slice a' d.wr.length c'],.int .i64 11]) (by simp[results,Tryz.results109,go_sem,hc1]) rfl ⟨rfl,?_⟩;have hb2:Below w.heap.size w w1:=zae (zae (zab _ _) (zab _ _)) hb1;exact(hb2.setCell (by simp) _).setCell (by simp) _
theorem z3v (v:Value)(d:Dk)(n:Int)(s:ByteArray)(w:World)(h:IsDk w v d)(hg:za1 d=true)(hp:zbx n=true)(hf:za9 s=true)(hl:¬d.wr.length=200):
  Calls Tryz.prog 109 #[v,.int .i64 n,.string s] w fun e w'=>∃v2,e=.returned (.tuple #[v2,.int .i64 0])∧IsDk w' v2 ⟨d.safe,d.wr++[(n,s)]⟩∧Below w.heap.size w w'∧DkFrom w.heap.size v2:=by
 have HI:Hid (IsDk w v d):=h;obtain⟨a,c,a',c',rfl,hS,hW,_,_⟩:=h;have HS:Hid (SegS w a d.safe):=hS;have HW:Hid (SegW w a' d.wr):=hW;clear hS hW;have hl':((d.wr.length:Int)==200)=false:=by simp;omega
 have h37:=(zea hg).1;have H37:Hid (d.safe.length=37):=h37;have h200:=(zea hg).2;clear hl h37;obtain⟨i0,hi,hz0,hz1,hz2⟩:=info_parts z3u;go_enter Tryz.func109,Tryz.ntmps109;go_wp2_with fail;refine(zcw _ d _ (HI.o.below (zae (zab _ _) (zab _ _)))).mono ?_;rintro e w1 ⟨rfl,hb1⟩;have hs1:w.heap.size+1<w1.heap.size:=by have:=hb1.size;simp at this;omega
 have x0:=zac hb1 (b:=w.heap.size) (o:=0) (v:=.slice a d.safe.length c) (by simp;omega) (by simp[go_sem]);have x1:=zac hb1 (b:=w.heap.size) (o:=1) (v:=.slice a' d.wr.length c') (by simp;omega) (by simp[go_sem]);have y0:=zac hb1 (b:=w.heap.size+1) (o:=0) (v:=.slice none 0 0) (by simp) (by simp[go_sem]);have y1:=zac hb1 (b:=w.heap.size+1) (o:=1) (v:=.slice none 0 0) (by simp) (by simp[go_sem]);have f0:=za3 hb1 (b:=w.heap.size+1) (o:=0) (v:=false) (by simp) (by simp[go_sem]);have f1:=za3 hb1 (b:=w.heap.size+1) (o:=1) (v:=false) (by simp) (by simp[go_sem]);go_wp2_with fail;refine(zcp _ _).mono ?_;rintro e w2 ⟨rfl,rfl⟩;go_wp2_with fail;refine(zfo _ _).mono ?_;rintro e w2 ⟨rfl,rfl⟩;go_wp2_with fail;have hb2:Below w.heap.size w w1:=zae (zae (zab _ _) (zab _ _)) hb1;refine(zmu a' c' d.wr _ (HW.o.below hb2) (by unfold maxLen;omega) (by omega)).mono ?_;rintro e w3 ⟨v3,rfl,hown,hb3⟩;have hs3:=hb3.size;go_wp2_with (at_builtin;refine wpList_append_own _ rfl _ _ 44 rfl w1.heap.size 82 i0 (.agg #[.int .i64 0,.string ⟨#[]⟩]) 2 24 Tryz.underlying44 hi hz0 hz1 hz2 rfl (by decide) _ _ _ rfl (hown.alloc _) ⟨w3.heap.size,0,none⟩ 1 1 (cellsW [(n,s)]) rfl ?qc1 ?qc2 ?qc3 ?qc4 ?qc5 ?qc6 ?_)
 case qc1=>rfl
 case qc2=>
  intro j u hj
  match j,hj with
  |0,hj=>simp[cellsW] at hj;subst hj;simp[Addr.add]
  |1,hj=>simp[cellsW] at hj;subst hj;simp[Addr.add]
 case qc3=>exact zms _
 case qc4=>unfold maxLen;omega
 case qc5=>omega
 case qc6=>simp;omega
 intro v4 w4 hown4 hgrow4 hnil4;have hb4:Below w1.heap.size w1 w4:=(hb3.alloc hs3 _).grown hgrow4 (by simp;omega) (fun k hk=>(hown.lt k hk).1);rw[←znx] at hown4;obtain⟨a4,c4,hv4,hW4,hB4⟩:=SegW.of_owns hown4;have HW4:Hid (SegW w4 a4 (d.wr++[(n,s)])):=hW4;have HA4:Hid (∀b off,a4=some ⟨b,off,none⟩→w1.heap.size≤b):=hB4;clear hown4 hgrow4 hnil4 hown hb3 hs3 hW4 hB4;subst hv4;have hs4:=hb4.size;have x0':=zac hb4 (by omega) x0;go_wp2_with fail;have hb5:=zae hb2 hb4;refine(zmt a c d.safe _ (HS.o.below hb5) (by rw[H37.o];decide) (by rw[H37.o];decide)).mono ?_;rintro e w6 ⟨v6,rfl,hown6,hb6⟩;obtain⟨a6,c6,hv6,hS6,hB6⟩:=SegS.of_owns hown6;have HS6:Hid (SegS w6 a6 d.safe):=hS6;have HA6:Hid (∀b off,a6=some ⟨b,off,none⟩→w4.heap.size≤b):=hB6;have HW6:Hid (SegW w6 a4 (d.wr++[(n,s)])):=HW4.o.below hb6;have HB6:Hid (Below w.heap.size w w6):=zae hb5 hb6;have hs6:=hb6.size;have y0':=zac hb6 (by omega) (zac hb4 (by omega) y0);have y1':=zac hb6 (by omega) (zac hb4 (by omega) y1);have f0':=za3 hb6 (by omega) (za3 hb4 (by omega) f0);have f1':=za3 hb6 (by omega) (za3 hb4 (by omega) f1);clear hown6 hS6 hB6 x0 x1 x0' y0 y1 f0 f1;subst hv6;go_wp2;refine bodyPost_ret (v:=.tuple #[.agg #[.slice a6 d.safe.length c6,.slice a4 (d.wr.length+1) c4],.int .i64 0]) (by simp[results,Tryz.results109,go_sem,y0',y1']) rfl ⟨_,rfl,⟨a6,c6,a4,c4,by simp,?_,?_,?_,?_⟩,?_,⟨a6,_,c6,a4,_,c4,rfl,fun b off e=>by have:=HA6.o b off e;omega,fun b off e=>by have:=HA4.o b off e;omega⟩⟩
 ·exact(HS6.o.setCell HA6.o (by simp;omega) _).setCell HA6.o (by simp;omega) _
 ·exact(HW6.o.setCell HA4.o (by simp;omega) _).setCell HA4.o (by simp;omega) _
 ·show d.safe.length≤maxLen;rw[H37.o];decide
 ·show(d.wr++[(n,s)]).length≤maxLen;simp[maxLen];omega
 ·exact(HB6.o.setCell (by simp) _).setCell (by simp) _
theorem z0w (v:Value)(d:Dk)(n:Int)(s:ByteArray)(w:World)(h:IsDk w v d):
  Calls Tryz.prog 109 #[v,.int .i64 n,.string s] w fun e w'=>∃v2,e=.returned (.tuple #[v2,.int .i64 (zh0 d n s)])∧IsDk w' v2 (zg6 d n s)∧(zh0 d n s≠0→v2=v)∧Below w.heap.size w w'∧(v2=v∨DkFrom w.heap.size v2):=by
 have back:∀k:Int,zh0 d n s=k→k≠0→Calls Tryz.prog 109 #[v,.int .i64 n,.string s] w (fun e w'=>e=.returned (.tuple #[v,.int .i64 k])∧Below w.heap.size w w')→
   Calls Tryz.prog 109 #[v,.int .i64 n,.string s] w fun e w'=>∃v2,e=.returned (.tuple #[v2,.int .i64 (zh0 d n s)])∧IsDk w' v2 (zg6 d n s)∧(zh0 d n s≠0→v2=v)∧Below w.heap.size w w'∧(v2=v∨DkFrom w.heap.size v2):=by
  intro k hk h0 hcall;have hK:zg6 d n s=d:=by rw[zg6,if_neg (by rw[hk];exact h0)]
  rw[hk,hK];exact hcall.mono fun e w' he=>⟨v,he.1,h.below he.2,fun _=>rfl,he.2,.inl rfl⟩
 cases hgp:(za1 d&&zbx n) with
 |false=>exact back 2 (by simp only[zh0,hgp];rfl) (by decide) (zxi v d n s w h hgp)
 |true=>
  have hg:za1 d=true:=by simp at hgp;exact hgp.1
  have hp:zbx n=true:=by simp at hgp;exact hgp.2
  cases hf:za9 s with
  |false=>exact back 1 (by simp only[zh0,hgp,hf];rfl) (by decide) (z0u v d n s w h hg hp hf)
  |true=>
   by_cases hl:d.wr.length=200
   ·exact back 11 (by simp only[zh0,hgp,hf,hl];rfl) (by decide) (z0v v d n s w h hg hp hf hl)
   ·have hE:zh0 d n s=0:=by simp[zh0,hgp,hf,hl]
    have hK:zg6 d n s=⟨d.safe,d.wr++[(n,s)]⟩:=by rw[zg6,if_pos hE]
    rw[hE,hK]
    exact(z3v v d n s w h hg hp hf hl).mono fun e w' he=>by
     obtain⟨v2,h1,h2,h3,h4⟩:=he;exact⟨v2,h1,h2,fun h=>absurd rfl h,h3,.inr h4⟩
def zcg (n:Int):List (Int×ByteArray)→List ByteArray
 |[]=>[]
 |x::r=>if x.1=n then x.2::zcg n r else zcg n r
def zc6 (d:Dk)(n k:Nat):List ByteArray:=d.safe.getD n ByteArray.empty::zcg n (d.wr.take k)
def ways (d:Dk)(n:Nat):List ByteArray:=d.safe.getD n ByteArray.empty::zcg n d.wr
theorem zgl (n:Int)(l:List (Int×ByteArray))(x:Int×ByteArray):zcg n (l++[x])=if x.1=n then zcg n l++[x.2] else zcg n l:=by
 induction l with
 |nil=>simp[zcg]
 |cons y r ih=>by_cases h:y.1=n<;>by_cases h':x.1=n<;>simp[zcg,h,h']<;>simpa[h'] using ih
theorem zmf (n:Int)(l:List (Int×ByteArray)):(zcg n l).length≤l.length:=by
 induction l with
 |nil=>simp[zcg]
 |cons y r ih=>by_cases h:y.1=n<;>simp[zcg,h]<;>omega
theorem zvf (d:Dk)(n k:Nat)(x:Int×ByteArray)(h:d.wr[k]?=some x)(hx:x.1=n):zc6 d n (k+1)=zc6 d n k++[x.2]:=by
 rw[zc6,List.take_add_one,h];simp only[Option.toList_some];rw[zgl,if_pos hx];rfl
theorem zr9 (d:Dk)(n k:Nat)(x:Int×ByteArray)(h:d.wr[k]?=some x)(hx:¬x.1=n):zc6 d n (k+1)=zc6 d n k:=by
 rw[zc6,List.take_add_one,h];simp only[Option.toList_some];rw[zgl,if_neg hx];rfl
theorem zis (d:Dk)(n k:Nat)(h:d.wr.length≤200):1≤(zc6 d n k).length∧(zc6 d n k).length≤201:=by
 have:=zmf n (d.wr.take k);have h2:(d.wr.take k).length≤d.wr.length:=by rw[List.length_take];omega
 simp only[zc6,List.length_cons];omega
end Go.Proofs.YtjnpndfpajjihacGreat

