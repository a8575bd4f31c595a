/-
  
-/
import Derived.Test.YtjnpndfpajjihacGreatGrTopOrdered1
import Derived.Test.YtjnpndfpajjihacGreatGrTopOrdered2
namespace Go.Proofs.YtjnpndfpajjihacGreat
open Go.RowKit
def cellsC:List (Int×ByteArray)→List Value
 |[]=>[]
 |x::r=>.int .i64 x.1:: .string x.2::cellsC r
theorem zc2(l:List (Int×ByteArray)):(cellsC l).length=l.length*2:=by
 induction l with
 |nil=>rfl
 |cons x r ih=>simp[cellsC,ih];omega
theorem zc3(l r:List (Int×ByteArray)):cellsC (l++r)=cellsC l++cellsC r:=by
 induction l with
 |nil=>rfl
 |cons x r ih=>simp[cellsC,ih]
theorem zfm(l:List (Int×ByteArray)):∀u∈cellsC l,u.oneCell'=true:=by
 induction l with
 |nil=>intro u A;simp[cellsC]at A
 |cons x r ih=>
  intro u A;simp only[cellsC,List.mem_cons]at A;rcases A with rfl|rfl|A
  ·rfl
  ·rfl
  ·exact ih u A
theorem zln(l:List (Int×ByteArray))(i:Nat)(h:i<l.length):(cellsC l)[i*2]?=some (.int .i64 (l.getD i (0,ByteArray.empty)).1)∧(cellsC l)[i*2+1]?=some (.string (l.getD i (0,ByteArray.empty)).2):=by
 induction l generalizing i with
 |nil=>simp at h
 |cons x r ih=>
  cases i with
  |zero=>exact⟨rfl,rfl⟩
  |succ i=>
   have A:(i+1)*2=i*2+1+1:=by omega
   have e2:(i+1)*2+1=i*2+1+1+1:=by omega
   rw[cellsC,A,List.getElem?_cons_succ,List.getElem?_cons_succ,List.getElem?_cons_succ,List.getElem?_cons_succ]
   simpa using ih i (by simpa using h)
theorem SegC.of_owns{w:World}{base n:Nat}{v:Value}{l:List (Int×ByteArray)}(h:w.ownsRow base 84 2 v n (cellsC l)):∃a c,v=.slice a l.length c∧SegW w a l∧∀b off,a=some ⟨b,off,none⟩→base≤b:=by
 have A:l.length=n:=by have:=h.1;rw[zc2]at this;omega
 subst A;rcases h.2 with⟨rfl,h0⟩|⟨g,cap,cur,rfl,hb,hg,rest⟩
 ·exact⟨none,0,by rw[h0],.inl (List.eq_nil_of_length_eq_zero h0),fun _ _ h=>by cases h⟩
 ·refine⟨_,cap,rfl,.inr ⟨g,0,rfl,(Array.getElem?_eq_some_iff.1 hg).1,fun i hi=>?_⟩,fun _ _ h=>by cases h;exact hb⟩;have e:=zln l i hi;rw[Nat.zero_add,h.cellAt (i*2) (by omega),h.cellAt (i*2+1) (by omega)];exact e
theorem zvo:(Tryz.prog.info? 84).map (fun i=>(i.zero,i.size,i.bytes))=some (some (.agg #[.int .i64 0,.string ⟨#[]⟩]),2,24):=by kernel_rfl
theorem SegC.news{w:World}{b off:Nat}{l:List (Int×ByteArray)}(hc:∀i,i<l.length→w.cell? ⟨b,off+i*2,none⟩=some (.int .i64 (l.getD i (0,ByteArray.empty)).1)∧w.cell? ⟨b,off+i*2+1,none⟩=some (.string (l.getD i (0,ByteArray.empty)).2))(j:Nat)(u:Value)(hj:(cellsC l)[j]?=some u):w.cell? ⟨b,off+j,none⟩=some u:=by
 have A0:j<l.length*2:=by
  have:=(List.getElem?_eq_some_iff.1 hj).1;rw[zc2]at this;omega
 obtain⟨i,hi⟩:∃i,i=j/2:=⟨_,rfl⟩;have B:i<l.length:=by omega
 have e:=zln l i B;have g:=hc i B;by_cases h0:j%2=0
 ·have A:j=i*2:=by omega
  rw[A]at hj⊢;rw[e.1]at hj;cases hj;exact g.1
 ·have A:j=i*2+1:=by omega
  rw[A]at hj⊢;rw[e.2]at hj;cases hj;have:off+(i*2+1)=off+i*2+1:=by omega
  rw[this];exact g.2
def txz:Tx:=⟨0,[],[],[],⟨false,0⟩,⟨false,0⟩,⟨false,0⟩⟩
def Ten (w:World)(b o:Nat)(t:Tx)(a:Option Addr)(c:Nat)(a':Option Addr)(c':Nat)(r:Option Addr)(d:Nat):Prop:=
 w.cell? ⟨b,o,none⟩=some (.int .i64 t.seq)∧w.cell? ⟨b,o+1,none⟩=some (.slice a t.info.length c)∧w.cell? ⟨b,o+2,none⟩=some (.slice a' t.data.length c')∧w.cell? ⟨b,o+3,none⟩=some (.slice r t.rev.length d)∧w.cell? ⟨b,o+4,none⟩=some (.bool t.h0.on)∧
  w.cell? ⟨b,o+5,none⟩=some (.int .i64 t.h0.left)∧w.cell? ⟨b,o+6,none⟩=some (.bool t.h1.on)∧w.cell? ⟨b,o+7,none⟩=some (.int .i64 t.h1.left)∧w.cell? ⟨b,o+8,none⟩=some (.bool t.h2.on)∧w.cell? ⟨b,o+9,none⟩=some (.int .i64 t.h2.left)
def TxAt (w:World)(b o:Nat)(t:Tx):Prop:=
 ∃a c a' c' r d,Ten w b o t a c a' c' r d∧IsTx w (.agg #[.int .i64 t.seq,.slice a t.info.length c,.slice a' t.data.length c',.slice r t.rev.length d,.bool t.h0.on,.int .i64 t.h0.left,.bool t.h1.on,.int .i64 t.h1.left,.bool t.h2.on,.int .i64 t.h2.left]) t
theorem TxAt.below{w w':World}{b o:Nat}{t:Tx}(h:TxAt w b o t)(hb:Below w.heap.size w w')(hlt:b<w.heap.size):TxAt w' b o t:=by
 obtain⟨a,c,L,F,r,d,⟨J,I,A,D,O,N,B,K,M,E⟩,C⟩:=h;exact⟨a,c,L,F,r,d,⟨zac hb hlt J,zac hb hlt I,zac hb hlt A,zac hb hlt D,zac hb hlt O,zac hb hlt N,zac hb hlt B,zac hb hlt K,zac hb hlt M,zac hb hlt E⟩,C.below hb⟩
theorem IsTx.rows{w:World}{t:Tx}{q x0 x1 x2 x3 x4 x5:Value}{a a' r:Option Addr}{n c n' c' m d:Nat}(h:IsTx w (.agg #[q,.slice a n c,.slice a' n' c',.slice r m d,x0,x1,x2,x3,x4,x5]) t):
  SegW w a t.info∧SegW w a' t.data∧SegI w r t.rev∧t.info.length≤maxLen∧t.data.length≤maxLen∧t.rev.length≤maxLen:=by
 obtain⟨a2,c2,a3,c3,b2,d2,e,h⟩:=h;simp only[Value.agg.injEq]at e
 injection e with e
 simp only[List.cons.injEq,Value.slice.injEq,and_true]at e;obtain⟨_,⟨rfl,rfl,rfl⟩,⟨rfl,rfl,rfl⟩,⟨rfl,rfl,rfl⟩,_⟩:=e;exact h
def SegTx (w:World)(a:Option Addr)(l:List Tx):Prop:=
 l=[]∨∃b off,a=some ⟨b,off,none⟩∧b<w.heap.size∧∀i,i<l.length→TxAt w b (off+i*10) (l.getD i txz)
theorem SegTx.below{w w':World}{a:Option Addr}{l:List Tx}(h:SegTx w a l)(hb:Below w.heap.size w w'):SegTx w' a l:=by
 rcases h with h|⟨b,off,rfl,hlt,hc⟩
 ·exact .inl h
 ·exact .inr ⟨b,off,rfl,Nat.lt_of_lt_of_le hlt hb.size,fun i hi=>(hc i hi).below hb hlt⟩
def zsf (t:Tx):Prop:=t.info.length*24≤140737488355328∧t.data.length*24≤140737488355328∧t.rev.length*8≤140737488355328
theorem z1u{l:List Tx}{k:Nat}(h:k<l.length):l[k]?=some (l.getD k txz):=by
 rw[List.getD,List.getElem?_eq_getElem h];rfl
structure But (R base:Nat)(w w':World):Prop where
 os:w'.os=w.os
 tape:w'.tape=w.tape
 output:w'.output=w.output
 size:w.heap.size≤w'.heap.size
 block:∀k,k<base→k≠R→w'.heap[k]?=w.heap[k]?
theorem But.of_below{R base:Nat}{w w':World}(h:Below base w w'):But R base w w':=⟨h.os,h.tape,h.output,h.size,fun k hk _=>h.block k hk⟩
theorem But.trans{R base base2:Nat}{w w1 w2:World}(h:But R base w w1)(k:But R base2 w1 w2)(hb:base≤base2):But R base w w2:=
 ⟨k.os.trans h.os,k.tape.trans h.tape,k.output.trans h.output,Nat.le_trans h.size k.size,fun j hj hn=>(k.block j (by omega) hn).trans (h.block j hj hn)⟩
theorem But.cell{R base:Nat}{w w':World}(h:But R base w w'){b o:Nat}{v:Value}(hb:b<base)(hn:b≠R)(hc:w.cell? ⟨b,o,none⟩=some v):w'.cell? ⟨b,o,none⟩=some v:=
 (World.cell?_of_block (h.block b hb hn)).trans hc
theorem zed{R base:Nat}{w w':World}{e:TypeId}{size:Nat}{v:Value}{n:Nat}{xs:List Value}(h:w.ownsRow base e size v n xs)(hb:But R w.heap.size w w')(hR:R<base):w'.ownsRow base e size v n xs:=by
 refine⟨h.1,?_⟩;rcases h.2 with h0|⟨g,cap,cur,hv,hg,hh,r⟩
 ·exact .inl h0
 ·exact .inr ⟨g,cap,cur,hv,hg,(hb.block g (Array.getElem?_eq_some_iff.1 hh).1 (by omega)).trans hh,r⟩
def zp6:Mk:=⟨0,0,0,[],[]⟩
theorem zsp(w:World)(base:Nat):IsMkN w base (.agg #[.int .i64 0,.int .i64 0,.int .i64 0,.slice none 0 0,.slice none 0 0]) zp6:=⟨none,0,none,0,rfl,.inl rfl,.inl rfl,Nat.zero_le _,Nat.zero_le _,fun _ _ h=>(by cases h),fun _ _ h=>(by cases h)⟩
theorem z45{w w':World}{o:Obj}(hb:Below (w.alloc o).heap.size (w.alloc o) w'):w'.heap[w.heap.size]?=some o:=
 (hb.block _ (by simp)).trans (heap_alloc_new w o)
def at8 (s:ByteArray)(k:Nat):Int:=((s.get! k).toNat:Int)
def zfq (s:ByteArray):Nat→Int
 |0=>0
 |k+1=>256*zfq s k+at8 s (k+5)
theorem ziy(s:ByteArray)(k:Nat)(h:k<s.size):((s[k]'h).toNat:Int)=at8 s k:=by
 unfold at8
 congr 2
 exact(getElem!_pos s.data k h).symm
theorem zh5(s:ByteArray)(k:Nat):0≤at8 s k∧at8 s k≤255:=by
 unfold at8;have:=(s.get! k).toNat_lt;omega
theorem z17(s:ByteArray)(k:Nat)(h:k≤4):0≤zfq s k∧zfq s k<256^k:=by
 induction k with
 |zero=>exact⟨Int.le_refl _,by show(0:Int)<1;decide⟩
 |succ k ih=>
  have:=ih (by omega);have:=zh5 s (k+5);rw[zfq,Int.pow_succ];omega
theorem z18(s:ByteArray)(k:Nat)(h:k≤4):0≤zfq s k∧zfq s k≤4294967295:=by
 have h1:=z17 s k h
 have:(256:Int)^k≤256^4:=by
  match k,h with
  |0,_=>decide
  |1,_=>decide
  |2,_=>decide
  |3,_=>decide
  |4,_=>decide
 omega
theorem ziz(s:ByteArray)(k:Nat):wrap64 (at8 s k)=at8 s k:=by
 have:=zh5 s k;unfold wrap64;omega
theorem z55{w w':World}{o:Obj}(hb:Below (w.heap.size+1) (w.alloc o) w'):w'.heap[w.heap.size]?=some o:=
 (hb.block _ (by omega)).trans (heap_alloc_new w o)
