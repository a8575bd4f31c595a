/-
  
-/
import Derived.Test.YtjnpndfpajjihacGreatGrTopOrdered3
import Derived.RangeFuncBox
import Derived.RangeFuncLeaves
import Derived.Deep.DeepAppendWide
set_option maxRecDepth 100000
set_option maxHeartbeats 40000000
namespace Go.Proofs.YtjnpndfpajjihacGreat
open Go.Proofs.Tryz
open Go.RowKit
def St:Type:=Int×Int×ByteArray
def st0:St:=(0,0,ByteArray.empty)
def zbl (p:Int)(s:ByteArray):St:=(1,p,s)
def zb1:St:=(2,0,⟨#[]⟩)
def cellsSt:List St→List Value
 |[]=>[]
 |x::r=>.int .i64 x.1:: .int .i64 x.2.1:: .string x.2.2::cellsSt r
theorem zmv(l:List St):(cellsSt l).length=l.length*3:=by
 induction l with
 |nil=>rfl
 |cons x r ih=>simp[cellsSt,ih];omega
theorem zfi(l r:List St):cellsSt (l++r)=cellsSt l++cellsSt r:=by
 induction l with
 |nil=>rfl
 |cons x r ih=>simp[cellsSt,ih]
theorem zib(l:List St):∀u∈cellsSt l,u.oneCell'=true:=by
 induction l with
 |nil=>intro u A;simp[cellsSt]at A
 |cons x r ih=>
  intro u A;simp only[cellsSt,List.mem_cons]at A;rcases A with rfl|rfl|rfl|A
  ·rfl
  ·rfl
  ·rfl
  ·exact ih u A
theorem zvp(l:List St)(i:Nat)(h:i<l.length):(cellsSt l)[i*3]?=some (.int .i64 (l.getD i st0).1)∧(cellsSt l)[i*3+1]?=some (.int .i64 (l.getD i st0).2.1)∧(cellsSt l)[i*3+2]?=some (.string (l.getD i st0).2.2):=by
 induction l generalizing i with
 |nil=>simp at h
 |cons x r ih=>
  cases i with
  |zero=>exact⟨rfl,rfl,rfl⟩
  |succ i=>
   have A:(i+1)*3=i*3+1+1+1:=by omega
   rw[cellsSt,A]
   simpa using ih i (by simpa using h)
def SegSt (w:World)(a:Option Addr)(l:List St):Prop:=
 l=[]∨∃b off,a=some ⟨b,off,none⟩∧b<w.heap.size∧∀i,i<l.length→
  w.cell? ⟨b,off+i*3,none⟩=some (.int .i64 (l.getD i st0).1)∧w.cell? ⟨b,off+i*3+1,none⟩=some (.int .i64 (l.getD i st0).2.1)∧w.cell? ⟨b,off+i*3+2,none⟩=some (.string (l.getD i st0).2.2)
theorem SegSt.of_owns{w:World}{base n:Nat}{v:Value}{l:List St}(h:w.ownsRow base 124 3 v n (cellsSt l)):∃a c,v=.slice a l.length c∧SegSt w a l∧∀b off,a=some ⟨b,off,none⟩→base≤b:=by
 have A:l.length=n:=by have:=h.1;rw[zmv]at this;omega
 subst A;rcases h.2 with⟨rfl,h0⟩|⟨g,cap,cur,rfl,hb,hg,rest⟩
 ·exact⟨none,0,by rw[h0],.inl (List.eq_nil_of_length_eq_zero h0),fun _ _ h=>by cases h⟩
 ·refine⟨_,cap,rfl,.inr ⟨g,0,rfl,(Array.getElem?_eq_some_iff.1 hg).1,fun i hi=>?_⟩,fun _ _ h=>by cases h;exact hb⟩;have e:=zvp l i hi;rw[Nat.zero_add,h.cellAt (i*3) (by omega),h.cellAt (i*3+1) (by omega),h.cellAt (i*3+2) (by omega)];exact e
theorem zsg{w:World}{base:Nat}{e:TypeId}{size:Nat}{v:Value}{n:Nat}{xs:List Value}(h:w.ownsRow base e size v n xs){a:Option Addr}{k c:Nat}(hv:v=.slice a k c):k≤c:=by
 rcases h.2 with⟨rfl,_⟩|⟨g,cap,cur,rfl,_,_,h2,_⟩
 ·cases hv;exact Nat.le_refl _
 ·cases hv;exact h2
theorem zyb:(prog.info? 124).map (fun i=>(i.zero,i.size,i.bytes))=some (some (.agg #[.int .i64 0,.int .i64 0,.string ⟨#[]⟩]),3,32):=by kernel_rfl
theorem z4x{w:World}{b:Nat}{x:St}(h0:w.cell? ⟨b,0,none⟩=some (.int .i64 x.1))(h1:w.cell? ⟨b,1,none⟩=some (.int .i64 x.2.1))(h2:w.cell? ⟨b,2,none⟩=some (.string x.2.2)):
  ∀j u,(cellsSt [x])[j]?=some u→w.cell? (Addr.add ⟨b,0,none⟩ j)=some u:=by
 intro j u A;rw[Addr.add_lit,Nat.zero_add]
 match j,A with
 |0,A=>simp[cellsSt]at A;subst A;exact h0
 |1,A=>simp[cellsSt]at A;subst A;exact h1
 |2,A=>simp[cellsSt]at A;subst A;exact h2
 |j+3,A=>simp[cellsSt]at A
def zsh (w:World)(base:Nat)(v:Value)(l:List St):Prop:=w.ownsRow base 124 3 v l.length (cellsSt l)
theorem zkc{w:World}{ops:Array Oper}{rest:List Oper}{o:Oper}{a:Act}{Q:Exit→Act→World→Prop}(hgd:o.guard=none)(s x:Operand)
  (ho:o.op=.call {callee:=.builtin .append,args:=#[s,x],argTypes:=#[91,91]})
  (base:Nat) (v:Value) (l:List St) (hs:a.eval s=v) (hown:w.ownsRow base 124 3 v l.length (cellsSt l)) (b:Nat) (y:St) (hx:a.eval x=.slice (some ⟨b,0,none⟩) 1 1)
  (h0:w.cell? ⟨b,0,none⟩=some (.int .i64 y.1)) (h1:w.cell? ⟨b,1,none⟩=some (.int .i64 y.2.1)) (h2:w.cell? ⟨b,2,none⟩=some (.string y.2.2)) (h63:l.length*24≤140737488380000) (hbase:base≤w.heap.size)
  (h:∀v' w',zsh w' base v' (l++[y])→w.grownBy w' v.ownBlock→wpList prog ops Q rest (a.put o.dst v') w'):wpList prog ops Q (o::rest) a w:=by
 obtain⟨D,F,B,C,A⟩:=info_parts zyb;refine wpList_append_own_wide w hgd s x 91 ho base 124 D (.agg #[.int .i64 0,.int .i64 0,.string ⟨#[]⟩]) 3 32 underlying91 F B C A rfl (by decide) v l.length (cellsSt l) hs hown ⟨b,0,none⟩ 1 1 (cellsSt [y]) hx rfl (z4x h0 h1 h2) (zib _) (by unfold maxLen;omega) (by omega) hbase ?_;intro v' w' I E _;refine h v' w' ?_ E;rw[zsh,zfi,List.length_append];exact I
theorem zna{w:World}{ops:Array Oper}{o:Oper}{a:Act}{K:Act→World→Prop}{Q:Exit→Act→World→Prop}{E:Prop}(hgd:o.guard=none)(s x:Operand)
  (ho:o.op=.call {callee:=.builtin .append,args:=#[s,x],argTypes:=#[91,91]})
  (base:Nat) (v:Value) (l:List St) (hs:a.eval s=v) (hown:w.ownsRow base 124 3 v l.length (cellsSt l)) (b:Nat) (y:St) (hx:a.eval x=.slice (some ⟨b,0,none⟩) 1 1)
  (h0:w.cell? ⟨b,0,none⟩=some (.int .i64 y.1)) (h1:w.cell? ⟨b,1,none⟩=some (.int .i64 y.2.1)) (h2:w.cell? ⟨b,2,none⟩=some (.string y.2.2)) (h63:l.length≤1000) (hbase:base≤w.heap.size)
  (h:∀v' w',zsh w' base v' (l++[y])→w.grownBy w' v.ownBlock→K (a.put o.dst v') w'):if Region.wanted o (yielded ops a.tmps)=true then Oper.wp prog o a w K Q else E:=by
 obtain⟨D,I,B,C,A⟩:=info_parts zyb;refine zur hgd s x 91 ho 124 D (.agg #[.int .i64 0,.int .i64 0,.string ⟨#[]⟩]) 3 32 underlying91 I B C A rfl (by decide) base v l.length (cellsSt l) hs hown ⟨b,0,none⟩ (cellsSt [y]) hx rfl (z4x h0 h1 h2) (zib _) h63 (by omega) hbase ?_;intro v' w' J F;refine h v' w' ?_ F;rw[zsh,zfi,List.length_append];exact J
structure Fr (Bs Bp base:Nat)(w w':World):Prop where
 os:w'.os=w.os
 tape:w'.tape=w.tape
 output:w'.output=w.output
 size:w.heap.size≤w'.heap.size
 low:∀k,k<base→k≠Bp→k≠Bs→w'.heap[k]?=w.heap[k]?
 box:∀k o,w.heap[k]?=some o→(∀cs fr,o≠.cells cs 124 fr)→k≠Bs→k≠Bp→w'.heap[k]?=some o
theorem Fr.of_below{Bs Bp base:Nat}{w w':World}(hb:Below w.heap.size w w')(hbase:base≤w.heap.size):Fr Bs Bp base w w':=
 ⟨hb.os,hb.tape,hb.output,hb.size,fun k hk _ _=>hb.block k (by omega),fun k o ho _ _ _=>(hb.block k (Array.getElem?_eq_some_iff.1 ho).1).trans ho⟩
theorem Fr.trans{Bs Bp base:Nat}{w w1 w2:World}(h:Fr Bs Bp base w w1)(k:Fr Bs Bp base w1 w2):Fr Bs Bp base w w2:=
 ⟨k.os.trans h.os,k.tape.trans h.tape,k.output.trans h.output,Nat.le_trans h.size k.size,fun j hj n1 n2=>(k.low j hj n1 n2).trans (h.low j hj n1 n2),fun j o ho hn n1 n2=>k.box j o (h.box j o ho hn n1 n2) hn n1 n2⟩
theorem Fr.grown{Bs Bp base:Nat}{w w':World}{v:Value}{n:Nat}{xs:List Value}(hown:w.ownsRow base 124 3 v n xs)(hg:w.grownBy w' v.ownBlock)(hbase:base≤w.heap.size):Fr Bs Bp base w w':=by
 have B:∀k,k<base→some k≠v.ownBlock:=by
  intro k A e;have:=hown.lt k e.symm;omega
 refine⟨hg.os,hg.tape,hg.output,hg.size,fun k A _ _=>hg.block k (by omega) (B k A),fun k o ho hn _ _=>(hg.block k (Array.getElem?_eq_some_iff.1 ho).1 ?_).trans ho⟩;intro e;rcases hown.2 with⟨rfl,_⟩|⟨g,cap,cur,rfl,hb,hgb,_⟩
 ·simp[Value.ownBlock]at e
 ·simp[Value.ownBlock]at e;subst e;rw[hgb]at ho;simp only[Option.some.injEq]at ho;exact hn _ _ ho.symm
theorem Fr.setS{Bs Bp base:Nat}(w:World)(u:Value):Fr Bs Bp base w (w.setCell ⟨Bs,0,none⟩ u):=
 ⟨rfl,rfl,rfl,by simp[World.setCell],fun k _ _ h=>Below.heap_setCell _ _ _ _ h,fun k o ho _ h _=>(Below.heap_setCell _ _ _ _ h).trans ho⟩
theorem Fr.setP{Bs Bp base:Nat}(w:World)(u:Value):Fr Bs Bp base w (w.setCell ⟨Bp,0,none⟩ u):=
 ⟨rfl,rfl,rfl,by simp[World.setCell],fun k _ h _=>Below.heap_setCell _ _ _ _ h,fun k o ho _ _ h=>(Below.heap_setCell _ _ _ _ h).trans ho⟩
theorem Fr.below{Bs Bp base n:Nat}{w w':World}(h:Fr Bs Bp base w w')(h1:n≤base)(h2:n≤Bp)(h3:n≤Bs):Below n w w':=
 ⟨h.os,h.tape,h.output,h.size,fun k hk=>h.low k (by omega) (by omega) (by omega)⟩
theorem Fr.boxed{Bs Bp base B:Nat}{w w':World}(h:Fr Bs Bp base w w'){t:TypeId}{v:Value}(hb:Boxed w B t v)(ht:t≠124)(h1:B≠Bs)(h2:B≠Bp):Boxed w' B t v:=
 h.box B _ hb (fun cs fr e=>by simp only[Obj.cells.injEq]at e;exact ht e.2.1) h1 h2
theorem Fr.others{Bs Bp base:Nat}{w w':World}(h:Fr Bs Bp base w w')(h1:∃t v,Boxed w Bs t v)(h2:∃t v,Boxed w Bp t v):KeepsOthers w w':=by
 obtain⟨t1,v1,B⟩:=h1;obtain⟨t2,v2,A⟩:=h2;refine⟨h.size,fun k o ho hc=>h.box k o ho (fun cs fr e=>by rw[e]at hc;cases hc) ?_ ?_⟩
 ·intro e;subst e;rw[B]at ho;cases ho;cases hc
 ·intro e;subst e;rw[A]at ho;cases ho;cases hc
def StepsAt (w:World)(base Bs:Nat)(l:List St):Prop:=∃v,Boxed w Bs 91 v∧w.ownsRow base 124 3 v l.length (cellsSt l)
def PlacesAt (w:World)(base Bp:Nat)(l:List Int):Prop:=
 ∃a c,Boxed w Bp 35 (.slice a l.length c)∧SegI w a l∧(∀b off,a=some ⟨b,off,none⟩→b<base∧b≠Bp)∧l.length≤c∧(a=none→l=[])
theorem StepsAt.below{w w':World}{base Bs:Nat}{l:List St}(h:StepsAt w base Bs l)(hb:Below w.heap.size w w'):StepsAt w' base Bs l:=by
 obtain⟨v,A,B⟩:=h;exact⟨v,zad hb A.lt A,zah B hb⟩
theorem PlacesAt.below{w w':World}{base Bp:Nat}{l:List Int}(h:PlacesAt w base Bp l)(hb:Below w.heap.size w w'):PlacesAt w' base Bp l:=by
 obtain⟨a,c,A,B,C⟩:=h;exact⟨a,c,zad hb A.lt A,B.below hb,C⟩
theorem StepsAt.boxed{w:World}{base Bs:Nat}{l:List St}(h:StepsAt w base Bs l):∃t v,Boxed w Bs t v:=by obtain⟨v,h,_⟩:=h;exact⟨_,v,h⟩
theorem PlacesAt.boxed{w:World}{base Bp:Nat}{l:List Int}(h:PlacesAt w base Bp l):∃t v,Boxed w Bp t v:=by obtain⟨a,c,h,_⟩:=h;exact⟨_,_,h⟩
theorem SegI.low{w w':World}{a:Option Addr}{l:List Int}{Bs Bp base:Nat}(h:SegI w a l)(hf:Fr Bs Bp base w w')(hb:∀b off,a=some ⟨b,off,none⟩→b<base∧b≠Bp)(hs:base≤Bs):SegI w' a l:=by
 rcases h with h|⟨b,off,rfl,hlt,hc⟩
 ·exact .inl h
 ·obtain⟨B,A⟩:=hb b off rfl;refine .inr ⟨b,off,rfl,Nat.lt_of_lt_of_le hlt hf.size,fun i hi=>?_⟩;exact(World.cell?_of_block (w:=w) (a:=⟨b,off+i,none⟩) (hf.low b B A (by omega))).trans (hc i hi)
structure Ext (w w':World):Prop where
 size:w.heap.size≤w'.heap.size
 cell:∀b o v,w.cell? ⟨b,o,none⟩=some v→w'.cell? ⟨b,o,none⟩=some v
theorem Ext.trans{a b c:World}(h:Ext a b)(k:Ext b c):Ext a c:=⟨Nat.le_trans h.size k.size,fun x o v hv=>k.cell x o v (h.cell x o v hv)⟩
theorem zoe{w:World}{b o:Nat}{v:Value}(h:w.cell? ⟨b,o,none⟩=some v):b<w.heap.size:=by
 unfold World.cell? at h;split at h
 ·rename_i c t f A;exact(Array.getElem?_eq_some_iff.1 A).1
 ·cases h
theorem SegS.ext{w w':World}{a:Option Addr}{l:List ByteArray}(h:SegS w a l)(e:Ext w w'):SegS w' a l:=by
 rcases h with h|⟨b,off,rfl,hlt,hc⟩
 ·exact .inl h
 ·exact .inr ⟨b,off,rfl,Nat.lt_of_lt_of_le hlt e.size,fun i hi=>e.cell _ _ _ (hc i hi)⟩
theorem SegW.ext{w w':World}{a:Option Addr}{l:List (Int×ByteArray)}(h:SegW w a l)(e:Ext w w'):SegW w' a l:=by
 rcases h with h|⟨b,off,rfl,hlt,hc⟩
 ·exact .inl h
 ·exact .inr ⟨b,off,rfl,Nat.lt_of_lt_of_le hlt e.size,fun i hi=>⟨e.cell _ _ _ (hc i hi).1,e.cell _ _ _ (hc i hi).2⟩⟩
theorem SegI.ext{w w':World}{a:Option Addr}{l:List Int}(h:SegI w a l)(e:Ext w w'):SegI w' a l:=by
 rcases h with h|⟨b,off,rfl,hlt,hc⟩
 ·exact .inl h
 ·exact .inr ⟨b,off,rfl,Nat.lt_of_lt_of_le hlt e.size,fun i hi=>e.cell _ _ _ (hc i hi)⟩
theorem SegSt.ext{w w':World}{a:Option Addr}{l:List St}(h:SegSt w a l)(e:Ext w w'):SegSt w' a l:=by
 rcases h with h|⟨b,off,rfl,hlt,hc⟩
 ·exact .inl h
 ·exact .inr ⟨b,off,rfl,Nat.lt_of_lt_of_le hlt e.size,fun i hi=>⟨e.cell _ _ _ (hc i hi).1,e.cell _ _ _ (hc i hi).2.1,e.cell _ _ _ (hc i hi).2.2⟩⟩
theorem IsDk.ext{w w':World}{v:Value}{d:Dk}(h:IsDk w v d)(e:Ext w w'):IsDk w' v d:=by
 obtain⟨a,c,A,D,rfl,E,B,C,F⟩:=h;exact⟨a,c,A,D,rfl,E.ext e,B.ext e,C,F⟩
theorem IsTx.ext{w w':World}{v:Value}{t:Tx}(h:IsTx w v t)(e:Ext w w'):IsTx w' v t:=by
 obtain⟨a,c,A,F,r,d,rfl,I,B,E,C,J,D⟩:=h;exact⟨a,c,A,F,r,d,rfl,I.ext e,B.ext e,E.ext e,C,J,D⟩
theorem TxAt.ext{w w':World}{b o:Nat}{t:Tx}(h:TxAt w b o t)(e:Ext w w'):TxAt w' b o t:=by
 obtain⟨a,c,L,F,r,d,⟨J,I,A,D,O,N,B,K,M,E⟩,C⟩:=h;exact⟨a,c,L,F,r,d,⟨e.cell _ _ _ J,e.cell _ _ _ I,e.cell _ _ _ A,e.cell _ _ _ D,e.cell _ _ _ O,e.cell _ _ _ N,e.cell _ _ _ B,e.cell _ _ _ K,e.cell _ _ _ M,e.cell _ _ _ E⟩,C.ext e⟩
theorem SegTx.ext{w w':World}{a:Option Addr}{l:List Tx}(h:SegTx w a l)(e:Ext w w'):SegTx w' a l:=by
 rcases h with h|⟨b,off,rfl,hlt,hc⟩
 ·exact .inl h
 ·exact .inr ⟨b,off,rfl,Nat.lt_of_lt_of_le hlt e.size,fun i hi=>(hc i hi).ext e⟩
def zlo (w:World)(B:Nat):World:=w.putObj B (.deferred none)
theorem zd0(w:World)(B:Nat):(zlo w B).heap.size=w.heap.size:=by simp[zlo,World.putObj]
theorem zf8(w:World){B k:Nat}(h:k≠B):(zlo w B).heap[k]?=w.heap[k]?:=World.putObj_heap_other h
theorem zhm{w:World}{B b o:Nat}{v:Value}(h:(zlo w B).cell? ⟨b,o,none⟩=some v):b≠B∧w.cell? ⟨b,o,none⟩=some v:=by
 have A:b≠B:=by
  intro e;subst e;have C:=zoe h;rw[zd0]at C;have D:(zlo w b).heap[b]?=some (.deferred none):=World.putObj_heap_same C;unfold World.cell? at h;rw[D]at h;cases h
 exact⟨A,by rw[←World.cell?_of_block (w:=w) (a:=⟨b,o,none⟩) (zf8 w A)];exact h⟩
theorem Ext.seen(w:World)(B:Nat):Ext (zlo w B) w:=⟨by rw[zd0];exact Nat.le_refl _,fun _ _ _ h=>(zhm h).2⟩
theorem Ext.but{B:Nat}{w w':World}(h:But B w.heap.size w w'):Ext (zlo w B) (zlo w' B):=by
 refine⟨by rw[zd0,zd0];exact h.size,fun b o v hv=>?_⟩;obtain⟨A,C⟩:=zhm hv;have:=h.cell (zoe C) A C;rw[World.cell?_of_block (w:=w') (a:=⟨b,o,none⟩) (zf8 w' A)];exact this
theorem Ext.set(w:World)(B k:Nat)(u:Value):Ext (zlo w B) (zlo (w.setCell ⟨B,k,none⟩ u) B):=by
 refine⟨by rw[zd0,zd0];simp[World.setCell],fun b o v hv=>?_⟩;obtain⟨A,C⟩:=zhm hv;rw[World.cell?_of_block (w:=w.setCell ⟨B,k,none⟩ u) (a:=⟨b,o,none⟩) (zf8 _ A)];exact zeo C (by simpa using A)
def zau (w:World):List Nat→World
 |[]=>w
 |b::X=>zlo (zau w X) b
theorem zbf(w:World)(X:List Nat):(zau w X).heap.size=w.heap.size:=by
 induction X with
 |nil=>rfl
 |cons b X ih=>rw[zau,zd0,ih]
theorem zbv{w:World}{X:List Nat}{b o:Nat}{v:Value}(h:(zau w X).cell? ⟨b,o,none⟩=some v):b∉X∧w.cell? ⟨b,o,none⟩=some v:=by
 induction X with
 |nil=>exact⟨by simp,h⟩
 |cons x X ih=>
  obtain⟨B,A⟩:=zhm h;obtain⟨D,C⟩:=ih A;exact⟨by simp[B,D],C⟩
theorem zlp{w:World}{X:List Nat}{b:Nat}(h:b∉X):(zau w X).heap[b]?=w.heap[b]?:=by
 induction X with
 |nil=>rfl
 |cons x X ih=>
  simp only[List.mem_cons,not_or]at h;rw[zau,zf8 _ h.1,ih h.2]
theorem zbz{w:World}{X:List Nat}{b o:Nat}{v:Value}(h:b∉X)(hc:w.cell? ⟨b,o,none⟩=some v):(zau w X).cell? ⟨b,o,none⟩=some v:=
 (World.cell?_of_block (zlp h)).trans hc
theorem Ext.seenL(w:World)(X:List Nat):Ext (zau w X) w:=⟨by rw[zbf];exact Nat.le_refl _,fun _ _ _ h=>(zbv h).2⟩
structure ButL (X:List Nat)(base:Nat)(w w':World):Prop where
 os:w'.os=w.os
 tape:w'.tape=w.tape
 output:w'.output=w.output
 size:w.heap.size≤w'.heap.size
 block:∀k,k<base→k∉X→w'.heap[k]?=w.heap[k]?
theorem ButL.refl(X:List Nat)(n:Nat)(w:World):ButL X n w w:=⟨rfl,rfl,rfl,Nat.le_refl _,fun _ _ _=>rfl⟩
theorem ButL.of_below{X:List Nat}{base:Nat}{w w':World}(h:Below base w w'):ButL X base w w':=⟨h.os,h.tape,h.output,h.size,fun k hk _=>h.block k hk⟩
theorem ButL.trans{X Y:List Nat}{base base2:Nat}{w w1 w2:World}(h:ButL X base w w1)(k:ButL Y base2 w1 w2)(hb:base≤base2)(hY:∀y∈Y,y∈X∨base≤y):ButL X base w w2:=
 ⟨k.os.trans h.os,k.tape.trans h.tape,k.output.trans h.output,Nat.le_trans h.size k.size,fun j hj hn=>(k.block j (by omega) (fun hy=>by rcases hY j hy with h1|h1;exact hn h1;omega)).trans (h.block j hj hn)⟩
theorem ButL.set{X:List Nat}{base:Nat}{w w1:World}(h:ButL X base w w1){b:Nat}(hb:b∈X∨base≤b)(k:Nat)(u:Value):ButL X base w (w1.setCell ⟨b,k,none⟩ u):=
 ⟨h.os,h.tape,h.output,by simpa[World.setCell] using h.size,fun j hj hn=>(Below.heap_setCell _ _ _ _ (by intro e;simp only at e;subst e;rcases hb with h1|h1;exact hn h1;omega)).trans (h.block j hj hn)⟩
theorem ButL.wider{X Y:List Nat}{base:Nat}{w w':World}(h:ButL X base w w')(hX:∀x∈X,x∈Y):ButL Y base w w':=⟨h.os,h.tape,h.output,h.size,fun k hk hn=>h.block k hk (fun hx=>hn (hX k hx))⟩
theorem ButL.below{base:Nat}{w w':World}(h:ButL [] base w w'):Below base w w':=⟨h.os,h.tape,h.output,h.size,fun k hk=>h.block k hk (by simp)⟩
theorem ButL.cell{X:List Nat}{base:Nat}{w w':World}(h:ButL X base w w'){b o:Nat}{v:Value}(hb:b<base)(hn:b∉X)(hc:w.cell? ⟨b,o,none⟩=some v):w'.cell? ⟨b,o,none⟩=some v:=
 (World.cell?_of_block (h.block b hb hn)).trans hc
theorem Ext.butL{X:List Nat}{w w':World}(h:ButL X w.heap.size w w'):Ext (zau w X) (zau w' X):=by
 refine⟨by rw[zbf,zbf];exact h.size,fun b o v hv=>?_⟩;obtain⟨B,A⟩:=zbv hv;exact zbz B (h.cell (zoe A) B A)
theorem Ext.freshL{X:List Nat}{w w':World}(h:Below w.heap.size w w'):Ext (zau w X) (zau w' X):=Ext.butL (ButL.of_below h)
theorem Ext.setL{X:List Nat}{w:World}{b:Nat}(hb:b∈X)(k:Nat)(u:Value):Ext (zau w X) (zau (w.setCell ⟨b,k,none⟩ u) X):=Ext.butL ((ButL.refl X _ w).set (.inl hb) k u)
theorem Ext.newL{X:List Nat}{w w':World}{b:Nat}(h:Below w.heap.size w w')(hb:w.heap.size≤b):Ext (zau w X) (zau w' (b::X)):=by
 refine⟨by rw[zbf,zbf];exact h.size,fun c o v hv=>?_⟩;obtain⟨C,A⟩:=zbv hv;have B:=zoe A;exact zbz (by simp[C];omega) (zac h B A)
theorem Ext.lessL{w:World}{X:List Nat}(b:Nat):Ext (zau w (b::X)) (zau w X):=Ext.seen _ b
def From (n:Nat)(a:Option Addr):Prop:=∀b off,a=some ⟨b,off,none⟩→n≤b
theorem From.none(n:Nat):From n none:=fun _ _ h=>by cases h
theorem From.mono{n m:Nat}{a:Option Addr}(h:From n a)(hm:m≤n):From m a:=fun b off e=>Nat.le_trans hm (h b off e)
section
variable {w:World} {X:List Nat} {a:Option Addr} {n:Nat}
theorem zpy(hX:∀x∈X,x<n){b:Nat}(hb:n≤b):b∉X:=fun h=>by have:=hX b h;omega
theorem SegS.hideF{l:List ByteArray}(h:SegS w a l)(hF:From n a)(hX:∀x∈X,x<n):SegS (zau w X) a l:=by
 rcases h with h|⟨b,off,rfl,hlt,hc⟩
 ·exact .inl h
 ·exact .inr ⟨b,off,rfl,by rw[zbf];exact hlt,fun i hi=>zbz (zpy hX (hF _ _ rfl)) (hc i hi)⟩
theorem SegW.hideF{l:List (Int×ByteArray)}(h:SegW w a l)(hF:From n a)(hX:∀x∈X,x<n):SegW (zau w X) a l:=by
 rcases h with h|⟨b,off,rfl,hlt,hc⟩
 ·exact .inl h
 ·exact .inr ⟨b,off,rfl,by rw[zbf];exact hlt,fun i hi=>⟨zbz (zpy hX (hF _ _ rfl)) (hc i hi).1,zbz (zpy hX (hF _ _ rfl)) (hc i hi).2⟩⟩
theorem SegI.hideF{l:List Int}(h:SegI w a l)(hF:From n a)(hX:∀x∈X,x<n):SegI (zau w X) a l:=by
 rcases h with h|⟨b,off,rfl,hlt,hc⟩
 ·exact .inl h
 ·exact .inr ⟨b,off,rfl,by rw[zbf];exact hlt,fun i hi=>zbz (zpy hX (hF _ _ rfl)) (hc i hi)⟩
theorem SegSt.hideF{l:List St}(h:SegSt w a l)(hF:From n a)(hX:∀x∈X,x<n):SegSt (zau w X) a l:=by
 rcases h with h|⟨b,off,rfl,hlt,hc⟩
 ·exact .inl h
 ·exact .inr ⟨b,off,rfl,by rw[zbf];exact hlt,fun i hi=>⟨zbz (zpy hX (hF _ _ rfl)) (hc i hi).1,zbz (zpy hX (hF _ _ rfl)) (hc i hi).2.1,zbz (zpy hX (hF _ _ rfl)) (hc i hi).2.2⟩⟩
theorem IsDk.hideF{v:Value}{d:Dk}(h:IsDk w v d)(hF:DkFrom n v)(hX:∀x∈X,x<n):IsDk (zau w X) v d:=by
 obtain⟨a,c,E,C,rfl,D,A,B,I⟩:=h;obtain⟨b,l,k,b',l',k',e,f1,F⟩:=hF;simp only[Value.agg.injEq,Array.mk.injEq,List.cons.injEq,Value.slice.injEq,and_true]at e;obtain⟨⟨rfl,_,rfl⟩,rfl,_,rfl⟩:=e;exact⟨a,c,E,C,rfl,D.hideF f1 hX,A.hideF F hX,B,I⟩
theorem IsDk.asDisk{v:Value}{d d2:Dk}(h:IsDk (zau w X) v d)(h2:IsDk w v d2):IsDk (zau w X) v d2:=by
 obtain⟨a,c,J,I,rfl,F,D,s3,s4⟩:=h;obtain⟨b,k,b',k',e,E,K,M,L⟩:=h2;simp only[Value.agg.injEq,Array.mk.injEq,List.cons.injEq,Value.slice.injEq,and_true]at e;obtain⟨⟨rfl,C,rfl⟩,rfl,B,rfl⟩:=e;refine⟨a,c,J,I,by rw[C,B],?_,?_,M,L⟩
 ·rcases E with t|⟨x,off,rfl,hlt,hc⟩
  ·exact .inl t
  ·rcases F with s|⟨y,off',he,hlt',hc'⟩
   ·exact .inl (List.eq_nil_of_length_eq_zero (by rw[←C,s];rfl))
   ·cases he;by_cases h0:d2.safe.length=0
    ·exact .inl (List.eq_nil_of_length_eq_zero h0)
    ·have A:=(zbv (hc' 0 (by omega))).1;exact .inr ⟨x,off,rfl,by rw[zbf];exact hlt,fun i hi=>zbz A (hc i hi)⟩
 ·rcases K with t|⟨x,off,rfl,hlt,hc⟩
  ·exact .inl t
  ·rcases D with s|⟨y,off',he,hlt',hc'⟩
   ·exact .inl (List.eq_nil_of_length_eq_zero (by rw[←B,s];rfl))
   ·cases he;by_cases h0:d2.wr.length=0
    ·exact .inl (List.eq_nil_of_length_eq_zero h0)
    ·have A:=(zbv (hc' 0 (by omega)).1).1;exact .inr ⟨x,off,rfl,by rw[zbf];exact hlt,fun i hi=>⟨zbz A (hc i hi).1,zbz A (hc i hi).2⟩⟩
end
open Go.Proofs.Tryz
structure Jn where
 acts:Int
 disk:Dk
 rh:Int
 ru:Int
 last:Int
 down:Bool
 role:Nat→Int
 freed:Nat→Int
 now:Tx
 sealed:Tx
 done:List Tx
 fL:List Tx
 fN:Int
 fP:Int
 work:Int
 steps:List St
def zbs (j:Jn)(da:Option Addr)(dc:Nat)(db:Option Addr)(dd:Nat)(na:Option Addr)(nc:Nat)(nb:Option Addr)(nd:Nat)(ne:Option Addr)(nf:Nat)(sa:Option Addr)(sc:Nat)(sb:Option Addr)(sd:Nat)(se:Option Addr)(sf:Nat)(ca:Option Addr)(cc:Nat)(fa:Option Addr)(fc:Nat)(ta:Option Addr)(tc:Nat):Array Value:=
 #[.int .i64 j.acts,.slice da j.disk.safe.length dc,.slice db j.disk.wr.length dd,.int .i64 j.rh,.int .i64 j.ru,.int .i64 j.last,.bool j.down,.int .i64 (j.role 0),.int .i64 (j.freed 0),.int .i64 (j.role 1),.int .i64 (j.freed 1),.int .i64 (j.role 2),.int .i64 (j.freed 2),.int .i64 (j.role 3),.int .i64 (j.freed 3),.int .i64 (j.role 4),.int .i64 (j.freed 4),.int .i64 (j.role 5),.int .i64 (j.freed 5),.int .i64 (j.role 6),.int .i64 (j.freed 6),.int .i64 (j.role 7),.int .i64 (j.freed 7),.int .i64 (j.role 8),.int .i64 (j.freed 8),.int .i64 (j.role 9),.int .i64 (j.freed 9),.int .i64 (j.role 10),.int .i64 (j.freed 10),.int .i64 (j.role 11),.int .i64 (j.freed 11),.int .i64 j.now.seq,.slice na j.now.info.length nc,.slice nb j.now.data.length nd,.slice ne j.now.rev.length nf,.bool j.now.h0.on,.int .i64 j.now.h0.left,.bool j.now.h1.on,.int .i64 j.now.h1.left,.bool j.now.h2.on,.int .i64 j.now.h2.left,.int .i64 j.sealed.seq,.slice sa j.sealed.info.length sc,.slice sb j.sealed.data.length sd,.slice se j.sealed.rev.length sf,.bool j.sealed.h0.on,.int .i64 j.sealed.h0.left,.bool j.sealed.h1.on,.int .i64 j.sealed.h1.left,.bool j.sealed.h2.on,.int .i64 j.sealed.h2.left,.slice ca j.done.length cc,.slice fa j.fL.length fc,.int .i64 j.fN,.int .i64 j.fP,.int .i64 j.work,.slice ta j.steps.length tc]
def RowsJ (w:World)(X:List Nat)(j:Jn)(da:Option Addr)(dc:Nat)(db:Option Addr)(dd:Nat)(na:Option Addr)(nc:Nat)(nb:Option Addr)(nd:Nat)(ne:Option Addr)(nf:Nat)(sa:Option Addr)(sc:Nat)(sb:Option Addr)(sd:Nat)(se:Option Addr)(sf:Nat)(ca:Option Addr)(cc:Nat)(fa:Option Addr)(fc:Nat)(ta:Option Addr)(tc:Nat):Prop:=
 IsDk (zau w X) (.agg #[.slice da j.disk.safe.length dc,.slice db j.disk.wr.length dd]) j.disk∧IsTx (zau w X) (.agg #[.int .i64 j.now.seq,.slice na j.now.info.length nc,.slice nb j.now.data.length nd,.slice ne j.now.rev.length nf,.bool j.now.h0.on,.int .i64 j.now.h0.left,.bool j.now.h1.on,.int .i64 j.now.h1.left,.bool j.now.h2.on,.int .i64 j.now.h2.left]) j.now∧IsTx (zau w X) (.agg #[.int .i64 j.sealed.seq,.slice sa j.sealed.info.length sc,.slice sb j.sealed.data.length sd,.slice se j.sealed.rev.length sf,.bool j.sealed.h0.on,.int .i64 j.sealed.h0.left,.bool j.sealed.h1.on,.int .i64 j.sealed.h1.left,.bool j.sealed.h2.on,.int .i64 j.sealed.h2.left]) j.sealed∧
 SegTx (zau w X) ca j.done∧SegTx (zau w X) fa j.fL∧SegSt (zau w X) ta j.steps∧RoomTx (.agg #[.int .i64 j.now.seq,.slice na j.now.info.length nc,.slice nb j.now.data.length nd,.slice ne j.now.rev.length nf,.bool j.now.h0.on,.int .i64 j.now.h0.left,.bool j.now.h1.on,.int .i64 j.now.h1.left,.bool j.now.h2.on,.int .i64 j.now.h2.left])∧j.steps.length≤tc∧0≤cc∧0≤fc
def JAt (w:World)(B:Nat)(X:List Nat)(j:Jn):Prop:=B∈X∧∃(da:Option Addr) (dc:Nat) (db:Option Addr) (dd:Nat) (na:Option Addr) (nc:Nat) (nb:Option Addr) (nd:Nat) (ne:Option Addr) (nf:Nat) (sa:Option Addr) (sc:Nat) (sb:Option Addr) (sd:Nat) (se:Option Addr) (sf:Nat) (ca:Option Addr) (cc:Nat) (fa:Option Addr) (fc:Nat) (ta:Option Addr) (tc:Nat),w.heap[B]?=some (.cells (zbs j da dc db dd na nc nb nd ne nf sa sc sb sd se sf ca cc fa fc ta tc) 93 (0,0))∧RowsJ w X j da dc db dd na nc nb nd ne nf sa sc sb sd se sf ca cc fa fc ta tc
theorem RowsJ.ext{w w':World}{X Y:List Nat}{j:Jn}{da:Option Addr}{dc:Nat}{db:Option Addr}{dd:Nat}{na:Option Addr}{nc:Nat}{nb:Option Addr}{nd:Nat}{ne:Option Addr}{nf:Nat}{sa:Option Addr}{sc:Nat}{sb:Option Addr}{sd:Nat}{se:Option Addr}{sf:Nat}{ca:Option Addr}{cc:Nat}{fa:Option Addr}{fc:Nat}{ta:Option Addr}{tc:Nat}(h:RowsJ w X j da dc db dd na nc nb nd ne nf sa sc sb sd se sf ca cc fa fc ta tc)(e:Ext (zau w X) (zau w' Y)):RowsJ w' Y j da dc db dd na nc nb nd ne nf sa sc sb sd se sf ca cc fa fc ta tc:=by
 obtain⟨C,E,I,D,B,F,A⟩:=h;exact⟨C.ext e,E.ext e,I.ext e,D.ext e,B.ext e,F.ext e,A⟩
theorem JAt.lt{w:World}{B:Nat}{X:List Nat}{j:Jn}(h:JAt w B X j):B<w.heap.size:=by
 obtain⟨_,da,dc,db,dd,na,nc,nb,nd,ne,nf,sa,sc,sb,sd,se,sf,ca,cc,fa,fc,ta,tc,A,_⟩:=h;exact(Array.getElem?_eq_some_iff.1 A).1
theorem JAt.below{w w':World}{B:Nat}{X:List Nat}{j:Jn}(h:JAt w B X j)(hb:Below w.heap.size w w'):JAt w' B X j:=by
 obtain⟨U,c,b,a,K,Y,E,M,J,ne,L,Z,O,N,i,I,D,C,S,e,R,d,Q,A,F⟩:=h;exact⟨U,c,b,a,K,Y,E,M,J,ne,L,Z,O,N,i,I,D,C,S,e,R,d,Q,zad hb (Array.getElem?_eq_some_iff.1 A).1 A,F.ext (Ext.freshL hb)⟩
theorem JAt.more{w w':World}{B b:Nat}{X:List Nat}{j:Jn}(h:JAt w B X j)(hb:Below w.heap.size w w')(hn:w.heap.size≤b):JAt w' B (b::X) j:=by
 obtain⟨U,d,c,a,K,Y,E,M,J,ne,L,Z,O,N,k,I,D,C,S,i,R,e,Q,A,F⟩:=h;exact⟨by simp[U],d,c,a,K,Y,E,M,J,ne,L,Z,O,N,k,I,D,C,S,i,R,e,Q,zad hb (Array.getElem?_eq_some_iff.1 A).1 A,F.ext (Ext.newL hb hn)⟩
theorem JAt.less{w:World}{B b:Nat}{X:List Nat}{j:Jn}(h:JAt w B (b::X) j)(hB:B∈X):JAt w B X j:=by
 obtain⟨_,c,a,Z,J,U,D,M,I,ne,L,Y,O,N,i,F,C,A,S,e,R,d,Q,K,E⟩:=h;exact⟨hB,c,a,Z,J,U,D,M,I,ne,L,Y,O,N,i,F,C,A,S,e,R,d,Q,K,E.ext (Ext.lessL b)⟩
theorem JAt.set{w:World}{B b:Nat}{X:List Nat}{j:Jn}(h:JAt w B X j)(hb:b∈X)(hn:b≠B)(k:Nat)(u:Value):JAt (w.setCell ⟨b,k,none⟩ u) B X j:=by
 obtain⟨U,d,c,a,J,Y,D,M,I,ne,L,Z,O,N,l,F,C,A,S,i,R,e,Q,K,E⟩:=h;exact⟨U,d,c,a,J,Y,D,M,I,ne,L,Z,O,N,l,F,C,A,S,i,R,e,Q,(Below.heap_setCell _ _ _ _ (Ne.symm hn)).trans K,E.ext (Ext.setL hb k u)⟩
theorem zak{w:World}{B:Nat}{cs:Array Value}{t:TypeId}(h:w.heap[B]?=some (.cells cs t (0,0)))(k:Nat):w.cell? ⟨B,k,none⟩=cs[k]?:=cell_of_row w _ _ _ _ _ h
theorem zfn(B:Nat)(X:List Nat)(j:Jn)(w:World)(h:JAt w B X j):
  Calls prog 72 #[.pointer (some ⟨B,0,none⟩)] w fun e w'=>e=.returned (.bool (decide (0<j.steps.length)))∧w'=w:=by
 obtain⟨_,da,dc,db,dd,na,nc,nb,nd,ne,nf,sa,sc,sb,sd,se,sf,ca,cc,fa,fc,E,D,C,_⟩:=h;have c:=zak C 56;simp only[zbs]at c;have c':w.cell? ⟨B,56,none⟩=some (.slice E j.steps.length D):=c;clear c C;by_cases hs:0<j.steps.length
 ·have A:(0:Int)<(j.steps.length:Int):=by omega
  have e:decide (0<j.steps.length)=true:=by simpa using hs
  rw[e];go_enter func72,ntmps72;go_wp2;go_ret;exact⟨rfl,rfl⟩
 ·have A:¬((0:Int)<(j.steps.length:Int)):=by omega
  have e:decide (0<j.steps.length)=false:=by simpa using hs
  rw[e];go_enter func72,ntmps72;go_wp2;go_ret;exact⟨rfl,rfl⟩
theorem zlx(p:Int)(s:ByteArray)(w:World):
  Calls prog 148 #[.int .i64 p,.string s] w fun e w'=>e=.returned (.agg #[.int .i64 1,.int .i64 p,.string s])∧Below w.heap.size w w':=by
 go_enter func148,ntmps148;go_wp2;exact bodyPost_ret (v:=.agg #[.int .i64 1,.int .i64 p,.string s]) (by simp[results,results148,go_sem]) rfl ⟨rfl,zaa _ _⟩
theorem zjy(w:World):
  Calls prog 149 #[] w fun e w'=>e=.returned (.agg #[.int .i64 2,.int .i64 0,.string ⟨#[]⟩])∧Below w.heap.size w w':=by
 go_enter func149,ntmps149;go_wp2;exact bodyPost_ret (v:=.agg #[.int .i64 2,.int .i64 0,.string ⟨#[]⟩]) (by simp[results,results149,go_sem]) rfl ⟨rfl,zaa _ _⟩
def homeM (l:List (Int×ByteArray)):List St:=l.map fun c=>zbl (25+c.1) c.2
def homeS (l:List (Int×ByteArray)):List St:=homeM l++(if l.length=0 then[] else[zb1])
theorem zcj(l:List (Int×ByteArray)):(homeM l).length=l.length:=by simp[homeM]
theorem zwb{l:List (Int×ByteArray)}{k:Nat}{x:Int×ByteArray}(h:l[k]?=some x):homeM (l.take (k+1))=homeM (l.take k)++[zbl (25+x.1) x.2]:=by
 rw[List.take_add_one,h,homeM,homeM,List.map_append];rfl
theorem zu0(a:Option Addr)(c:Nat)(l:List (Int×ByteArray))(w:World)(h:SegW w a l)(hn:l.length*24≤140737488355328)(hb:∀x∈l,0≤x.1∧x.1≤11):
  Calls prog 147 #[.slice a l.length c] w fun e w'=>∃v',e=.returned v'∧w'.ownsRow w.heap.size 124 3 v' (homeS l).length (cellsSt (homeS l))∧Below w.heap.size w w':=by
 have Y:=zab h;have R:=zab hb;clear h hb;go_enter func147,ntmps147;go_wp2
 go_loopw [3,8] (fun s i wr=>∃k:Nat,k≤l.length∧i=.int .i64 k∧Hid (wr.ownsRow w.heap.size 124 3 s (homeM (l.take k)).length (cellsSt (homeM (l.take k))))∧Hid (Below w.heap.size w wr)) (fun _ i _=>l.length - (intOf i).toNat)
 case atStart=>exact⟨0,Nat.zero_le _,rfl,World.ownsRow_nil _ _ _ _,Below.refl _ _⟩
 case round=>
  obtain⟨k,hk,rfl,B,D⟩:=hrel;by_cases hlt:k<l.length
  ·obtain⟨b2,A1,rfl,hb,U⟩:=Y.o.resolve_left (by intro e;rw[e]at hlt;simp at hlt);obtain⟨x,M⟩:∃x,x=l.getD k (0,ByteArray.empty):=⟨_,rfl⟩;obtain⟨K,L⟩:=U k hlt;rw[←M]at K L;have O:l[k]?=some x:=by rw[M];exact zcd _ _ _ hlt
   have S:=R.o x (List.mem_of_getElem? O);have Z:=zac D.o hb K;have m:=zac D.o hb L;have d:=zab (zwb O);have b:(homeM (l.take k)).length≤k:=by rw[zcj,List.length_take];omega
   have A0:(k:Int)<(l.length:Int):=by omega
   clear M U K L O;obtain⟨n,s⟩:=x;obtain⟨A3,A2⟩:0≤n∧n≤11:=S;generalize homeM (l.take k)=q at *;go_wp2_with fail;refine(zlx (25+n) s _).mono ?_;rintro e Q ⟨rfl,C⟩;have A:=zab (zae (zae D.o (zaa _ _)) C);have F:=zab (zah (zah B.o (zaa _ _)) C);clear C B D Z m;go_wp2_with (at_builtin;refine zkc rfl _ _ rfl w.heap.size _ q rfl (zah F.o (zaa _ _)) Q.heap.size (zbl (25+n) s) rfl (by simp[go_sem,zbl]) (by simp[go_sem,zbl]) (by simp[go_sem,zbl]) (by omega) (Nat.le_trans A.o.size (by simp)) ?_);intro v' w' E J;have I:Below w.heap.size w w':=(A.o.alloc A.o.size _).grown J (Nat.le_trans A.o.size (by simp)) (fun j hj=>(F.o.lt j hj).1);go_wp2
   go_roundw
   case rel=>exact⟨k+1,by omega,by go_num,by rw[d.o];exact E,I⟩
   case measure=>simp[intOf];omega
  ·have e:k=l.length:=by omega
   subst e;rw[List.take_length]at B;by_cases h0:l.length=0
   ·have N:Hid (homeS l=homeM l):=by rw[Hid,homeS,if_pos h0,List.append_nil]
    have X:¬((0:Int)<(l.length:Int)):=by omega
    go_wp2;go_ret;exact⟨_,rfl,by rw[N.o];exact B.o,D.o⟩
   ·have N:Hid (homeS l=homeM l++[zb1]):=by rw[Hid,homeS,if_neg h0]
    have X:(0:Int)<(l.length:Int):=by omega
    have b:(homeM l).length≤l.length:=by rw[zcj];omega
    generalize homeM l=q at *;go_wp2_with fail;refine(zjy _).mono ?_;rintro e Q ⟨rfl,C⟩;have A:=zab (zae D.o C);have F:=zab (zah B.o C);clear C B D;go_wp2_with (at_builtin;refine zkc rfl _ _ rfl w.heap.size _ q rfl (zah F.o (zaa _ _)) Q.heap.size zb1 rfl (by simp[go_sem,zb1]) (by simp[go_sem,zb1]) (by simp[go_sem,zb1]) (by omega) (Nat.le_trans A.o.size (by simp)) ?_);intro v' w' E J;have I:Below w.heap.size w w':=(A.o.alloc A.o.size _).grown J (Nat.le_trans A.o.size (by simp)) (fun j hj=>(F.o.lt j hj).1);go_wp2;go_ret;exact⟨_,rfl,by rw[N.o];exact E,I⟩
