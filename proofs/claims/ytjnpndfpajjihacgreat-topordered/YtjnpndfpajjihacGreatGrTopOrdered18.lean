/-
  
-/
import Derived.Test.YtjnpndfpajjihacGreatGrTopOrdered3
import Derived.Deep.DeepAppendWide
namespace Go.Proofs.YtjnpndfpajjihacGreat
open Go.RowKit
structure RX where
 m:Value
 d:Value
 r:Value
 t:Tx
def cellsX:List RX→List Value
 |[]=>[]
 |x::q=>.int .i64 x.t.seq::x.m::x.d::x.r:: .bool x.t.h0.on:: .int .i64 x.t.h0.left:: .bool x.t.h1.on:: .int .i64 x.t.h1.left:: .bool x.t.h2.on:: .int .i64 x.t.h2.left::cellsX q
theorem zop(q:List RX):(cellsX q).length=q.length*10:=by
 induction q with
 |nil=>rfl
 |cons x r ih=>simp[cellsX,ih];omega
theorem zoq(q r:List RX):cellsX (q++r)=cellsX q++cellsX r:=by
 induction q with
 |nil=>rfl
 |cons x r ih=>simp[cellsX,ih]
theorem zyu(q:List RX)(i:Nat)(x:RX)(h:q[i]?=some x)(j:Nat)(u:Value)(hj:(cellsX [x])[j]?=some u):(cellsX q)[i*10+j]?=some u:=by
 have A0:j<10:=by have:=(List.getElem?_eq_some_iff.1 hj).1;simpa[cellsX] using this
 induction q generalizing i with
 |nil=>simp at h
 |cons y r ih=>
  have e:cellsX (y::r)=cellsX [y]++cellsX r:=rfl
  cases i with
  |zero=>
   simp at h;subst h;rw[e,List.getElem?_append_left (by simp[cellsX];omega),Nat.zero_mul,Nat.zero_add];exact hj
  |succ i=>
   rw[e,List.getElem?_append_right (by simp[cellsX];omega)];have A:(i+1)*10+j - (cellsX [y]).length=i*10+j:=by simp[cellsX];omega
   rw[A];exact ih i (by simpa using h)
def OwnR (w:World)(base:Nat)(x:RX):Prop:=
 w.ownsRow base 84 2 x.m x.t.info.length (cellsC x.t.info)∧w.ownsRow base 84 2 x.d x.t.data.length (cellsC x.t.data)∧w.ownsRow base 3 1 x.r x.t.rev.length (cellsI x.t.rev)
theorem OwnR.below{w w':World}{base:Nat}{x:RX}(h:OwnR w base x)(hb:Below w.heap.size w w'):OwnR w' base x:=⟨zah h.1 hb,zah h.2.1 hb,zah h.2.2 hb⟩
theorem zfr{w w':World}{base base2:Nat}{e e2:TypeId}{size size2:Nat}{v v2:Value}{n n2:Nat}{xs xs2:List Value}(h:w.ownsRow base e size v n xs)(h2:w.ownsRow base2 e2 size2 v2 n2 xs2)(hne:e≠e2)(hg:w.grownBy w' v2.ownBlock):w'.ownsRow base e size v n xs:=by
 refine⟨h.1,?_⟩;rcases h.2 with h0|⟨g,cap,cur,hv,hb,hh,r⟩
 ·exact .inl h0
 ·refine .inr ⟨g,cap,cur,hv,hb,?_,r⟩;rw[hg.block g (Array.getElem?_eq_some_iff.1 hh).1 ?_]
  ·exact hh
  ·intro A;rcases h2.2 with⟨rfl,_⟩|⟨g2,cap2,cur2,rfl,_,hh2,_⟩
   ·simp[Value.ownBlock]at A
   ·simp only[Value.ownBlock,Option.some.injEq]at A;subst A;rw[hh]at hh2;simp only[Option.some.injEq,Obj.cells.injEq]at hh2;exact hne hh2.2.1
theorem OwnR.grown{w w':World}{base base2:Nat}{x:RX}{v2:Value}{n2:Nat}{xs2:List Value}(h:OwnR w base x)(h2:w.ownsRow base2 40 10 v2 n2 xs2)(hg:w.grownBy w' v2.ownBlock):OwnR w' base x:=
 ⟨zfr h.1 h2 (by decide) hg,zfr h.2.1 h2 (by decide) hg,zfr h.2.2 h2 (by decide) hg⟩
theorem zor{w:World}{base:Nat}{e:TypeId}{size:Nat}{v:Value}{n:Nat}{xs:List Value}(h:w.ownsRow base e size v n xs):v.oneCell'=true:=by
 rcases h.2 with⟨rfl,_⟩|⟨g,cap,cur,rfl,_⟩<;>rfl
theorem OwnR.one{w:World}{base:Nat}{x:RX}(h:OwnR w base x):∀u∈cellsX [x],u.oneCell'=true:=by
 intro u A;simp only[cellsX,List.mem_cons,List.not_mem_nil,or_false]at A;rcases A with rfl|rfl|rfl|rfl|rfl|rfl|rfl|rfl|rfl|rfl
 ·rfl
 ·exact zor h.1
 ·exact zor h.2.1
 ·exact zor h.2.2
 all_goals rfl
theorem OwnR.tx{w:World}{base:Nat}{x:RX}(h:OwnR w base x):∃a c a' c' r d,x.m=.slice a x.t.info.length c∧x.d=.slice a' x.t.data.length c'∧x.r=.slice r x.t.rev.length d∧SegW w a x.t.info∧SegW w a' x.t.data∧SegI w r x.t.rev∧x.t.info.length≤c∧x.t.data.length≤c'∧x.t.rev.length≤d∧c≤maxLen∧c'≤maxLen∧d≤maxLen:=by
 have cap:∀{e:TypeId} {size n:Nat} {a:Option Addr} {m c:Nat} {D:List Value},w.ownsRow base e size (.slice a m c) n D→m≤c∧c≤maxLen:=by
  intro e size n a m c D h;rcases h.2 with⟨e,_⟩|⟨g,cap,cur,e,_,_,B,A,_⟩
  ·simp only[Value.slice.injEq]at e;unfold maxLen;omega
  ·simp only[Value.slice.injEq]at e;omega
 obtain⟨B,A,C⟩:=h;obtain⟨a,c,F,L,_⟩:=SegC.of_owns B;obtain⟨a',c',E,J,_⟩:=SegC.of_owns A;obtain⟨r,d,I,K,_⟩:=SegI.of_owns C;rw[F]at B;rw[E]at A;rw[I]at C;exact⟨a,c,a',c',r,d,F,E,I,L,J,K,(cap B).1,(cap A).1,(cap C).1,(cap B).2,(cap A).2,(cap C).2⟩
theorem SegTx.of_owns{w:World}{base base2 n:Nat}{v:Value}{q:List RX}(h:w.ownsRow base 40 10 v n (cellsX q))(hq:∀x∈q,OwnR w base2 x):∃a c,v=.slice a (q.map (·.t)).length c∧SegTx w a (q.map (·.t))∧∀b off,a=some ⟨b,off,none⟩→base≤b:=by
 have M:q.length=n:=by have:=h.1;rw[zop]at this;omega
 subst M;rw[List.length_map];rcases h.2 with⟨rfl,h0⟩|⟨g,cap,cur,rfl,hb,hg,rest⟩
 ·exact⟨none,0,by rw[h0],.inl (by rw[List.eq_nil_of_length_eq_zero h0];rfl),fun _ _ h=>by cases h⟩
 ·refine⟨_,cap,rfl,.inr ⟨g,0,rfl,(Array.getElem?_eq_some_iff.1 hg).1,fun i hi=>?_⟩,fun _ _ h=>by cases h;exact hb⟩;rw[List.length_map]at hi;obtain⟨x,A⟩:∃x,q[i]?=some x:=⟨_,List.getElem?_eq_getElem hi⟩;have ex:(q.map (·.t)).getD i txz=x.t:=by rw[List.getD,List.getElem?_map,A];rfl
  rw[ex];have I:=hq x (List.mem_of_getElem? A);obtain⟨a,c,C,B,r,d,L,J,N,F,D,E,n1,n2,n3,k1,k2,k3⟩:=I.tx
  have cell:∀j u,(cellsX [x])[j]?=some u→j<10→w.cell? ⟨g,0+i*10+j,none⟩=some u:=by
   intro j u K A0;rw[Nat.zero_add,h.cellAt (i*10+j) (by omega)];exact zyu q i x A j u K
  refine⟨a,c,C,B,r,d,⟨cell 0 _ rfl (by omega),cell 1 _ ?_ (by omega),cell 2 _ ?_ (by omega),cell 3 _ ?_ (by omega),cell 4 _ rfl (by omega),cell 5 _ rfl (by omega),cell 6 _ rfl (by omega),cell 7 _ rfl (by omega),cell 8 _ rfl (by omega),cell 9 _ rfl (by omega)⟩,⟨a,c,C,B,r,d,rfl,F,D,E,by omega,by omega,by omega⟩⟩
  ·rw[←L];rfl
  ·rw[←J];rfl
  ·rw[←N];rfl
theorem z2b:(Tryz.prog.info? 40).map (fun i=>(i.zero,i.size,i.bytes))=some (some (.agg #[.int .i64 0,.slice none 0 0,.slice none 0 0,.slice none 0 0,.bool false,.int .i64 0,.bool false,.int .i64 0,.bool false,.int .i64 0]),10,128):=by kernel_rfl
theorem z5a{w:World}{b:Nat}{x:RX}(h0:w.cell? ⟨b,0,none⟩=some (.int .i64 x.t.seq))(h1:w.cell? ⟨b,1,none⟩=some x.m)(h2:w.cell? ⟨b,2,none⟩=some x.d)(h3:w.cell? ⟨b,3,none⟩=some x.r)
  (h4:w.cell? ⟨b,4,none⟩=some (.bool x.t.h0.on)) (h5:w.cell? ⟨b,5,none⟩=some (.int .i64 x.t.h0.left)) (h6:w.cell? ⟨b,6,none⟩=some (.bool x.t.h1.on)) (h7:w.cell? ⟨b,7,none⟩=some (.int .i64 x.t.h1.left)) (h8:w.cell? ⟨b,8,none⟩=some (.bool x.t.h2.on)) (h9:w.cell? ⟨b,9,none⟩=some (.int .i64 x.t.h2.left)):
  ∀j u,(cellsX [x])[j]?=some u→w.cell? (Addr.add ⟨b,0,none⟩ j)=some u:=by
 intro j u A;rw[Addr.add_lit,Nat.zero_add]
 match j,A with
 |0,A=>simp[cellsX]at A;subst A;exact h0
 |1,A=>simp[cellsX]at A;subst A;exact h1
 |2,A=>simp[cellsX]at A;subst A;exact h2
 |3,A=>simp[cellsX]at A;subst A;exact h3
 |4,A=>simp[cellsX]at A;subst A;exact h4
 |5,A=>simp[cellsX]at A;subst A;exact h5
 |6,A=>simp[cellsX]at A;subst A;exact h6
 |7,A=>simp[cellsX]at A;subst A;exact h7
 |8,A=>simp[cellsX]at A;subst A;exact h8
 |9,A=>simp[cellsX]at A;subst A;exact h9
 |j+10,A=>simp[cellsX]at A
theorem zsv{w:World}{ops:Array Oper}{rest:List Oper}{o:Oper}{a:Act}{Q:Exit→Act→World→Prop}(hgd:o.guard=none)(s x:Operand)
  (ho:o.op=.call {callee:=.builtin .append,args:=#[s,x],argTypes:=#[88,88]})
  (base:Nat) (v:Value) (q:List RX) (hs:a.eval s=v) (hown:w.ownsRow base 40 10 v q.length (cellsX q)) (b:Nat) (y:RX) (hx:a.eval x=.slice (some ⟨b,0,none⟩) 1 1)
  (hnews:∀j u,(cellsX [y])[j]?=some u→w.cell? (Addr.add ⟨b,0,none⟩ j)=some u) (hone:∀u∈cellsX [y],u.oneCell'=true) (h63:q.length*128≤140737488360000) (hbase:base≤w.heap.size)
  (h:∀v' w',w'.ownsRow base 40 10 v' (q++[y]).length (cellsX (q++[y]))→w.grownBy w' v.ownBlock→wpList Tryz.prog ops Q rest (a.put o.dst v') w'):wpList Tryz.prog ops Q (o::rest) a w:=by
 obtain⟨D,F,B,C,A⟩:=info_parts z2b;refine wpList_append_own_wide w hgd s x 88 ho base 40 D _ 10 128 Tryz.underlying88 F B C A rfl (by decide) v q.length (cellsX q) hs hown ⟨b,0,none⟩ 1 1 (cellsX [y]) hx rfl hnews hone (by unfold maxLen;omega) (by omega) hbase ?_;intro v' w' I E _;refine h v' w' ?_ E;rw[zoq,List.length_append];exact I
theorem zc5{w:World}{base:Nat}{e:TypeId}{size:Nat}{v:Value}{n:Nat}{xs:List Value}(h:w.ownsRow base e size v n xs){p:Addr}(hb:∀k,v.ownBlock=some k→k≠p.block)(u:Value):(w.setCell p u).ownsRow base e size v n xs:=by
 refine⟨h.1,?_⟩;rcases h.2 with h0|⟨g,cap,cur,hv,hg,hh,r⟩
 ·exact .inl h0
 ·refine .inr ⟨g,cap,cur,hv,hg,?_,r⟩;have A:g≠p.block:=hb g (by rw[hv];rfl);rw[World.setCell];simp only[Array.getElem?_modify];rw[if_neg (fun x=>A x.symm)];exact hh
