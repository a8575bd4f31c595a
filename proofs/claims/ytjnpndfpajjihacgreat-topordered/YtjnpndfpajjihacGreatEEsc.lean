/- -/
import Derived.Test.YtjnpndfpajjihacGreatGrTopOrdered13
import Derived.Test.YtjnpndfpajjihacGreatGrTopOrdered4
namespace Go.Proofs.YtjnpndfpajjihacGreat
open Go.Proofs.Tryz
set_option maxRecDepth 100000
set_option maxHeartbeats 40000000
open Go.RowKit
def tagsOf (l:List (Int×ByteArray)):List (Int×Bool):=l.map fun c=>(c.1,isMagic c.2)
def textsOf (l:List (Int×ByteArray)):List ByteArray:=l.map fun c=>escT c.2
theorem zs5{l:List (Int×ByteArray)}{k:Nat}{x:Int×ByteArray}(h:l[k]?=some x):tagsOf (l.take (k+1))=tagsOf (l.take k)++[(x.1,isMagic x.2)]:=by
 rw[List.take_add_one,h,tagsOf,tagsOf,List.map_append];rfl
theorem zql{l:List (Int×ByteArray)}{k:Nat}{x:Int×ByteArray}(h:l[k]?=some x):textsOf (l.take (k+1))=textsOf (l.take k)++[escT x.2]:=by
 rw[List.take_add_one,h,textsOf,textsOf,List.map_append];rfl
def cellsG:List (Int×Bool)→List Value
 |[]=>[]
 |x::r=>.int .i64 x.1:: .bool x.2::cellsG r
theorem zo0(l:List (Int×Bool)):(cellsG l).length=l.length*2:=by
 induction l with
 |nil=>rfl
 |cons x r ih=>simp[cellsG,ih];omega
theorem zo1(l r:List (Int×Bool)):cellsG (l++r)=cellsG l++cellsG r:=by
 induction l with
 |nil=>rfl
 |cons x r ih=>simp[cellsG,ih]
theorem zwm(l:List (Int×Bool)):∀u∈cellsG l,u.oneCell'=true:=by
 induction l with
 |nil=>intro u A;simp[cellsG]at A
 |cons x r ih=>
  intro u A;simp only[cellsG,List.mem_cons]at A;rcases A with rfl|rfl|A
  ·rfl
  ·rfl
  ·exact ih u A
theorem zzk(l:List (Int×Bool))(i:Nat)(h:i<l.length):(cellsG l)[i*2]?=some (.int .i64 (l.getD i (0,false)).1)∧(cellsG l)[i*2+1]?=some (.bool (l.getD i (0,false)).2):=by
 induction l generalizing i with
 |nil=>simp at h
 |cons x r ih=>
  cases i with
  |zero=>exact⟨rfl,rfl⟩
  |succ i=>
   have A:(i+1)*2=i*2+1+1:=by omega
   rw[cellsG,A]
   simpa using ih i (by simpa using h)
theorem SegG.of_owns{w:World}{base n:Nat}{v:Value}{l:List (Int×Bool)}(h:w.ownsRow base 202 2 v n (cellsG l)):∃a c,v=.slice a l.length c∧SegT w a l∧∀b off,a=some ⟨b,off,none⟩→base≤b:=by
 have A:l.length=n:=by have:=h.1;rw[zo0]at this;omega
 subst A;rcases h.2 with⟨rfl,h0⟩|⟨g,cap,cur,rfl,hb,hg,rest⟩
 ·exact⟨none,0,by rw[h0],.inl (List.eq_nil_of_length_eq_zero h0),fun _ _ h=>by cases h⟩
 ·refine⟨_,cap,rfl,.inr ⟨g,0,rfl,(Array.getElem?_eq_some_iff.1 hg).1,fun i hi=>?_⟩,fun _ _ h=>by cases h;exact hb⟩;have e:=zzk l i hi;rw[Nat.zero_add,h.cellAt (i*2) (by omega),h.cellAt (i*2+1) (by omega)];exact e
theorem z59:(prog.info? 202).map (fun i=>(i.zero,i.size,i.bytes))=some (some (.agg #[.int .i64 0,.bool false]),2,16):=by kernel_rfl
def z50 (w:World)(base:Nat)(v:Value)(l:List (Int×Bool)):Prop:=w.ownsRow base 202 2 v l.length (cellsG l)
theorem zs6{w:World}{ops:Array Oper}{rest:List Oper}{o:Oper}{a:Act}{Q:Exit→Act→World→Prop}(hgd:o.guard=none)(s x:Operand)
  (ho:o.op=.call {callee:=.builtin .append,args:=#[s,x],argTypes:=#[117,117]})
  (base:Nat) (v:Value) (l:List (Int×Bool)) (hs:a.eval s=v) (hown:w.ownsRow base 202 2 v l.length (cellsG l)) (b:Nat) (y:Int×Bool) (hx:a.eval x=.slice (some ⟨b,0,none⟩) 1 1)
  (h0:w.cell? ⟨b,0,none⟩=some (.int .i64 y.1)) (h1:w.cell? ⟨b,1,none⟩=some (.bool y.2)) (h63:l.length≤1000) (hbase:base≤w.heap.size)
  (h:∀v' w',z50 w' base v' (l++[y])→w.grownBy w' v.ownBlock→wpList prog ops Q rest (a.put o.dst v') w'):wpList prog ops Q (o::rest) a w:=by
 obtain⟨E,I,C,D,B⟩:=info_parts z59;refine wpList_append_own w hgd s x 117 ho base 202 E (.agg #[.int .i64 0,.bool false]) 2 16 underlying117 I C D B rfl (by decide) v l.length (cellsG l) hs hown ⟨b,0,none⟩ 1 1 (cellsG [y]) hx rfl ?_ (zwm _) (by unfold maxLen;omega) (by omega) hbase ?_
 ·intro j u A;rw[Addr.add_lit,Nat.zero_add]
  match j,A with
  |0,A=>simp[cellsG]at A;subst A;exact h0
  |1,A=>simp[cellsG]at A;subst A;exact h1
  |j+2,A=>simp[cellsG]at A
 ·intro v' w' J F _;refine h v' w' ?_ F;rw[z50,zo1,List.length_append];exact J
def cellsT1s (l:List ByteArray):List Value:=l.map Value.string
theorem zqm(l:List ByteArray):∀u∈cellsT1s l,u.oneCell'=true:=by
 intro u A;obtain⟨s,_,rfl⟩:=List.mem_map.1 A;rfl
theorem z5k:(prog.info? 9).map (fun i=>(i.zero,i.size,i.bytes))=some (some (.string ⟨#[]⟩),1,16):=by kernel_rfl
def z3u (w:World)(base:Nat)(v:Value)(l:List ByteArray):Prop:=w.ownsRow base 9 1 v l.length (cellsT1s l)
theorem SegX.of_owns{w:World}{base:Nat}{v:Value}{l:List ByteArray}(h:z3u w base v l):∃a c,v=.slice a l.length c∧SegS w a l∧∀b off,a=some ⟨b,off,none⟩→base≤b:=by
 rcases h.2 with⟨rfl,h0⟩|⟨g,cap,cur,rfl,hb,hg,rest⟩
 ·exact⟨none,0,by rw[h0],.inl (List.eq_nil_of_length_eq_zero h0),fun _ _ h=>by cases h⟩
 ·refine⟨_,cap,rfl,.inr ⟨g,0,rfl,(Array.getElem?_eq_some_iff.1 hg).1,fun i hi=>?_⟩,fun _ _ h=>by cases h;exact hb⟩;rw[Nat.zero_add,World.ownsRow.cellAt h i (by omega),cellsT1s,List.getElem?_map,zcd l i ByteArray.empty hi];rfl
theorem zs7{w:World}{ops:Array Oper}{rest:List Oper}{o:Oper}{a:Act}{Q:Exit→Act→World→Prop}(hgd:o.guard=none)(s x:Operand)
  (ho:o.op=.call {callee:=.builtin .append,args:=#[s,x],argTypes:=#[43,43]})
  (base:Nat) (v:Value) (l:List ByteArray) (hs:a.eval s=v) (hown:z3u w base v l) (b:Nat) (y:ByteArray) (hx:a.eval x=.slice (some ⟨b,0,none⟩) 1 1)
  (h0:w.cell? ⟨b,0,none⟩=some (.string y)) (h63:l.length≤1000) (hbase:base≤w.heap.size)
  (h:∀v' w',z3u w' base v' (l++[y])→w.grownBy w' v.ownBlock→wpList prog ops Q rest (a.put o.dst v') w'):wpList prog ops Q (o::rest) a w:=by
 obtain⟨E,I,C,D,B⟩:=info_parts z5k;refine wpList_append_own w hgd s x 43 ho base 9 E (.string ⟨#[]⟩) 1 16 underlying43 I C D B rfl (by decide) v l.length (cellsT1s l) hs hown ⟨b,0,none⟩ 1 1 (cellsT1s [y]) hx rfl ?_ (zqm _) (by unfold maxLen;omega) (by omega) hbase ?_
 ·intro j u A;rw[Addr.add_lit,Nat.zero_add]
  match j,A with
  |0,A=>simp[cellsT1s]at A;subst A;exact h0
  |j+1,A=>simp[cellsT1s]at A
 ·intro v' w' J F _;refine h v' w' ?_ F;rw[z3u,List.length_append,cellsT1s,List.map_append];exact J
theorem zzl{w:World}{b1 b2 s1 s2 n1 n2:Nat}{e1 e2:TypeId}{v1 v2:Value}{x1 x2:List Value}(h1:w.ownsRow b1 e1 s1 v1 n1 x1)(h2:w.ownsRow b2 e2 s2 v2 n2 x2)(hne:e1≠e2):v1.ownBlock=none∨v1.ownBlock≠v2.ownBlock:=by
 rcases h1.2 with⟨rfl,_⟩|⟨g,cap,cur,rfl,_,hg,_⟩
 ·exact .inl rfl
 ·refine .inr fun e=>?_;rcases h2.2 with⟨rfl,_⟩|⟨g2,cap2,cur2,rfl,_,hg2,_⟩
  ·simp[Value.ownBlock]at e
  ·simp[Value.ownBlock]at e;subst e;rw[hg]at hg2;simp only[Option.some.injEq,Obj.cells.injEq]at hg2;exact hne hg2.2.1
theorem zm1(a:Option Addr)(c:Nat)(l:List (Int×ByteArray))(w:World)(h:SegW w a l)(hn:l.length≤500)(hb:∀x∈l,x.2.size≤maxLen):
  Calls prog 169 #[.slice a l.length c] w fun e w'=>∃v1 v2,e=.returned (.tuple #[v1,v2])∧z50 w' w.heap.size v1 (tagsOf l)∧z3u w' w.heap.size v2 (textsOf l)∧Below w.heap.size w w':=by
 have q:=zab h;have U:=zab hb;clear h hb;go_enter func169,ntmps169;go_wp2
 go_loopw [2,3,10] (fun g s i wr=>∃k:Nat,k≤l.length∧i=.int .i64 k∧Hid (z50 wr w.heap.size g (tagsOf (l.take k)))∧Hid (z3u wr w.heap.size s (textsOf (l.take k)))∧Hid (Below w.heap.size w wr)) (fun _ _ i _=>l.length - (intOf i).toNat)
 case atStart=>exact⟨0,Nat.zero_le _,rfl,World.ownsRow_nil _ _ _ _,World.ownsRow_nil _ _ _ _,Below.refl _ _⟩
 case round=>
  obtain⟨k,hk,rfl,D,L,A⟩:=hrel;by_cases hlt:k<l.length
  ·obtain⟨b2,A1,rfl,hb,b⟩:=q.o.resolve_left (by intro e;rw[e]at hlt;simp at hlt);obtain⟨x,S⟩:∃x,x=l.getD k (0,ByteArray.empty):=⟨_,rfl⟩;obtain⟨F,I⟩:=b k hlt;rw[←S]at F I;have N:l[k]?=some x:=by rw[S];exact zcd _ _ _ hlt
   have X:=U.o x (List.mem_of_getElem? N);have r:=zac A.o hb F;have y:=zac A.o hb I;have m:=zab (zs5 N);have p:=zab (zql N);have A3:(tagsOf (l.take k)).length≤500:=by rw[tagsOf,List.length_map,List.length_take];omega
   have A2:(textsOf (l.take k)).length≤500:=by rw[textsOf,List.length_map,List.length_take];omega
   have A0:(k:Int)<(l.length:Int):=by omega
   clear S b F I N;obtain⟨n,s⟩:=x;generalize tagsOf (l.take k)=q1 at *;generalize textsOf (l.take k)=q2 at *;have R:=zab (zae A.o (zaa wr (.cells #[.int .i64 n,.string s] 84)));go_wp2_with fail;refine(zl0 s _ X).mono ?_;rintro e w3 ⟨rfl,rfl⟩;generalize escT s=es at *;generalize isMagic s=im at *;go_wp2_with (at_builtin;refine zs6 rfl _ _ rfl w.heap.size _ q1 rfl (zah (zah D.o (zaa _ _)) (zaa _ _)) (wr.heap.size+1) (n,im) rfl (by simp[go_sem]) (by simp[go_sem]) (by omega) (Nat.le_trans A.o.size (by simp;omega)) ?_);intro v1 Z C E;have Q:Below w.heap.size w Z:=(R.o.alloc R.o.size _).grown E (Nat.le_trans A.o.size (by simp;omega)) (fun j hj=>(World.ownsRow.lt D.o j hj).1);have J:=zab (World.ownsRow.kept (zah (zah L.o (zaa _ _)) (zaa _ _)) E (zzl L.o D.o (by decide)));have O:=zab C;have B:=zab Q;clear C E Q D L A R r y;go_wp2_with (at_builtin;refine zs7 rfl _ _ rfl w.heap.size _ q2 rfl (zah J.o (zaa _ _)) Z.heap.size es rfl (by simp[go_sem]) (by omega) (Nat.le_trans B.o.size (by simp)) ?_);intro v2 u M K;have Y:Below w.heap.size w u:=(B.o.alloc B.o.size _).grown K (Nat.le_trans B.o.size (by simp)) (fun j hj=>(World.ownsRow.lt J.o j hj).1);have d:=zab (World.ownsRow.kept (zah O.o (zaa _ _)) K (zzl O.o J.o (by decide)));clear K;go_wp2
   go_roundw
   case rel=>exact⟨k+1,by omega,by go_num,by rw[m.o];exact d.o,by rw[p.o];exact M,Y⟩
   case measure=>simp[intOf];omega
  ·have e:k=l.length:=by omega
   subst e;rw[List.take_length]at D L;go_wp2
   go_ret2
   exact⟨_,_,rfl,D.o,L.o,A.o⟩
