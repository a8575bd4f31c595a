/- -/
import Derived.Test.YtjnpndfpajjihacGreatGrTopOrdered18
import Derived.Lib.AppendZerosOnto
namespace Go.Proofs.YtjnpndfpajjihacGreat
open Go.Proofs.Tryz
set_option maxRecDepth 100000
set_option maxHeartbeats 40000000
open Go.RowKit
structure RZ where
 a:Option Addr
 c:Nat
 a':Option Addr
 c':Nat
 r:Option Addr
 d:Nat
 t:Tx
def RZ.cells (x:RZ):List Value:=[.int .i64 x.t.seq,.slice x.a x.t.info.length x.c,.slice x.a' x.t.data.length x.c',.slice x.r x.t.rev.length x.d,.bool x.t.h0.on,.int .i64 x.t.h0.left,.bool x.t.h1.on,.int .i64 x.t.h1.left,.bool x.t.h2.on,.int .i64 x.t.h2.left]
def RZ.val (x:RZ):Value:=.agg #[.int .i64 x.t.seq,.slice x.a x.t.info.length x.c,.slice x.a' x.t.data.length x.c',.slice x.r x.t.rev.length x.d,.bool x.t.h0.on,.int .i64 x.t.h0.left,.bool x.t.h1.on,.int .i64 x.t.h1.left,.bool x.t.h2.on,.int .i64 x.t.h2.left]
def cellsZ (l:List RZ):List Value:=l.flatMap RZ.cells
theorem zgi(l:List RZ):(cellsZ l).length=l.length*10:=by
 induction l with
 |nil=>rfl
 |cons x r ih=>
  show(x.cells++cellsZ r).length=_;rw[List.length_append,ih];simp[RZ.cells];omega
theorem zpk(l r:List RZ):cellsZ (l++r)=cellsZ l++cellsZ r:=List.flatMap_append
theorem zxs(l:List RZ):∀u∈cellsZ l,u.oneCell'=true:=by
 intro u B;obtain⟨x,_,A⟩:=List.mem_flatMap.1 B;simp only[RZ.cells,List.mem_cons,List.not_mem_nil,or_false]at A;rcases A with rfl|rfl|rfl|rfl|rfl|rfl|rfl|rfl|rfl|rfl<;>rfl
theorem zrw(l:List RZ)(i:Nat)(x:RZ)(h:l[i]?=some x)(j:Nat)(hj:j<10):(cellsZ l)[i*10+j]?=x.cells[j]?:=by
 induction l generalizing i with
 |nil=>simp at h
 |cons y r ih=>
  have e:cellsZ (y::r)=y.cells++cellsZ r:=rfl;have A:y.cells.length=10:=rfl
  cases i with
  |zero=>
   simp at h;subst h;rw[e,List.getElem?_append_left (by omega),Nat.zero_mul,Nat.zero_add]
  |succ i=>
   rw[e,List.getElem?_append_right (by omega),A];have B:(i+1)*10+j - 10=i*10+j:=by omega
   rw[B];exact ih i (by simpa using h)
def SegZ (w:World)(a:Option Addr)(l:List RZ):Prop:=l=[]∨∃b off,a=some ⟨b,off,none⟩∧b<w.heap.size∧∀j u,(cellsZ l)[j]?=some u→w.cell? ⟨b,off+j,none⟩=some u
theorem SegZ.below{w w':World}{a:Option Addr}{l:List RZ}(h:SegZ w a l)(hb:Below w.heap.size w w'):SegZ w' a l:=by
 rcases h with h|⟨b,off,e,hlt,hc⟩
 ·exact .inl h
 ·exact .inr ⟨b,off,e,Nat.lt_of_lt_of_le hlt hb.size,fun j u hj=>zac hb hlt (hc j u hj)⟩
theorem SegTx.rz_list{w:World}{b off:Nat}:∀(l:List Tx),(∀i,i<l.length→TxAt w b (off+i*10) (l.getD i txz))→∃q:List RZ,q.map (·.t)=l∧(∀x∈q,IsTx w x.val x.t)∧∀i x,q[i]?=some x→∀j u,x.cells[j]?=some u→w.cell? ⟨b,off+i*10+j,none⟩=some u:=by
 intro l
 induction l generalizing off with
 |nil=>intro _;exact⟨[],rfl,(fun x hx=>by cases hx),(fun i x hx=>by simp at hx)⟩
 |cons t l ih=>
  intro h
  obtain⟨q,R,O,Q⟩:=ih (off:=off+10) (fun i hi=>by
   have:=h (i+1) (by simp;omega);rw[show off+(i+1)*10=off+10+i*10 by omega]at this
   simpa using this)
  obtain⟨a,c,U,S,r,d,⟨C,B,J,L,K,N,M,I,D,F⟩,E⟩:=h 0 (by simp);simp only[List.getD_cons_zero,Nat.zero_mul,Nat.add_zero]at C B J L K N M I D F E;refine⟨⟨a,c,U,S,r,d,t⟩::q,by simp[R],fun x hx=>?_,fun i x hx j u hj=>?_⟩
  ·rcases List.mem_cons.1 hx with rfl|hx
   ·exact E
   ·exact O x hx
  ·cases i with
   |zero=>
    simp only[List.getElem?_cons_zero,Option.some.injEq]at hx;subst hx;rw[Nat.zero_mul,Nat.add_zero];have A:j<10:=(List.getElem?_eq_some_iff.1 hj).1
    match j,A with
    |0,_=>cases hj;exact C
    |1,_=>cases hj;exact B
    |2,_=>cases hj;exact J
    |3,_=>cases hj;exact L
    |4,_=>cases hj;exact K
    |5,_=>cases hj;exact N
    |6,_=>cases hj;exact M
    |7,_=>cases hj;exact I
    |8,_=>cases hj;exact D
    |9,_=>cases hj;exact F
   |succ i=>
    have:=Q i x (by simpa using hx) j u hj;rw[show off+(i+1)*10+j=off+10+i*10+j by omega];exact this
theorem SegTx.rz{w:World}{a:Option Addr}{l:List Tx}(h:SegTx w a l):∃q:List RZ,q.map (·.t)=l∧SegZ w a q∧∀x∈q,IsTx w x.val x.t:=by
 rcases h with rfl|⟨b,off,rfl,hlt,hc⟩
 ·exact⟨[],rfl,.inl rfl,fun x A=>by cases A⟩
 ·obtain⟨q,C,D,E⟩:=SegTx.rz_list l hc;refine⟨q,C,.inr ⟨b,off,rfl,hlt,fun j u hj=>?_⟩,D⟩;have B:=(List.getElem?_eq_some_iff.1 hj).1;rw[zgi]at B;obtain⟨x,A⟩:∃x,q[j/10]?=some x:=⟨_,List.getElem?_eq_getElem (by omega)⟩;have e:=zrw q (j/10) x A (j%10) (by omega);rw[show j/10*10+j%10=j by omega,hj]at e;have:=E _ x A (j%10) u e.symm;rw[show off+j=off+j/10*10+j%10 by omega];exact this
theorem SegTx.of_rz{w:World}{base n:Nat}{v:Value}{q:List RZ}(h:w.ownsRow base 40 10 v n (cellsZ q))(hq:∀x∈q,IsTx w x.val x.t):∃a c,v=.slice a q.length c∧SegTx w a (q.map (·.t))∧∀b off,a=some ⟨b,off,none⟩→base≤b:=by
 have C:q.length=n:=by have:=h.1;rw[zgi]at this;omega
 subst C;rcases h.2 with⟨rfl,h0⟩|⟨g,cap,cur,rfl,hb,hg,rest⟩
 ·exact⟨none,0,by rw[h0],.inl (by rw[List.eq_nil_of_length_eq_zero h0];rfl),fun _ _ h=>by cases h⟩
 ·refine⟨_,cap,rfl,.inr ⟨g,0,rfl,(Array.getElem?_eq_some_iff.1 hg).1,fun i hi=>?_⟩,fun _ _ h=>by cases h;exact hb⟩;rw[List.length_map]at hi;obtain⟨x,B⟩:∃x,q[i]?=some x:=⟨_,List.getElem?_eq_getElem hi⟩;have ex:(q.map (·.t)).getD i txz=x.t:=by rw[List.getD,List.getElem?_map,B];rfl
  rw[ex]
  have cell:∀j,j<10→w.cell? ⟨g,0+i*10+j,none⟩=x.cells[j]?:=by
   intro j A;rw[Nat.zero_add,h.cellAt (i*10+j) (by omega)];exact zrw q i x B j A
  exact⟨x.a,x.c,x.a',x.c',x.r,x.d,⟨cell 0 (by decide),cell 1 (by decide),cell 2 (by decide),cell 3 (by decide),cell 4 (by decide),cell 5 (by decide),cell 6 (by decide),cell 7 (by decide),cell 8 (by decide),cell 9 (by decide)⟩,hq x (List.mem_of_getElem? B)⟩
theorem z0j(n:Nat)(w:World)(hn:n≤1000):
  Calls prog 187 #[.slice none 0 0,.int .i64 n] w fun e w'=>∃v',e=.returned v'∧w'.ownsRow w.heap.size 40 10 v' 0 []∧Below w.heap.size w w':=by
 obtain⟨I,N,J,K,D⟩:=info_parts z2b;rcases Nat.eq_zero_or_pos n with rfl|hpos
 ·go_enter func187,ntmps187;go_wp2;go_ret;exact⟨_,rfl,World.ownsRow_nil _ _ _ _,Below.refl _ _⟩
 ·obtain⟨G,C⟩:∃G,G=grownCap w n 0 40:=⟨_,rfl⟩;have A0:n≤G:=by rw[C];exact grownCap_ge w _ _ _
  have E:G≤maxLen:=by rw[C];exact grownCap_le_maxLen w n 0 _ (by unfold maxLen;omega)
  obtain⟨A,B⟩:∃A,A=#[]++Builtin.zeroCells (.agg #[.int .i64 0,.slice none 0 0,.slice none 0 0,.slice none 0 0,.bool false,.int .i64 0,.bool false,.int .i64 0,.bool false,.int .i64 0]:Value).cells n++Builtin.zeroCells (.agg #[.int .i64 0,.slice none 0 0,.slice none 0 0,.slice none 0 0,.bool false,.int .i64 0,.bool false,.int .i64 0,.bool false,.int .i64 0]:Value).cells (G - n):=⟨_,rfl⟩
  have F:A.size=G*10:=by
   rw[B,Array.size_append,Array.size_append,size_zeroCells,size_zeroCells];show 0+n*10+(G - n)*10=G*10;omega
  have L:∀ty,(Builtin.append_ #[88,3] ty #[.slice none 0 0,.int .i64 (n:Int)]).run prog w=.ok (.slice (some ⟨w.heap.size,0,none⟩) n G) (w.drew.alloc (.cells A 40)):=fun ty=>by
   have h:=Lib.run_append_grow_zeros (P:=prog) w 88 3 ty 40 I (.agg #[.int .i64 0,.slice none 0 0,.slice none 0 0,.slice none 0 0,.bool false,.int .i64 0,.bool false,.int .i64 0,.bool false,.int .i64 0]) .i64 .i64 underlying88 underlying3 N J none 0 0 [] (run_firstCells_none w.drew I.size 0 0 0) n hpos (by rw[K];decide) (by omega) (by omega) (by rw[D];omega) (by rw[Nat.zero_add,D];exact growslice_fits (by omega) (by omega));rw[Nat.zero_add,←C]at h;rw[h,B]
  have M:Hid ((w.drew.alloc (.cells A 40)).ownsRow w.heap.size 40 10 (.slice (some ⟨w.heap.size,0,none⟩) 0 G) 0 []):=World.ownsRow_made w.drew A G (Nat.le_refl _) E F;clear C B F;unfold maxLen at E;have h1:¬((n:Int)<0):=by omega
  have h2:(n:Int)>0:=by omega
  go_enter func187,ntmps187;go_wp2_with (at_builtin;refine Lib.wpList_append_run _ rfl _ _ _ _ rfl _ _ rfl rfl _ _ (L _) ?_);go_ret;exact⟨_,rfl,M.o,(Below.refl _ _).drew.alloc (by simp) _⟩
theorem zmm(w:World)(base:Nat)(ty:TypeId)(v:Value)(n c:Nat)(xs:List Value)(h:w.ownsRow base 40 10 v n xs):
  (Builtin.append_ #[88,88] ty #[v,.slice none 0 c]).run prog w=.ok v w:=by
 obtain⟨B,A,A0,A2,A1⟩:=info_parts z2b;rcases h.2 with⟨rfl,rfl⟩|⟨g,cap,cur,rfl,hb,hg,hnc,hcm,hrest⟩
 ·exact zep w _ _ _ B c underlying88 A
 ·simp[Builtin.append_,run_underlying underlying88,sizeOf,typeInfo,A,Builtin.lenOf,Builtin.firstCells,hnc,storeCells]
theorem ztz(w W:World)(base:Nat){ops:Array Oper}{rest:List Oper}{o:Oper}{a:Act}{Q:Exit→Act→World→Prop}(hgd:o.guard=none)(s x:Operand)
  (ho:o.op=.call {callee:=.builtin .append,args:=#[s,x],argTypes:=#[88,88]})
  (v:Value) (n:Nat) (xs:List Value) (hs:a.eval s=v) (hown:w.ownsRow base 40 10 v n xs) (ao:Option Addr) (c:Nat) (l:List RZ) (hx:a.eval x=.slice ao l.length c) (hS:SegZ w ao l)
  (hn:n+l.length≤1000) (hbase:base≤w.heap.size) (hB:Below base W w)
  (h:∀v' w',Hid (w'.ownsRow base 40 10 v' (n+l.length) (xs++cellsZ l))→Hid (Below base W w')→wpList prog ops Q rest (a.put o.dst v') w'):wpList prog ops Q (o::rest) a w:=by
 obtain⟨I,J,E,F,D⟩:=info_parts z2b
 cases ao with
 |none=>
  have K:l=[]:=by rcases hS with h|⟨b,off,he,_⟩;exact h;cases he
  subst K;refine Lib.wpList_append_run w hgd s x _ _ ho _ _ hs hx v w (zmm w base o.type v n c xs hown) (h v w ?_ hB);show w.ownsRow base 40 10 v (n+0) (xs++[]);rw[List.append_nil];exact hown
 |some ad=>
  refine wpList_append_own w hgd s x 88 ho base 40 I (.agg #[.int .i64 0,.slice none 0 0,.slice none 0 0,.slice none 0 0,.bool false,.int .i64 0,.bool false,.int .i64 0,.bool false,.int .i64 0]) 10 128 underlying88 J E F D rfl (by decide) v n xs hs hown ad l.length c (cellsZ l) hx (zgi l) ?_ (zxs l) (by unfold maxLen;omega) (by omega) hbase ?_
  ·intro j u C;rcases hS with h|⟨b,off,he,hlt,hc⟩
   ·rw[h]at C;simp[cellsZ]at C
   ·cases he;rw[Addr.add_lit];exact hc j u C
  ·intro v' w' B A _;exact h v' w' B (hB.grown A hbase (fun k hk=>(hown.lt k hk).1))
def flatZ (L:List (Option Addr×Nat×List RZ)):List RZ:=(L.map (·.2.2)).flatten
theorem zn8{L:List (Option Addr×Nat×List RZ)}{k:Nat}{x:Option Addr×Nat×List RZ}(h:L[k]?=some x):flatZ (L.take (k+1))=flatZ (L.take k)++x.2.2:=by
 rw[List.take_add_one,h];simp[flatZ]
theorem zlk(L:List (Option Addr×Nat×List RZ))(k:Nat):(flatZ (L.take k)).length≤(flatZ L).length:=by
 have:flatZ L=flatZ (L.take k)++flatZ (L.drop k):=by rw[flatZ,flatZ,flatZ,←List.flatten_append,←List.map_append,List.take_append_drop]
 rw[this,List.length_append];omega
def z5r (w:World)(B:Nat)(L:List (Option Addr×Nat×List RZ)):Prop:=
 B<w.heap.size∧∀i x,L[i]?=some x→w.cell? ⟨B,i,none⟩=some (.slice x.1 x.2.2.length x.2.1)∧SegZ w x.1 x.2.2
theorem zt0(B m c:Nat)(L:List (Option Addr×Nat×List RZ))(w:World)(hm:L.length=m)(hm2:m≤1000)(h:z5r w B L)(hn:(flatZ L).length≤1000):
  Calls prog 141 #[.slice (some ⟨B,0,none⟩) m c] w fun e w'=>∃v',e=.returned v'∧w'.ownsRow w.heap.size 40 10 v' (flatZ L).length (cellsZ (flatZ L))∧Below w.heap.size w w':=by
 subst hm;have Q:=zab h;clear h;go_enter func141,ntmps141;go_wp2
 go_loop [3,11] (fun s i=>∃k:Nat,k≤L.length∧i=.int .i64 k∧s=.int .i64 ((flatZ (L.take k)).length:Int)) (fun _ i=>L.length - (intOf i).toNat)
 case atStart=>exact⟨0,Nat.zero_le _,rfl,rfl⟩
 case round=>
  obtain⟨k,l,rfl,rfl⟩:=hrel;have J:=zlk L k;by_cases hlt:k<L.length
  ·obtain⟨x,E⟩:∃x,L[k]?=some x:=⟨_,List.getElem?_eq_getElem hlt⟩;have K:=(Q.o.2 k x E).1;have F:Hid ((flatZ (L.take (k+1))).length=(flatZ (L.take k)).length+x.2.2.length):=by rw[Hid,zn8 E,List.length_append]
   have A:=zlk L (k+1);rw[F.o]at A;have U:(k:Int)<(L.length:Int):=by omega
   clear E;generalize (flatZ (L.take k)).length=q at *;obtain⟨X,d,j⟩:=x;dsimp only at A K F;go_wp2
   go_round
   case rel=>exact⟨k+1,by omega,by go_num,by rw[F.o];go_num⟩
   case measure=>simp[intOf];omega
  ·have e:k=L.length:=by omega
   subst e;rw[List.take_length];clear J;obtain⟨N,M⟩:∃N,N=(flatZ L).length:=⟨_,rfl⟩;rw[←M]at hn;rw[←M];have Y:=zab M;clear M;go_wp2_with fail;refine(z0j N w hn).mono ?_;rintro e w1 ⟨v1,rfl,I,R⟩;have b:=zab I;have Z:=zab R;clear I R;go_wp2
   go_loopw [6,27] (fun s i wr=>∃(k:Nat),k≤L.length∧i=.int .i64 k∧Hid (wr.ownsRow w.heap.size 40 10 s (flatZ (L.take k)).length (cellsZ (flatZ (L.take k))))∧Hid (Below w.heap.size w wr)) (fun _ i _=>L.length - (intOf i).toNat)
   case atStart=>exact⟨0,Nat.zero_le _,rfl,b,Z⟩
   case round=>
    obtain⟨k,l,rfl,D,C⟩:=hrel;have J:=zlk L k;rw[←Y.o]at J;by_cases hlt:k<L.length
    ·obtain⟨x,E⟩:∃x,L[k]?=some x:=⟨_,List.getElem?_eq_getElem hlt⟩;have K:=zac C.o Q.o.1 (Q.o.2 k x E).1;have S:Hid (SegZ wr x.1 x.2.2):=(Q.o.2 k x E).2.below C.o;have F:Hid (flatZ (L.take (k+1))=flatZ (L.take k)++x.2.2):=zn8 E;have A:=zlk L (k+1);rw[F.o,List.length_append,←Y.o]at A;have U:(k:Int)<(L.length:Int):=by omega
     clear E;generalize flatZ (L.take k)=q at *;obtain⟨X,d,j⟩:=x;dsimp only at A K F S;go_wp2_with (at_builtin;refine ztz _ w w.heap.size rfl _ _ rfl _ q.length (cellsZ q) rfl D.o X d j rfl S.o (by omega) C.o.size C.o ?_);intro v' w' O a;clear D C S K;go_wp2
     go_roundw
     case rel=>exact⟨k+1,by omega,by go_num,by rw[F.o,List.length_append,zpk];exact O,a⟩
     case measure=>simp[intOf];omega
    ·have e:k=L.length:=by omega
     subst e;rw[List.take_length]at D;clear J;go_wp2;go_ret;exact⟨_,rfl,D.o,C.o⟩
