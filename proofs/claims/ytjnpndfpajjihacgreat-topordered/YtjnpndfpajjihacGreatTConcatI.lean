/- -/
import Derived.Test.YtjnpndfpajjihacGreatGrTopOrdered2
import Derived.Lib.AppendZerosOnto
namespace Go.Proofs.YtjnpndfpajjihacGreat
open Go.Proofs.Tryz
set_option maxRecDepth 100000
set_option maxHeartbeats 40000000
open Go.RowKit
theorem zys(n:Nat)(w:World)(hn:n≤1000):
  Calls prog 135 #[.slice none 0 0,.int .i64 n] w fun e w'=>∃v',e=.returned v'∧w'.ownsRow w.heap.size 3 1 v' 0 []∧Below w.heap.size w w':=by
 obtain⟨I,N,J,K,D⟩:=info_parts zse;rcases Nat.eq_zero_or_pos n with rfl|hpos
 ·go_enter func135,ntmps135;go_wp2;go_ret;exact⟨_,rfl,World.ownsRow_nil _ _ _ _,Below.refl _ _⟩
 ·obtain⟨G,C⟩:∃G,G=grownCap w n 0 3:=⟨_,rfl⟩;have A0:n≤G:=by rw[C];exact grownCap_ge w _ _ _
  have E:G≤maxLen:=by rw[C];exact grownCap_le_maxLen w n 0 _ (by unfold maxLen;omega)
  obtain⟨A,B⟩:∃A,A=#[]++Builtin.zeroCells (.int .i64 0:Value).cells n++Builtin.zeroCells (.int .i64 0:Value).cells (G - n):=⟨_,rfl⟩
  have F:A.size=G*1:=by
   rw[B,Array.size_append,Array.size_append,size_zeroCells,size_zeroCells];show 0+n*1+(G - n)*1=G*1;omega
  have L:∀ty,(Builtin.append_ #[35,3] ty #[.slice none 0 0,.int .i64 (n:Int)]).run prog w=.ok (.slice (some ⟨w.heap.size,0,none⟩) n G) (w.drew.alloc (.cells A 3)):=fun ty=>by
   have h:=Lib.run_append_grow_zeros (P:=prog) w 35 3 ty 3 I (.int .i64 0) .i64 .i64 underlying35 underlying3 N J none 0 0 [] (run_firstCells_none w.drew I.size 0 0 0) n hpos (by rw[K];decide) (by omega) (by omega) (by rw[D];omega) (by rw[Nat.zero_add,D];exact growslice_fits (by omega) (by omega));rw[Nat.zero_add,←C]at h;rw[h,B]
  have M:Hid ((w.drew.alloc (.cells A 3)).ownsRow w.heap.size 3 1 (.slice (some ⟨w.heap.size,0,none⟩) 0 G) 0 []):=World.ownsRow_made w.drew A G (Nat.le_refl _) E F;clear C B F;unfold maxLen at E;have h1:¬((n:Int)<0):=by omega
  have h2:(n:Int)>0:=by omega
  go_enter func135,ntmps135;go_wp2_with (at_builtin;refine Lib.wpList_append_run _ rfl _ _ _ _ rfl _ _ rfl rfl _ _ (L _) ?_);go_ret;exact⟨_,rfl,M.o,(Below.refl _ _).drew.alloc (by simp) _⟩
theorem zgz(w:World)(base:Nat)(ty:TypeId)(v:Value)(n c:Nat)(xs:List Value)(h:w.ownsRow base 3 1 v n xs):
  (Builtin.append_ #[35,35] ty #[v,.slice none 0 c]).run prog w=.ok v w:=by
 obtain⟨B,A,A0,A2,A1⟩:=info_parts zse;rcases h.2 with⟨rfl,rfl⟩|⟨g,cap,cur,rfl,hb,hg,hnc,hcm,hrest⟩
 ·exact zep w _ _ _ B c underlying35 A
 ·simp[Builtin.append_,run_underlying underlying35,sizeOf,typeInfo,A,Builtin.lenOf,Builtin.firstCells,hnc,storeCells]
theorem zsu(w W:World)(base:Nat){ops:Array Oper}{rest:List Oper}{o:Oper}{a:Act}{Q:Exit→Act→World→Prop}(hgd:o.guard=none)(s x:Operand)
  (ho:o.op=.call {callee:=.builtin .append,args:=#[s,x],argTypes:=#[35,35]})
  (v:Value) (n:Nat) (xs:List Value) (hs:a.eval s=v) (hown:w.ownsRow base 3 1 v n xs) (ao:Option Addr) (c:Nat) (l:List Int) (hx:a.eval x=.slice ao l.length c) (hS:SegI w ao l)
  (hn:n+l.length≤1000) (hbase:base≤w.heap.size) (hB:Below base W w)
  (h:∀v' w',Hid (w'.ownsRow base 3 1 v' (n+l.length) (xs++cellsI l))→Hid (Below base W w')→wpList prog ops Q rest (a.put o.dst v') w'):wpList prog ops Q (o::rest) a w:=by
 obtain⟨I,J,E,F,D⟩:=info_parts zse
 cases ao with
 |none=>
  have K:l=[]:=by rcases hS with h|⟨b,off,he,_⟩;exact h;cases he
  subst K;refine Lib.wpList_append_run w hgd s x _ _ ho _ _ hs hx v w (zgz w base o.type v n c xs hown) (h v w ?_ hB);show w.ownsRow base 3 1 v (n+0) (xs++[]);rw[List.append_nil];exact hown
 |some ad=>
  refine wpList_append_own w hgd s x 35 ho base 3 I (.int .i64 0) 1 8 underlying35 J E F D rfl (by decide) v n xs hs hown ad l.length c (cellsI l) hx (zdp l) ?_ zjt (by unfold maxLen;omega) (by omega) hbase ?_
  ·intro j u C;rcases hS with h|⟨b,off,he,hlt,hc⟩
   ·rw[h]at C;simp[cellsI]at C
   ·cases he;rw[Addr.add_lit];exact SegI.news hc j u C
  ·intro v' w' B A _;exact h v' w' B (hB.grown A hbase (fun k hk=>(hown.lt k hk).1))
def flatI (L:List (Option Addr×Nat×List Int)):List Int:=(L.map (·.2.2)).flatten
theorem zno{L:List (Option Addr×Nat×List Int)}{k:Nat}{x:Option Addr×Nat×List Int}(h:L[k]?=some x):flatI (L.take (k+1))=flatI (L.take k)++x.2.2:=by
 rw[List.take_add_one,h];simp[flatI]
theorem zk9(L:List (Option Addr×Nat×List Int))(k:Nat):(flatI (L.take k)).length≤(flatI L).length:=by
 have:flatI L=flatI (L.take k)++flatI (L.drop k):=by rw[flatI,flatI,flatI,←List.flatten_append,←List.map_append,List.take_append_drop]
 rw[this,List.length_append];omega
def zyt (w:World)(B:Nat)(L:List (Option Addr×Nat×List Int)):Prop:=
 B<w.heap.size∧∀i x,L[i]?=some x→w.cell? ⟨B,i,none⟩=some (.slice x.1 x.2.2.length x.2.1)∧SegI w x.1 x.2.2
theorem zig(B m c:Nat)(L:List (Option Addr×Nat×List Int))(w:World)(hm:L.length=m)(hm2:m≤1000)(h:zyt w B L)(hn:(flatI L).length≤1000):
  Calls prog 100 #[.slice (some ⟨B,0,none⟩) m c] w fun e w'=>∃v',e=.returned v'∧w'.ownsRow w.heap.size 3 1 v' (flatI L).length (cellsI (flatI L))∧Below w.heap.size w w':=by
 subst hm;have Q:=zab h;clear h;go_enter func100,ntmps100;go_wp2
 go_loop [3,11] (fun s i=>∃k:Nat,k≤L.length∧i=.int .i64 k∧s=.int .i64 ((flatI (L.take k)).length:Int)) (fun _ i=>L.length - (intOf i).toNat)
 case atStart=>exact⟨0,Nat.zero_le _,rfl,rfl⟩
 case round=>
  obtain⟨k,l,rfl,rfl⟩:=hrel;have J:=zk9 L k;by_cases hlt:k<L.length
  ·obtain⟨x,E⟩:∃x,L[k]?=some x:=⟨_,List.getElem?_eq_getElem hlt⟩;have K:=(Q.o.2 k x E).1;have F:Hid ((flatI (L.take (k+1))).length=(flatI (L.take k)).length+x.2.2.length):=by rw[Hid,zno E,List.length_append]
   have A:=zk9 L (k+1);rw[F.o]at A;have U:(k:Int)<(L.length:Int):=by omega
   clear E;generalize (flatI (L.take k)).length=q at *;obtain⟨X,d,j⟩:=x;dsimp only at A K F;go_wp2
   go_round
   case rel=>exact⟨k+1,by omega,by go_num,by rw[F.o];go_num⟩
   case measure=>simp[intOf];omega
  ·have e:k=L.length:=by omega
   subst e;rw[List.take_length];clear J;obtain⟨N,M⟩:∃N,N=(flatI L).length:=⟨_,rfl⟩;rw[←M]at hn;rw[←M];have Y:=zab M;clear M;go_wp2_with fail;refine(zys N w hn).mono ?_;rintro e w1 ⟨v1,rfl,I,R⟩;have b:=zab I;have Z:=zab R;clear I R;go_wp2
   go_loopw [6,27] (fun s i wr=>∃(k:Nat),k≤L.length∧i=.int .i64 k∧Hid (wr.ownsRow w.heap.size 3 1 s (flatI (L.take k)).length (cellsI (flatI (L.take k))))∧Hid (Below w.heap.size w wr)) (fun _ i _=>L.length - (intOf i).toNat)
   case atStart=>exact⟨0,Nat.zero_le _,rfl,b,Z⟩
   case round=>
    obtain⟨k,l,rfl,D,C⟩:=hrel;have J:=zk9 L k;rw[←Y.o]at J;by_cases hlt:k<L.length
    ·obtain⟨x,E⟩:∃x,L[k]?=some x:=⟨_,List.getElem?_eq_getElem hlt⟩;have K:=zac C.o Q.o.1 (Q.o.2 k x E).1;have S:Hid (SegI wr x.1 x.2.2):=(Q.o.2 k x E).2.below C.o;have F:Hid (flatI (L.take (k+1))=flatI (L.take k)++x.2.2):=zno E;have A:=zk9 L (k+1);rw[F.o,List.length_append,←Y.o]at A;have U:(k:Int)<(L.length:Int):=by omega
     clear E;generalize flatI (L.take k)=q at *;obtain⟨X,d,j⟩:=x;dsimp only at A K F S;go_wp2_with (at_builtin;refine zsu _ w w.heap.size rfl _ _ rfl _ q.length (cellsI q) rfl D.o X d j rfl S.o (by omega) C.o.size C.o ?_);intro v' w' O a;clear D C S K;go_wp2
     go_roundw
     case rel=>exact⟨k+1,by omega,by go_num,by rw[F.o,List.length_append,zf7];exact O,a⟩
     case measure=>simp[intOf];omega
    ·have e:k=L.length:=by omega
     subst e;rw[List.take_length]at D;clear J;go_wp2;go_ret;exact⟨_,rfl,D.o,C.o⟩
