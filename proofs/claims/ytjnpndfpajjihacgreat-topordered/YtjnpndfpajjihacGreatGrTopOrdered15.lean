/-
  
-/
import Derived.Test.YtjnpndfpajjihacGreatGrTopOrdered3
import Derived.Test.YtjnpndfpajjihacGreatTConcatI
set_option maxRecDepth 100000
set_option maxHeartbeats 40000000
namespace Go.Proofs.YtjnpndfpajjihacGreat
open Go.Proofs.Tryz
open Go.RowKit
theorem zgy(w:World)(base:Nat)(ty:TypeId)(v:Value)(n c:Nat)(xs:List Value)(h:w.ownsRow base 84 2 v n xs):
  (Builtin.append_ #[34,34] ty #[v,.slice none 0 c]).run prog w=.ok v w:=by
 obtain⟨B,A,A0,A2,A1⟩:=info_parts zvo;rcases h.2 with⟨rfl,rfl⟩|⟨g,cap,cur,rfl,hb,hg,hnc,hcm,hrest⟩
 ·exact zep w _ _ _ B c underlying34 A
 ·simp[Builtin.append_,run_underlying underlying34,sizeOf,typeInfo,A,Builtin.lenOf,Builtin.firstCells,hnc,storeCells]
theorem zif(w W:World)(base:Nat){ops:Array Oper}{rest:List Oper}{o:Oper}{a:Act}{Q:Exit→Act→World→Prop}(hgd:o.guard=none)(s x:Operand)
  (ho:o.op=.call {callee:=.builtin .append,args:=#[s,x],argTypes:=#[34,34]})
  (v:Value) (n:Nat) (xs:List Value) (hs:a.eval s=v) (hown:w.ownsRow base 84 2 v n xs) (ao:Option Addr) (c:Nat) (l:List (Int×ByteArray)) (hx:a.eval x=.slice ao l.length c) (hS:SegW w ao l)
  (hn:n+l.length≤1000) (hbase:base≤w.heap.size) (hB:Below base W w)
  (h:∀v' w',Hid (w'.ownsRow base 84 2 v' (n+l.length) (xs++cellsC l))→Hid (Below base W w')→wpList prog ops Q rest (a.put o.dst v') w'):wpList prog ops Q (o::rest) a w:=by
 obtain⟨I,J,E,F,D⟩:=info_parts zvo
 cases ao with
 |none=>
  have K:l=[]:=by rcases hS with h|⟨b,off,he,_⟩;exact h;cases he
  subst K;refine Lib.wpList_append_run w hgd s x _ _ ho _ _ hs hx v w (zgy w base o.type v n c xs hown) (h v w ?_ hB);show w.ownsRow base 84 2 v (n+0) (xs++[]);rw[List.append_nil];exact hown
 |some ad=>
  refine wpList_append_own w hgd s x 34 ho base 84 I (.agg #[.int .i64 0,.string ⟨#[]⟩]) 2 24 underlying34 J E F D rfl (by decide) v n xs hs hown ad l.length c (cellsC l) hx (zc2 l) ?_ (zfm l) (by unfold maxLen;omega) (by omega) hbase ?_
  ·intro j u C;rcases hS with h|⟨b,off,he,hlt,hc⟩
   ·rw[h]at C;simp[cellsC]at C
   ·cases he;rw[Addr.add_lit];exact SegC.news hc j u C
  ·intro v' w' B A _;exact h v' w' B (hB.grown A hbase (fun k hk=>(hown.lt k hk).1))
def flatC (L:List (Option Addr×Nat×List (Int×ByteArray))):List (Int×ByteArray):=(L.map (·.2.2)).flatten
theorem znn{L:List (Option Addr×Nat×List (Int×ByteArray))}{k:Nat}{x:Option Addr×Nat×List (Int×ByteArray)}(h:L[k]?=some x):flatC (L.take (k+1))=flatC (L.take k)++x.2.2:=by
 rw[List.take_add_one,h];simp[flatC]
theorem zk8(L:List (Option Addr×Nat×List (Int×ByteArray)))(k:Nat):(flatC (L.take k)).length≤(flatC L).length:=by
 have:flatC L=flatC (L.take k)++flatC (L.drop k):=by rw[flatC,flatC,flatC,←List.flatten_append,←List.map_append,List.take_append_drop]
 rw[this,List.length_append];omega
def z4b (w:World)(B:Nat)(L:List (Option Addr×Nat×List (Int×ByteArray))):Prop:=
 B<w.heap.size∧∀i x,L[i]?=some x→w.cell? ⟨B,i,none⟩=some (.slice x.1 x.2.2.length x.2.1)∧SegW w x.1 x.2.2
theorem z0e(n:Nat)(w:World)(hn:n≤1000):
  Calls prog 213 #[.slice none 0 0,.int .i64 n] w fun e w'=>∃v',e=.returned v'∧w'.ownsRow w.heap.size 84 2 v' 0 []∧Below w.heap.size w w':=by
 obtain⟨I,N,J,K,D⟩:=info_parts zvo;rcases Nat.eq_zero_or_pos n with rfl|hpos
 ·go_enter func213,ntmps213;go_wp2;go_ret;exact⟨_,rfl,World.ownsRow_nil _ _ _ _,Below.refl _ _⟩
 ·obtain⟨G,C⟩:∃G,G=grownCap w n 0 84:=⟨_,rfl⟩;have A0:n≤G:=by rw[C];exact grownCap_ge w _ _ _
  have E:G≤maxLen:=by rw[C];exact grownCap_le_maxLen w n 0 _ (by unfold maxLen;omega)
  obtain⟨A,B⟩:∃A,A=#[]++Builtin.zeroCells (.agg #[.int .i64 0,.string ⟨#[]⟩]:Value).cells n++Builtin.zeroCells (.agg #[.int .i64 0,.string ⟨#[]⟩]:Value).cells (G - n):=⟨_,rfl⟩
  have F:A.size=G*2:=by
   rw[B,Array.size_append,Array.size_append,size_zeroCells,size_zeroCells];show 0+n*2+(G - n)*2=G*2;omega
  have L:∀ty,(Builtin.append_ #[34,3] ty #[.slice none 0 0,.int .i64 (n:Int)]).run prog w=.ok (.slice (some ⟨w.heap.size,0,none⟩) n G) (w.drew.alloc (.cells A 84)):=fun ty=>by
   have h:=Lib.run_append_grow_zeros (P:=prog) w 34 3 ty 84 I (.agg #[.int .i64 0,.string ⟨#[]⟩]) .i64 .i64 underlying34 underlying3 N J none 0 0 [] (run_firstCells_none w.drew I.size 0 0 0) n hpos (by rw[K];decide) (by omega) (by omega) (by rw[D];omega) (by rw[Nat.zero_add,D];exact growslice_fits (by omega) (by omega));rw[Nat.zero_add,←C]at h;rw[h,B]
  have M:Hid ((w.drew.alloc (.cells A 84)).ownsRow w.heap.size 84 2 (.slice (some ⟨w.heap.size,0,none⟩) 0 G) 0 []):=World.ownsRow_made w.drew A G (Nat.le_refl _) E F;clear C B F;unfold maxLen at E;have h1:¬((n:Int)<0):=by omega
  have h2:(n:Int)>0:=by omega
  go_enter func213,ntmps213;go_wp2_with (at_builtin;refine Lib.wpList_append_run _ rfl _ _ _ _ rfl _ _ rfl rfl _ _ (L _) ?_);go_ret;exact⟨_,rfl,M.o,(Below.refl _ _).drew.alloc (by simp) _⟩
theorem zmh(B m c:Nat)(L:List (Option Addr×Nat×List (Int×ByteArray)))(w:World)(hm:L.length=m)(hm2:m≤1000)(h:z4b w B L)(hn:(flatC L).length≤1000):
  Calls prog 194 #[.slice (some ⟨B,0,none⟩) m c] w fun e w'=>∃v',e=.returned v'∧w'.ownsRow w.heap.size 84 2 v' (flatC L).length (cellsC (flatC L))∧Below w.heap.size w w':=by
 subst hm;have Q:=zab h;clear h;go_enter func194,ntmps194;go_wp2
 go_loop [3,11] (fun s i=>∃k:Nat,k≤L.length∧i=.int .i64 k∧s=.int .i64 ((flatC (L.take k)).length:Int)) (fun _ i=>L.length - (intOf i).toNat)
 case atStart=>exact⟨0,Nat.zero_le _,rfl,rfl⟩
 case round=>
  obtain⟨k,l,rfl,rfl⟩:=hrel;have J:=zk8 L k;by_cases hlt:k<L.length
  ·obtain⟨x,E⟩:∃x,L[k]?=some x:=⟨_,List.getElem?_eq_getElem hlt⟩;have K:=(Q.o.2 k x E).1;have F:Hid ((flatC (L.take (k+1))).length=(flatC (L.take k)).length+x.2.2.length):=by rw[Hid,znn E,List.length_append]
   have A:=zk8 L (k+1);rw[F.o]at A;have U:(k:Int)<(L.length:Int):=by omega
   clear E;generalize (flatC (L.take k)).length=q at *;obtain⟨X,d,j⟩:=x;dsimp only at A K F;go_wp2
   go_round
   case rel=>exact⟨k+1,by omega,by go_num,by rw[F.o];go_num⟩
   case measure=>simp[intOf];omega
  ·have e:k=L.length:=by omega
   subst e;rw[List.take_length];clear J;obtain⟨N,M⟩:∃N,N=(flatC L).length:=⟨_,rfl⟩;rw[←M]at hn;rw[←M];have Y:=zab M;clear M;go_wp2_with fail;refine(z0e N w hn).mono ?_;rintro e w1 ⟨v1,rfl,I,R⟩;have b:=zab I;have Z:=zab R;clear I R;go_wp2
   go_loopw [6,27] (fun s i wr=>∃(k:Nat),k≤L.length∧i=.int .i64 k∧Hid (wr.ownsRow w.heap.size 84 2 s (flatC (L.take k)).length (cellsC (flatC (L.take k))))∧Hid (Below w.heap.size w wr)) (fun _ i _=>L.length - (intOf i).toNat)
   case atStart=>exact⟨0,Nat.zero_le _,rfl,b,Z⟩
   case round=>
    obtain⟨k,l,rfl,D,C⟩:=hrel;have J:=zk8 L k;rw[←Y.o]at J;by_cases hlt:k<L.length
    ·obtain⟨x,E⟩:∃x,L[k]?=some x:=⟨_,List.getElem?_eq_getElem hlt⟩;have K:=zac C.o Q.o.1 (Q.o.2 k x E).1;have S:Hid (SegW wr x.1 x.2.2):=(Q.o.2 k x E).2.below C.o;have F:Hid (flatC (L.take (k+1))=flatC (L.take k)++x.2.2):=znn E;have A:=zk8 L (k+1);rw[F.o,List.length_append,←Y.o]at A;have U:(k:Int)<(L.length:Int):=by omega
     clear E;generalize flatC (L.take k)=q at *;obtain⟨X,d,j⟩:=x;dsimp only at A K F S;go_wp2_with (at_builtin;refine zif _ w w.heap.size rfl _ _ rfl _ q.length (cellsC q) rfl D.o X d j rfl S.o (by omega) C.o.size C.o ?_);intro v' w' O a;clear D C S K;go_wp2
     go_roundw
     case rel=>exact⟨k+1,by omega,by go_num,by rw[F.o,List.length_append,zc3];exact O,a⟩
     case measure=>simp[intOf];omega
    ·have e:k=L.length:=by omega
     subst e;rw[List.take_length]at D;clear J;go_wp2;go_ret;exact⟨_,rfl,D.o,C.o⟩
theorem ztv(a:Option Addr)(c:Nat)(l:List (Int×ByteArray))(b:Int)(w:World)(h:SegW w a l)(hn:l.length≤1000)(hu:Up (·.1) l):
  Calls Tryz.prog 212 #[.slice a l.length c,.int .i64 b,.func (.func 156) #[] #[]] w fun e w'=>e=.returned (.tuple #[.int .i64 ((l.countP fun x=>decide (x.1<b):Nat):Int),.bool (l.any fun x=>x.1==b)])∧Below w.heap.size w w':=by
 have u:=zab h;have p:=zab hu;clear h hu;obtain⟨cnt,K⟩:∃cnt,cnt=l.countP fun x=>decide (x.1<b):=⟨_,rfl⟩;obtain⟨Q,N⟩:∃Q,Q=l.any fun x=>x.1==b:=⟨_,rfl⟩;rw[←K,←N];have r:=zab K;have HF:=zab N;have X:cnt≤l.length:=by rw[K];exact List.countP_le_length
 clear K N;go_enter Tryz.func212,Tryz.ntmps212;go_wp2
 go_loopw [9,10] (fun i j wr=>∃I A:Nat,i=.int .i64 I∧j=.int .i64 A∧I≤cnt∧cnt≤A∧A≤l.length∧Below w.heap.size w wr) (fun i j _=>(intOf j).toNat - (intOf i).toNat)
 case atStart=>exact⟨0,l.length,rfl,rfl,Nat.zero_le _,X,Nat.le_refl _,Below.refl _ _⟩
 case round=>
  obtain⟨I,A,rfl,rfl,Y,d,A1,E⟩:=hrel;by_cases hlt:I<A
  ·obtain⟨m,hm⟩:∃m,m=(I+A)/2:=⟨_,rfl⟩;have O:m<l.length:=by omega
   have A5:((I:Int)+(A:Int))/2=(m:Int):=by omega
   have A4:I≤m:=by omega
   have A3:m<A:=by omega
   clear hm;obtain⟨b2,s,rfl,hb,R⟩:=u.o.resolve_left (by intro e;rw[e]at O;simp at O);obtain⟨x,M⟩:∃x,x=l.getD m (0,ByteArray.empty):=⟨_,rfl⟩;obtain⟨F,J⟩:=R m O;rw[←M]at F J;have g1:=zac E hb F;have g2:=zac E hb J;have q:Hid (l[m]?=some x):=by rw[M];exact zcd _ _ _ O
   have C:x.1<b↔m<l.countP (fun x=>decide (x.1<b)):=z5q p.o b q.o;rw[←r.o]at C;clear M R F J;obtain⟨n,t⟩:=x;dsimp only at C;have A2:(I:Int)<(A:Int):=by omega
   have k:(m:Int)<(l.length:Int):=by omega
   by_cases hk:n<b
   ·have hq:m<cnt:=C.1 hk;have B:cmpI (n) b= -1:=ztu hk;go_wp2_with fail;refine(zil n t b _).mono ?_;rintro e w' ⟨rfl,D⟩;rw[B];have L:=zae E D;clear hk C B D;go_wp2
    go_roundw
    case rel=>exact⟨m+1,A,by go_num,rfl,by omega,d,A1,L⟩
    case measure=>simp[intOf];omega
   ·have hq:cnt≤m:=by have:=mt C.2 hk;omega
    have B:¬cmpI (n) b<0:=z0d hk;go_wp2_with fail;refine(zil n t b _).mono ?_;rintro e w' ⟨rfl,D⟩;have L:=zae E D;generalize cmpI (n) b=z at *;clear hk C D;go_wp2
    go_roundw
    case rel=>exact⟨I,m,rfl,rfl,Y,hq,by omega,L⟩
    case measure=>simp[intOf];omega
  ·obtain rfl:I=cnt:=by omega
   obtain rfl:A=I:=by omega
   clear Y d X;by_cases hlast:A<l.length
   ·obtain⟨b2,s,rfl,hb,R⟩:=u.o.resolve_left (by intro e;rw[e]at hlast;simp at hlast);obtain⟨x,M⟩:∃x,x=l.getD A (0,ByteArray.empty):=⟨_,rfl⟩;obtain⟨F,J⟩:=R A hlast;rw[←M]at F J;have g1:=zac E hb F;have g2:=zac E hb J;have q:Hid (l[A]?=some x):=by rw[M];exact zcd _ _ _ hlast
    have U:Q=(x.1==b):=by
     have S:(l.any fun x=>x.1==b)=true↔∃x,l[l.countP fun x=>decide (x.1<b)]?=some x∧x.1=b:=zd1 p.o b;rw[HF.o,Bool.eq_iff_iff,S,←r.o,q.o];constructor
     ·rintro⟨y,e,hy⟩;cases e;simpa using hy
     ·intro e;exact⟨x,rfl,by simpa using e⟩
    have Z:=zab U;clear M R F J U;obtain⟨n,t⟩:=x;dsimp only at Z;have k:(A:Int)<(l.length:Int):=by omega
    have B:=zrd (n) b;go_wp2_with fail;refine(zil n t b _).mono ?_;rintro e w' ⟨rfl,D⟩;have L:=zae E D;have A0:=zab B;generalize cmpI (n) b=z at *;clear B D;go_wp2
    go_ret2
    exact⟨by rw[Z.o,←A0.o];rfl,L⟩
   ·have U:Q=false:=by
     have S:(l.any fun x=>x.1==b)=true↔∃x,l[l.countP fun x=>decide (x.1<b)]?=some x∧x.1=b:=zd1 p.o b;rw[HF.o,←Bool.not_eq_true,S,←r.o,List.getElem?_eq_none (by omega)];rintro⟨y,e,_⟩;cases e
    have k:¬(A:Int)<(l.length:Int):=by omega
    subst U;go_wp2
    go_ret2
    exact⟨rfl,E⟩
open Go.Proofs.Tryz
theorem zjn{w:World}{a:Option Addr}{l:List (Int×ByteArray)}(h:SegW w a l)(k:Nat)(hk:k≤l.length):SegW w a (l.take k):=by
 rcases h with h|⟨b,off,rfl,hlt,hc⟩
 ·exact .inl (by rw[h];simp)
 ·refine .inr ⟨b,off,rfl,hlt,fun i hi=>?_⟩;have A:i<k:=by simp at hi;omega
  have e:(l.take k).getD i (0,ByteArray.empty)=l.getD i (0,ByteArray.empty):=by rw[List.getD,List.getD,List.getElem?_take_of_lt A]
  rw[e];exact hc i (by omega)
theorem zre{w:World}{b off:Nat}{l:List (Int×ByteArray)}(h:SegW w (some ⟨b,off,none⟩) l)(k:Nat):SegW w (some ⟨b,off+k*2,none⟩) (l.drop k):=by
 rcases h with h|⟨b',off',e,hlt,hc⟩
 ·exact .inl (by rw[h];simp)
 ·cases e;refine .inr ⟨b,off+k*2,rfl,hlt,fun i hi=>?_⟩;have e:(l.drop k).getD i (0,ByteArray.empty)=l.getD (k+i) (0,ByteArray.empty):=by rw[List.getD,List.getD,List.getElem?_drop]
  rw[e];have:=hc (k+i) (by simp at hi;omega);refine⟨?_,?_⟩
  ·rw[show off+k*2+i*2=off+(k+i)*2 from by omega];exact this.1
  ·rw[show off+k*2+i*2+1=off+(k+i)*2+1 from by omega];exact this.2
def ze3 (l:List (Int×ByteArray))(b:Int):List (Int×ByteArray):=l.filter fun x=>decide (x.1<b)
def zc0 (l:List (Int×ByteArray))(b:Int):List (Int×ByteArray):=l.filter fun x=>decide (b<x.1)
theorem zmi(base:Nat)(v:Value)(l:List (Int×ByteArray))(b:Int)(w:World)(hown:w.ownsRow base 84 2 v l.length (cellsC l))(hn:l.length≤1000)(hu:Up (·.1) l):
  Calls prog 193 #[v,.int .i64 b,.func (.func 156) #[] #[]] w fun e w'=>∃a1 c1 a2 c2,e=.returned (.tuple #[.slice a1 (ze3 l b).length c1,.slice a2 (zc0 l b).length c2])∧SegW w' a1 (ze3 l b)∧SegW w' a2 (zc0 l b)∧Below w.heap.size w w':=by
 have F:l.take (l.countP fun x=>decide (x.1<b))=ze3 l b∧l.drop (l.countP fun x=>decide (x.1<b))=l.filter (fun x=>decide (b≤x.1)):=zyi hu b;have E:(l.any fun x=>x.1==b)=true↔∃x,l[l.countP fun x=>decide (x.1<b)]?=some x∧x.1=b:=zd1 hu b;obtain⟨j,c0,S,J,_⟩:=SegC.of_owns hown;have A:=ztv j c0 l b w J hn hu;rw[←S]at A;obtain⟨cnt,D⟩:∃cnt,cnt=l.countP fun x=>decide (x.1<b):=⟨_,rfl⟩;have d:cnt≤l.length:=by rw[D];exact List.countP_le_length
 rw[←D]at F E A;have Y:(ze3 l b).length=cnt:=by rw[←F.1,List.length_take];omega
 have U:=zab F.1;have X:=zab Y
 cases hf:l.any fun x=>x.1==b with
 |true=>
  obtain⟨x,R,a⟩:=E.1 hf;have A0:cnt<l.length:=(List.getElem?_eq_some_iff.1 R).1
  have I:l.drop (cnt+1)=zc0 l b:=by
   rw[D]at R⊢;exact z3q hu b x R a
  have L:(zc0 l b).length=l.length - (cnt+1):=by rw[←I,List.length_drop]
  have Q:=zab I;have K:=zab L;rw[hf]at A;clear R a hf E F D I L Y;rcases hown.2 with⟨rfl,h0⟩|⟨g,cap,cur,rfl,hb,hg,hnc,hcm,_⟩
  ·omega
  ·unfold maxLen at hcm;simp only[Value.slice.injEq]at S;obtain⟨rfl,_,rfl⟩:=S;have N:=zab J;have c:(cnt:Int)<(l.length:Int):=by omega
   have O:(l.length:Int)≤(cap:Int):=by omega
   clear hown J hg;by_cases hz:cap=cnt+1
   ·subst hz;have M:Hid (l.length≤cnt+1):=by unfold Hid;omega
    clear hnc O;have O:(l.length:Int)≤(cnt:Int)+1:=by have:=M.o;omega
    go_enter func193,ntmps193;go_wp2_with fail;refine A.mono ?_;rintro e Z ⟨rfl,B⟩;have C:=zab B;clear A B;go_wp2
    go_quiet (fail)
    go_wp2
    go_ret2
    refine⟨_,_,_,_,by rw[X.o,K.o];rfl,?_,?_,below_drewN C.o _⟩
    ·rw[←U.o];exact(zjn N.o cnt (by omega)).below (below_drewN C.o _)
    ·refine .inl ?_;rw[←Q.o];exact List.drop_of_length_le M.o
   ·have h:¬(cap - (cnt+1)=0):=by omega
    go_enter func193,ntmps193;go_wp2_with fail;refine A.mono ?_;rintro e Z ⟨rfl,B⟩;have C:=zab B;clear A B;go_wp2
    go_quiet (fail)
    go_wp2
    go_ret2
    refine⟨_,_,_,_,by rw[X.o,K.o];rfl,?_,?_,below_drewN C.o _⟩
    ·rw[←U.o];exact(zjn N.o cnt (by omega)).below (below_drewN C.o _)
    ·rw[←Q.o];have hd:=zre N.o (cnt+1);rw[Nat.zero_add]at hd;exact hd.below (below_drewN C.o _)
 |false=>
  have I:l.drop cnt=zc0 l b:=by
   rw[F.2];refine zyj hu b fun x R hk=>?_;rw[D]at E;rw[E.2 ⟨x,R,hk⟩]at hf;cases hf
  have L:(zc0 l b).length=l.length - cnt:=by rw[←I,List.length_drop]
  have Q:=zab I;have K:=zab L;rw[hf]at A;clear hf E F D I L Y;rcases hown.2 with⟨rfl,h0⟩|⟨g,cap,cur,rfl,hb,hg,hnc,hcm,_⟩
  ·have i:l=[]:=List.eq_nil_of_length_eq_zero h0;subst i;obtain rfl:cnt=0:=by simpa using d
   clear hown J S;go_enter func193,ntmps193;go_wp2_with fail;refine A.mono ?_;rintro e Z ⟨rfl,B⟩;have C:=zab B;clear A B;go_wp2
   go_quiet (fail)
   go_wp2
   go_ret2
   refine⟨_,_,_,_,by rw[X.o,K.o];rfl,.inl ?_,.inl ?_,below_drewN C.o _⟩
   ·rw[←U.o];rfl
   ·rw[←Q.o];rfl
  ·unfold maxLen at hcm;simp only[Value.slice.injEq]at S;obtain⟨rfl,_,rfl⟩:=S;have N:=zab J;have c:(cnt:Int)≤(l.length:Int):=by omega
   have O:(l.length:Int)≤(cap:Int):=by omega
   clear hown J hg;by_cases hz:cap=cnt
   ·subst hz;have M:Hid (l.length≤cap):=by unfold Hid;omega
    go_enter func193,ntmps193;go_wp2_with fail;refine A.mono ?_;rintro e Z ⟨rfl,B⟩;have C:=zab B;clear A B;go_wp2
    go_quiet (fail)
    go_wp2
    go_ret2
    refine⟨_,_,_,_,by rw[X.o,K.o,show l.length - cap=0 from by have:=M.o;omega];rfl,?_,?_,below_drewN C.o _⟩
    ·rw[←U.o];exact(zjn N.o cap (by omega)).below (below_drewN C.o _)
    ·refine .inl ?_;rw[←Q.o];exact List.drop_of_length_le M.o
   ·have h:¬(cap - cnt=0):=by omega
    go_enter func193,ntmps193;go_wp2_with fail;refine A.mono ?_;rintro e Z ⟨rfl,B⟩;have C:=zab B;clear A B;go_wp2
    go_quiet (fail)
    go_wp2
    go_ret2
    refine⟨_,_,_,_,by rw[X.o,K.o];rfl,?_,?_,below_drewN C.o _⟩
    ·rw[←U.o];exact(zjn N.o cnt (by omega)).below (below_drewN C.o _)
    ·rw[←Q.o];have hd:=zre N.o cnt;rw[Nat.zero_add]at hd;exact hd.below (below_drewN C.o _)
theorem zrf(l:List (Int×ByteArray))(b:Int):(ze3 l b).length≤l.length:=List.length_filter_le _ _
theorem zn6(l:List (Int×ByteArray))(b:Int):(zc0 l b).length≤l.length:=List.length_filter_le _ _
theorem zrg(base:Nat)(v:Value)(l:List (Int×ByteArray))(b:Int)(s:ByteArray)(w:World)(hown:w.ownsRow base 84 2 v l.length (cellsC l))(hn:l.length≤100)(hu:Up (·.1) l):
  Calls prog 155 #[v,.int .i64 b,.func (.func 156) #[] #[],.agg #[.int .i64 b,.string s]] w fun e w'=>∃v',e=.returned v'∧w'.ownsRow w.heap.size 84 2 v' (zbj (·.1) l b (b,s)).length (cellsC (zbj (·.1) l b (b,s)))∧Below w.heap.size w w':=by
 have a:=zab hown;clear hown;go_enter func155,ntmps155;go_wp2_with fail;refine(zmi base v l b _ (zah a.o (zaa _ _)) (by omega) hu).mono ?_;rintro e A ⟨E,c1,F,c2,rfl,D,J,C⟩;have N:=zab D;have L:=zab J;have D:w.heap.size<A.heap.size:=by have:=C.size;simp at this;omega
 have y0:=zac C (b:=w.heap.size) (o:=0) (v:=.int .i64 b) (by simp) (by simp[go_sem]);have y1:=zac C (b:=w.heap.size) (o:=1) (v:=.string s) (by simp) (by simp[go_sem]);have O:=zab (zae (zaa _ _) C);have q1:=zrf l b;have q2:=zn6 l b;have A0:=O.o.size;clear D J C
 have X:Hid (∀w',Below A.heap.size A w'→w'.cell? ⟨A.heap.size+1,0,none⟩=some (.slice E (ze3 l b).length c1)→w'.cell? ⟨A.heap.size+1,1,none⟩=some (.slice (some ⟨A.heap.size,0,none⟩) 1 1)→w'.cell? ⟨A.heap.size+1,2,none⟩=some (.slice F (zc0 l b).length c2)→SegW w' (some ⟨A.heap.size,0,none⟩) [(b,s)]→A.heap.size+1<w'.heap.size→z4b w' (A.heap.size+1) [(E,c1,ze3 l b),(some ⟨A.heap.size,0,none⟩,1,[(b,s)]),(F,c2,zc0 l b)]):=by
  intro w' hb Y U Z K R;refine⟨R,fun i x hx=>?_⟩
  match i,hx with
  |0,hx=>cases hx;exact⟨Y,N.o.below hb⟩
  |1,hx=>cases hx;exact⟨U,K⟩
  |2,hx=>cases hx;exact⟨Z,L.o.below hb⟩
  |n+3,hx=>simp at hx
 have c:Hid (flatC [(E,c1,ze3 l b),(some ⟨A.heap.size,0,none⟩,1,[(b,s)]),(F,c2,zc0 l b)]=zbj (·.1) l b (b,s)):=by simp[Hid,flatC,ze3,zc0,zbj]
 go_wp2_with fail;refine(zmh (A.heap.size+1) 3 3 [(E,c1,ze3 l b),(some ⟨A.heap.size,0,none⟩,1,[(b,s)]),(F,c2,zc0 l b)] _ rfl (by omega) (X.o _ (zae (zaa _ _) (zaa _ _)) (by simp[go_sem]) (by simp[go_sem]) (by simp[go_sem]) (.inr ⟨A.heap.size,0,rfl,by simp;omega,fun i hi=>?_⟩) (by simp)) (by simp[flatC];omega)).mono ?_
 ·have:i=0:=by simpa using hi
  subst this;exact⟨by simp[go_sem],by simp[go_sem]⟩
 ·rintro e w2 ⟨v2,rfl,B,I⟩;rw[c.o]at B;have S:=zab B;have Q:=zae (zae (zaa _ _) (zaa _ _)) I;have M:=zab (zae O.o Q);clear B I;go_wp2;go_ret;refine⟨_,rfl,za6 S.o ?_,M.o⟩;simp;omega
theorem zkq(base:Nat)(v:Value)(l:List (Int×ByteArray))(b:Int)(w:World)(hown:w.ownsRow base 84 2 v l.length (cellsC l))(hn:l.length≤100)(hu:Up (·.1) l):
  Calls prog 161 #[v,.int .i64 b,.func (.func 156) #[] #[]] w fun e w'=>∃v',e=.returned v'∧w'.ownsRow w.heap.size 84 2 v' (zax (·.1) l b).length (cellsC (zax (·.1) l b))∧Below w.heap.size w w':=by
 have X:=zab hown;clear hown;go_enter func161,ntmps161;go_wp2_with fail;refine(zmi base v l b _ X.o (by omega) hu).mono ?_;rintro e B ⟨C,c1,D,c2,rfl,I,J,F⟩;have M:=zab I;have K:=zab J;have N:=zab F;have q1:=zrf l b;have q2:=zn6 l b;have A0:=N.o.size;clear I J F
 have R:Hid (∀w',Below B.heap.size B w'→w'.cell? ⟨B.heap.size,0,none⟩=some (.slice C (ze3 l b).length c1)→w'.cell? ⟨B.heap.size,1,none⟩=some (.slice D (zc0 l b).length c2)→B.heap.size<w'.heap.size→z4b w' B.heap.size [(C,c1,ze3 l b),(D,c2,zc0 l b)]):=by
  intro w' hb S U O;refine⟨O,fun i x hx=>?_⟩
  match i,hx with
  |0,hx=>cases hx;exact⟨S,M.o.below hb⟩
  |1,hx=>cases hx;exact⟨U,K.o.below hb⟩
  |n+2,hx=>simp at hx
 have Y:Hid (flatC [(C,c1,ze3 l b),(D,c2,zc0 l b)]=zax (·.1) l b):=by simp[Hid,flatC,ze3,zc0,zax]
 go_wp2_with fail;refine(zmh B.heap.size 2 2 [(C,c1,ze3 l b),(D,c2,zc0 l b)] _ rfl (by omega) (R.o _ (zaa _ _) (by simp[go_sem]) (by simp[go_sem]) (by simp)) (by simp[flatC];omega)).mono ?_;rintro e w2 ⟨v2,rfl,A,E⟩;rw[Y.o]at A;have Q:=zab A;have L:=zab (zae N.o (zae (zaa _ _) E));clear A E;go_wp2;go_ret;refine⟨_,rfl,za6 Q.o ?_,L.o⟩;simp;omega
theorem ztw(a:Option Addr)(c:Nat)(l:List Int)(b:Int)(w:World)(h:SegI w a l)(hn:l.length≤1000)(hu:Up id l):
  Calls Tryz.prog 214 #[.slice a l.length c,.int .i64 b,.func (.func 158) #[] #[]] w fun e w'=>e=.returned (.tuple #[.int .i64 ((l.countP fun x=>decide (x<b):Nat):Int),.bool (l.any fun x=>x==b)])∧Below w.heap.size w w':=by
 have q:=zab h;have d:=zab hu;clear h hu;obtain⟨cnt,J⟩:∃cnt,cnt=l.countP fun x=>decide (x<b):=⟨_,rfl⟩;obtain⟨O,M⟩:∃O,O=l.any fun x=>x==b:=⟨_,rfl⟩;rw[←J,←M];have n:=zab J;have HF:=zab M;have U:cnt≤l.length:=by rw[J];exact List.countP_le_length
 clear J M;go_enter Tryz.func214,Tryz.ntmps214;go_wp2
 go_loopw [9,10] (fun i j wr=>∃E A:Nat,i=.int .i64 E∧j=.int .i64 A∧E≤cnt∧cnt≤A∧A≤l.length∧Below w.heap.size w wr) (fun i j _=>(intOf j).toNat - (intOf i).toNat)
 case atStart=>exact⟨0,l.length,rfl,rfl,Nat.zero_le _,U,Nat.le_refl _,Below.refl _ _⟩
 case round=>
  obtain⟨E,A,rfl,rfl,X,Y,A0,I⟩:=hrel;by_cases hlt:E<A
  ·obtain⟨m,hm⟩:∃m,m=(E+A)/2:=⟨_,rfl⟩;have N:m<l.length:=by omega
   have A4:((E:Int)+(A:Int))/2=(m:Int):=by omega
   have A3:E≤m:=by omega
   have A2:m<A:=by omega
   clear hm;obtain⟨b2,p,rfl,hb,Q⟩:=q.o.resolve_left (by intro e;rw[e]at N;simp at N);obtain⟨x,L⟩:∃x,x=l.getD m 0:=⟨_,rfl⟩;have D:=Q m N;rw[←L]at D;have g1:=zac I hb D;have k:Hid (l[m]?=some x):=by rw[L];exact zcd _ _ _ N
   have F:x<b↔m<l.countP (fun x=>decide (x<b)):=z5q d.o b k.o;rw[←n.o]at F;clear L Q D;have A1:(E:Int)<(A:Int):=by omega
   have Z:(m:Int)<(l.length:Int):=by omega
   by_cases hk:x<b
   ·have s:m<cnt:=F.1 hk;have B:cmpI (x) b= -1:=ztu hk;go_wp2_with fail;refine(zhf x b _).mono ?_;rintro e w' ⟨rfl,C⟩;rw[B];have K:=zae I C;clear hk F B C;go_wp2
    go_roundw
    case rel=>exact⟨m+1,A,by go_num,rfl,by omega,Y,A0,K⟩
    case measure=>simp[intOf];omega
   ·have s:cnt≤m:=by have:=mt F.2 hk;omega
    have B:¬cmpI (x) b<0:=z0d hk;go_wp2_with fail;refine(zhf x b _).mono ?_;rintro e w' ⟨rfl,C⟩;have K:=zae I C;generalize cmpI (x) b=z at *;clear hk F C;go_wp2
    go_roundw
    case rel=>exact⟨E,m,rfl,rfl,X,s,by omega,K⟩
    case measure=>simp[intOf];omega
  ·obtain rfl:E=cnt:=by omega
   obtain rfl:A=E:=by omega
   clear X Y U;by_cases hlast:A<l.length
   ·obtain⟨b2,p,rfl,hb,Q⟩:=q.o.resolve_left (by intro e;rw[e]at hlast;simp at hlast);obtain⟨x,L⟩:∃x,x=l.getD A 0:=⟨_,rfl⟩;have D:=Q A hlast;rw[←L]at D;have g1:=zac I hb D;have k:Hid (l[A]?=some x):=by rw[L];exact zcd _ _ _ hlast
    have S:O=(x==b):=by
     have R:(l.any fun x=>x==b)=true↔∃x,l[l.countP fun x=>decide (x<b)]?=some x∧x=b:=zd1 d.o b;rw[HF.o,Bool.eq_iff_iff,R,←n.o,k.o];constructor
     ·rintro⟨y,e,hy⟩;cases e;simpa using hy
     ·intro e;exact⟨x,rfl,by simpa using e⟩
    have r:=zab S;clear L Q D S;have Z:(A:Int)<(l.length:Int):=by omega
    have B:=zrd (x) b;go_wp2_with fail;refine(zhf x b _).mono ?_;rintro e w' ⟨rfl,C⟩;have K:=zae I C;have u:=zab B;generalize cmpI (x) b=z at *;clear B C;go_wp2
    go_ret2
    exact⟨by rw[r.o,←u.o];rfl,K⟩
   ·have S:O=false:=by
     have R:(l.any fun x=>x==b)=true↔∃x,l[l.countP fun x=>decide (x<b)]?=some x∧x=b:=zd1 d.o b;rw[HF.o,←Bool.not_eq_true,R,←n.o,List.getElem?_eq_none (by omega)];rintro⟨y,e,_⟩;cases e
    have Z:¬(A:Int)<(l.length:Int):=by omega
    subst S;go_wp2
    go_ret2
    exact⟨rfl,I⟩
open Go.Proofs.Tryz
theorem zjo{w:World}{a:Option Addr}{l:List Int}(h:SegI w a l)(k:Nat)(hk:k≤l.length):SegI w a (l.take k):=by
 rcases h with h|⟨b,off,rfl,hlt,hc⟩
 ·exact .inl (by rw[h];simp)
 ·refine .inr ⟨b,off,rfl,hlt,fun i hi=>?_⟩;have A:i<k:=by simp at hi;omega
  have e:(l.take k).getD i 0=l.getD i 0:=by rw[List.getD,List.getD,List.getElem?_take_of_lt A]
  rw[e];exact hc i (by omega)
theorem zrh{w:World}{b off:Nat}{l:List Int}(h:SegI w (some ⟨b,off,none⟩) l)(k:Nat):SegI w (some ⟨b,off+k*1,none⟩) (l.drop k):=by
 rcases h with h|⟨b',off',e,hlt,hc⟩
 ·exact .inl (by rw[h];simp)
 ·cases e;refine .inr ⟨b,off+k*1,rfl,hlt,fun i hi=>?_⟩;have e:(l.drop k).getD i 0=l.getD (k+i) 0:=by rw[List.getD,List.getD,List.getElem?_drop]
  rw[e];have:=hc (k+i) (by simp at hi;omega);rw[show off+k*1+i=off+(k+i) from by omega];exact this
def ze4 (l:List Int)(b:Int):List Int:=l.filter fun x=>decide (x<b)
def zc1 (l:List Int)(b:Int):List Int:=l.filter fun x=>decide (b<x)
theorem zmj(base:Nat)(v:Value)(l:List Int)(b:Int)(w:World)(hown:w.ownsRow base 3 1 v l.length (cellsI l))(hn:l.length≤1000)(hu:Up id l):
  Calls prog 195 #[v,.int .i64 b,.func (.func 158) #[] #[]] w fun e w'=>∃a1 c1 a2 c2,e=.returned (.tuple #[.slice a1 (ze4 l b).length c1,.slice a2 (zc1 l b).length c2])∧SegI w' a1 (ze4 l b)∧SegI w' a2 (zc1 l b)∧Below w.heap.size w w':=by
 have F:l.take (l.countP fun x=>decide (x<b))=ze4 l b∧l.drop (l.countP fun x=>decide (x<b))=l.filter (fun x=>decide (b≤x)):=zyi hu b;have E:(l.any fun x=>x==b)=true↔∃x,l[l.countP fun x=>decide (x<b)]?=some x∧x=b:=zd1 hu b;obtain⟨j,c0,S,J,_⟩:=SegI.of_owns hown;have A:=ztw j c0 l b w J hn hu;rw[←S]at A;obtain⟨cnt,D⟩:∃cnt,cnt=l.countP fun x=>decide (x<b):=⟨_,rfl⟩;have d:cnt≤l.length:=by rw[D];exact List.countP_le_length
 rw[←D]at F E A;have Y:(ze4 l b).length=cnt:=by rw[←F.1,List.length_take];omega
 have U:=zab F.1;have X:=zab Y
 cases hf:l.any fun x=>x==b with
 |true=>
  obtain⟨x,R,a⟩:=E.1 hf;have A0:cnt<l.length:=(List.getElem?_eq_some_iff.1 R).1
  have I:l.drop (cnt+1)=zc1 l b:=by
   rw[D]at R⊢;exact z3q hu b x R a
  have L:(zc1 l b).length=l.length - (cnt+1):=by rw[←I,List.length_drop]
  have Q:=zab I;have K:=zab L;rw[hf]at A;clear R a hf E F D I L Y;rcases hown.2 with⟨rfl,h0⟩|⟨g,cap,cur,rfl,hb,hg,hnc,hcm,_⟩
  ·omega
  ·unfold maxLen at hcm;simp only[Value.slice.injEq]at S;obtain⟨rfl,_,rfl⟩:=S;have N:=zab J;have c:(cnt:Int)<(l.length:Int):=by omega
   have O:(l.length:Int)≤(cap:Int):=by omega
   clear hown J hg;by_cases hz:cap=cnt+1
   ·subst hz;have M:Hid (l.length≤cnt+1):=by unfold Hid;omega
    clear hnc O;have O:(l.length:Int)≤(cnt:Int)+1:=by have:=M.o;omega
    go_enter func195,ntmps195;go_wp2_with fail;refine A.mono ?_;rintro e Z ⟨rfl,B⟩;have C:=zab B;clear A B;go_wp2
    go_quiet (fail)
    go_wp2
    go_ret2
    refine⟨_,_,_,_,by rw[X.o,K.o];rfl,?_,?_,below_drewN C.o _⟩
    ·rw[←U.o];exact(zjo N.o cnt (by omega)).below (below_drewN C.o _)
    ·refine .inl ?_;rw[←Q.o];exact List.drop_of_length_le M.o
   ·have h:¬(cap - (cnt+1)=0):=by omega
    go_enter func195,ntmps195;go_wp2_with fail;refine A.mono ?_;rintro e Z ⟨rfl,B⟩;have C:=zab B;clear A B;go_wp2
    go_quiet (fail)
    go_wp2
    go_ret2
    refine⟨_,_,_,_,by rw[X.o,K.o];rfl,?_,?_,below_drewN C.o _⟩
    ·rw[←U.o];exact(zjo N.o cnt (by omega)).below (below_drewN C.o _)
    ·rw[←Q.o];have hd:=zrh N.o (cnt+1);rw[Nat.zero_add,Nat.mul_one]at hd;exact hd.below (below_drewN C.o _)
 |false=>
  have I:l.drop cnt=zc1 l b:=by
   rw[F.2];refine zyj hu b fun x R hk=>?_;rw[D]at E;rw[E.2 ⟨x,R,hk⟩]at hf;cases hf
  have L:(zc1 l b).length=l.length - cnt:=by rw[←I,List.length_drop]
  have Q:=zab I;have K:=zab L;rw[hf]at A;clear hf E F D I L Y;rcases hown.2 with⟨rfl,h0⟩|⟨g,cap,cur,rfl,hb,hg,hnc,hcm,_⟩
  ·have i:l=[]:=List.eq_nil_of_length_eq_zero h0;subst i;obtain rfl:cnt=0:=by simpa using d
   clear hown J S;go_enter func195,ntmps195;go_wp2_with fail;refine A.mono ?_;rintro e Z ⟨rfl,B⟩;have C:=zab B;clear A B;go_wp2
   go_quiet (fail)
   go_wp2
   go_ret2
   refine⟨_,_,_,_,by rw[X.o,K.o];rfl,.inl ?_,.inl ?_,below_drewN C.o _⟩
   ·rw[←U.o];rfl
   ·rw[←Q.o];rfl
  ·unfold maxLen at hcm;simp only[Value.slice.injEq]at S;obtain⟨rfl,_,rfl⟩:=S;have N:=zab J;have c:(cnt:Int)≤(l.length:Int):=by omega
   have O:(l.length:Int)≤(cap:Int):=by omega
   clear hown J hg;by_cases hz:cap=cnt
   ·subst hz;have M:Hid (l.length≤cap):=by unfold Hid;omega
    go_enter func195,ntmps195;go_wp2_with fail;refine A.mono ?_;rintro e Z ⟨rfl,B⟩;have C:=zab B;clear A B;go_wp2
    go_quiet (fail)
    go_wp2
    go_ret2
    refine⟨_,_,_,_,by rw[X.o,K.o,show l.length - cap=0 from by have:=M.o;omega];rfl,?_,?_,below_drewN C.o _⟩
    ·rw[←U.o];exact(zjo N.o cap (by omega)).below (below_drewN C.o _)
    ·refine .inl ?_;rw[←Q.o];exact List.drop_of_length_le M.o
   ·have h:¬(cap - cnt=0):=by omega
    go_enter func195,ntmps195;go_wp2_with fail;refine A.mono ?_;rintro e Z ⟨rfl,B⟩;have C:=zab B;clear A B;go_wp2
    go_quiet (fail)
    go_wp2
    go_ret2
    refine⟨_,_,_,_,by rw[X.o,K.o];rfl,?_,?_,below_drewN C.o _⟩
    ·rw[←U.o];exact(zjo N.o cnt (by omega)).below (below_drewN C.o _)
    ·rw[←Q.o];have hd:=zrh N.o cnt;rw[Nat.zero_add,Nat.mul_one]at hd;exact hd.below (below_drewN C.o _)
theorem zri(l:List Int)(b:Int):(ze4 l b).length≤l.length:=List.length_filter_le _ _
theorem zn7(l:List Int)(b:Int):(zc1 l b).length≤l.length:=List.length_filter_le _ _
theorem z0f(base:Nat)(v:Value)(l:List Int)(b:Int)(w:World)(hown:w.ownsRow base 3 1 v l.length (cellsI l))(hn:l.length≤100)(hu:Up id l):
  Calls prog 162 #[v,.int .i64 b,.func (.func 158) #[] #[],.int .i64 b] w fun e w'=>∃v',e=.returned v'∧w'.ownsRow w.heap.size 3 1 v' (zbj id l b b).length (cellsI (zbj id l b b))∧Below w.heap.size w w':=by
 have Z:=zab hown;clear hown;go_enter func162,ntmps162;go_wp2_with fail;refine(zmj base v l b _ Z.o (by omega) hu).mono ?_;rintro e A ⟨C,c1,D,c2,rfl,I,J,F⟩;have N:=zab I;have L:=zab J;have O:=zab F;have q1:=zri l b;have q2:=zn7 l b;have A0:=O.o.size;clear I J F
 have U:Hid (∀w',Below A.heap.size A w'→w'.cell? ⟨A.heap.size+1,0,none⟩=some (.slice C (ze4 l b).length c1)→w'.cell? ⟨A.heap.size+1,1,none⟩=some (.slice (some ⟨A.heap.size,0,none⟩) 1 1)→w'.cell? ⟨A.heap.size+1,2,none⟩=some (.slice D (zc1 l b).length c2)→SegI w' (some ⟨A.heap.size,0,none⟩) [b]→A.heap.size+1<w'.heap.size→zyt w' (A.heap.size+1) [(C,c1,ze4 l b),(some ⟨A.heap.size,0,none⟩,1,[b]),(D,c2,zc1 l b)]):=by
  intro w' hb X c Y K R;refine⟨R,fun i x hx=>?_⟩
  match i,hx with
  |0,hx=>cases hx;exact⟨X,N.o.below hb⟩
  |1,hx=>cases hx;exact⟨c,K⟩
  |2,hx=>cases hx;exact⟨Y,L.o.below hb⟩
  |n+3,hx=>simp at hx
 have a:Hid (flatI [(C,c1,ze4 l b),(some ⟨A.heap.size,0,none⟩,1,[b]),(D,c2,zc1 l b)]=zbj id l b b):=by simp[Hid,flatI,ze4,zc1,zbj]
 go_wp2_with fail;refine(zig (A.heap.size+1) 3 3 [(C,c1,ze4 l b),(some ⟨A.heap.size,0,none⟩,1,[b]),(D,c2,zc1 l b)] _ rfl (by omega) (U.o _ (zae (zaa _ _) (zaa _ _)) (by simp[go_sem]) (by simp[go_sem]) (by simp[go_sem]) (.inr ⟨A.heap.size,0,rfl,by simp;omega,fun i hi=>?_⟩) (by simp)) (by simp[flatI];omega)).mono ?_
 ·have:i=0:=by simpa using hi
  subst this;simp[go_sem]
 ·rintro e w2 ⟨v2,rfl,B,E⟩;rw[a.o]at B;have S:=zab B;have Q:=zae (zae (zaa _ _) (zaa _ _)) E;have M:=zab (zae O.o Q);clear B E;go_wp2;go_ret;refine⟨_,rfl,za6 S.o ?_,M.o⟩;simp;omega
theorem zrj(base:Nat)(v:Value)(l:List Int)(b:Int)(w:World)(hown:w.ownsRow base 3 1 v l.length (cellsI l))(hn:l.length≤100)(hu:Up id l):
  Calls prog 157 #[v,.int .i64 b,.func (.func 158) #[] #[]] w fun e w'=>∃v',e=.returned v'∧w'.ownsRow w.heap.size 3 1 v' (zax id l b).length (cellsI (zax id l b))∧Below w.heap.size w w':=by
 have X:=zab hown;clear hown;go_enter func157,ntmps157;go_wp2_with fail;refine(zmj base v l b _ X.o (by omega) hu).mono ?_;rintro e B ⟨C,c1,D,c2,rfl,I,J,F⟩;have M:=zab I;have K:=zab J;have N:=zab F;have q1:=zri l b;have q2:=zn7 l b;have A0:=N.o.size;clear I J F
 have R:Hid (∀w',Below B.heap.size B w'→w'.cell? ⟨B.heap.size,0,none⟩=some (.slice C (ze4 l b).length c1)→w'.cell? ⟨B.heap.size,1,none⟩=some (.slice D (zc1 l b).length c2)→B.heap.size<w'.heap.size→zyt w' B.heap.size [(C,c1,ze4 l b),(D,c2,zc1 l b)]):=by
  intro w' hb S U O;refine⟨O,fun i x hx=>?_⟩
  match i,hx with
  |0,hx=>cases hx;exact⟨S,M.o.below hb⟩
  |1,hx=>cases hx;exact⟨U,K.o.below hb⟩
  |n+2,hx=>simp at hx
 have Y:Hid (flatI [(C,c1,ze4 l b),(D,c2,zc1 l b)]=zax id l b):=by simp[Hid,flatI,ze4,zc1,zax]
 go_wp2_with fail;refine(zig B.heap.size 2 2 [(C,c1,ze4 l b),(D,c2,zc1 l b)] _ rfl (by omega) (R.o _ (zaa _ _) (by simp[go_sem]) (by simp[go_sem]) (by simp)) (by simp[flatI];omega)).mono ?_;rintro e w2 ⟨v2,rfl,A,E⟩;rw[Y.o]at A;have Q:=zab A;have L:=zab (zae N.o (zae (zaa _ _) E));clear A E;go_wp2;go_ret;refine⟨_,rfl,za6 Q.o ?_,L.o⟩;simp;omega
