/-
  
-/
import Derived.Test.YtjnpndfpajjihacGreatGrTopSettles3
import Derived.Test.YtjnpndfpajjihacGreatTConcatI
set_option maxRecDepth 100000
set_option maxHeartbeats 40000000
namespace Go.Proofs.YtjnpndfpajjihacGreat
open Go.Proofs.Tryz
open Go.RowKit
theorem zgz(w:World)(base:Nat)(ty:TypeId)(v:Value)(n c:Nat)(xs:List Value)(h:w.ownsRow base 84 2 v n xs):
  (Builtin.append_ #[34,34] ty #[v,.slice none 0 c]).run prog w=.ok v w:=by
 obtain⟨B,A,A0,A1,A2⟩:=info_parts zvl;rcases h.2 with⟨rfl,rfl⟩|⟨g,cap,cur,rfl,hb,hg,hnc,hcm,hrest⟩
 ·exact ze0 w _ _ _ B c underlying34 A
 ·simp[Builtin.append_,run_underlying underlying34,sizeOf,typeInfo,A,Builtin.lenOf,Builtin.firstCells,hnc,storeCells]
theorem zig(w W:World)(base:Nat){ops:Array Oper}{rest:List Oper}{o:Oper}{a:Act}{Q:Exit→Act→World→Prop}(hgd:o.guard=none)(s x:Operand)
  (ho:o.op=.call {callee:=.builtin .append,args:=#[s,x],argTypes:=#[34,34]})
  (v:Value) (n:Nat) (xs:List Value) (hs:a.eval s=v) (hown:w.ownsRow base 84 2 v n xs) (ao:Option Addr) (c:Nat) (l:List (Int×ByteArray)) (hx:a.eval x=.slice ao l.length c) (hS:SegW w ao l)
  (hn:n+l.length≤1000) (hbase:base≤w.heap.size) (hB:Below base W w)
  (h:∀v' w',Hid (w'.ownsRow base 84 2 v' (n+l.length) (xs++cellsC l))→Hid (Below base W w')→wpList prog ops Q rest (a.put o.dst v') w'):wpList prog ops Q (o::rest) a w:=by
 obtain⟨I,K,F,D,E⟩:=info_parts zvl
 cases ao with
 |none=>
  have J:l=[]:=by rcases hS with h|⟨b,off,he,_⟩;exact h;cases he
  subst J;refine Lib.wpList_append_run w hgd s x _ _ ho _ _ hs hx v w (zgz w base o.type v n c xs hown) (h v w ?_ hB);show w.ownsRow base 84 2 v (n+0) (xs++[]);rw[List.append_nil];exact hown
 |some ad=>
  refine wpList_append_own w hgd s x 34 ho base 84 I (.agg #[.int .i64 0,.string ⟨#[]⟩]) 2 24 underlying34 K F D E rfl (by decide) v n xs hs hown ad l.length c (cellsC l) hx (zdq l) ?_ (zhm l) (by unfold maxLen;omega) (by omega) hbase ?_
  ·intro j u C;rcases hS with h|⟨b,off,he,hlt,hc⟩
   ·rw[h]at C;simp[cellsC]at C
   ·cases he;rw[Addr.add_lit];exact SegC.news hc j u C
  ·intro v' w' B A _;exact h v' w' B (hB.grown A hbase (fun k hk=>(hown.lt k hk).1))
def flatC (L:List (Option Addr×Nat×List (Int×ByteArray))):List (Int×ByteArray):=(L.map (·.2.2)).flatten
theorem zm9{L:List (Option Addr×Nat×List (Int×ByteArray))}{k:Nat}{x:Option Addr×Nat×List (Int×ByteArray)}(h:L[k]?=some x):flatC (L.take (k+1))=flatC (L.take k)++x.2.2:=by
 rw[List.take_add_one,h];simp[flatC]
theorem zk1(L:List (Option Addr×Nat×List (Int×ByteArray)))(k:Nat):(flatC (L.take k)).length≤(flatC L).length:=by
 have:flatC L=flatC (L.take k)++flatC (L.drop k):=by rw[flatC,flatC,flatC,←List.flatten_append,←List.map_append,List.take_append_drop]
 rw[this,List.length_append];omega
def z33 (w:World)(B:Nat)(L:List (Option Addr×Nat×List (Int×ByteArray))):Prop:=
 B<w.heap.size∧∀i x,L[i]?=some x→w.cell? ⟨B,i,none⟩=some (.slice x.1 x.2.2.length x.2.1)∧SegW w x.1 x.2.2
theorem zz9(n:Nat)(w:World)(hn:n≤1000):
  Calls prog 213 #[.slice none 0 0,.int .i64 n] w fun e w'=>∃v',e=.returned v'∧w'.ownsRow w.heap.size 84 2 v' 0 []∧Below w.heap.size w w':=by
 obtain⟨L,N,K,I,E⟩:=info_parts zvl;rcases Nat.eq_zero_or_pos n with rfl|hpos
 ·go_enter func213,ntmps213;go_wp2;go_ret;exact⟨_,rfl,World.ownsRow_nil _ _ _ _,Below.refl _ _⟩
 ·obtain⟨G,C⟩:∃G,G=grownCap w n 0 84:=⟨_,rfl⟩;have A0:n≤G:=by rw[C];exact grownCap_ge w _ _ _
  have D:G≤maxLen:=by rw[C];exact grownCap_le_maxLen w n 0 _ (by unfold maxLen;omega)
  obtain⟨A,B⟩:∃A,A=#[]++Builtin.zeroCells (.agg #[.int .i64 0,.string ⟨#[]⟩]:Value).cells n++Builtin.zeroCells (.agg #[.int .i64 0,.string ⟨#[]⟩]:Value).cells (G - n):=⟨_,rfl⟩
  have F:A.size=G*2:=by
   rw[B,Array.size_append,Array.size_append,size_zeroCells,size_zeroCells];show 0+n*2+(G - n)*2=G*2;omega
  have J:∀ty,(Builtin.append_ #[34,3] ty #[.slice none 0 0,.int .i64 (n:Int)]).run prog w=.ok (.slice (some ⟨w.heap.size,0,none⟩) n G) (w.drew.alloc (.cells A 84)):=fun ty=>by
   have h:=Lib.run_append_grow_zeros (P:=prog) w 34 3 ty 84 L (.agg #[.int .i64 0,.string ⟨#[]⟩]) .i64 .i64 underlying34 underlying3 N K none 0 0 [] (run_firstCells_none w.drew L.size 0 0 0) n hpos (by rw[I];decide) (by omega) (by omega) (by rw[E];omega) (by rw[Nat.zero_add,E];exact growslice_fits (by omega) (by omega));rw[Nat.zero_add,←C]at h;rw[h,B]
  have M:Hid ((w.drew.alloc (.cells A 84)).ownsRow w.heap.size 84 2 (.slice (some ⟨w.heap.size,0,none⟩) 0 G) 0 []):=World.ownsRow_made w.drew A G (Nat.le_refl _) D F;clear C B F;unfold maxLen at D;have h1:¬((n:Int)<0):=by omega
  have h2:(n:Int)>0:=by omega
  go_enter func213,ntmps213;go_wp2_with (at_builtin;refine Lib.wpList_append_run _ rfl _ _ _ _ rfl _ _ rfl rfl _ _ (J _) ?_);go_ret;exact⟨_,rfl,M.o,(Below.refl _ _).drew.alloc (by simp) _⟩
theorem zl8(B m c:Nat)(L:List (Option Addr×Nat×List (Int×ByteArray)))(w:World)(hm:L.length=m)(hm2:m≤1000)(h:z33 w B L)(hn:(flatC L).length≤1000):
  Calls prog 194 #[.slice (some ⟨B,0,none⟩) m c] w fun e w'=>∃v',e=.returned v'∧w'.ownsRow w.heap.size 84 2 v' (flatC L).length (cellsC (flatC L))∧Below w.heap.size w w':=by
 subst hm;have O:=zaa h;clear h;go_enter func194,ntmps194;go_wp2
 go_loop [3,11] (fun s i=>∃k:Nat,k≤L.length∧i=.int .i64 k∧s=.int .i64 ((flatC (L.take k)).length:Int)) (fun _ i=>L.length - (intOf i).toNat)
 case atStart=>exact⟨0,Nat.zero_le _,rfl,rfl⟩
 case round=>
  obtain⟨k,l,rfl,rfl⟩:=hrel;have J:=zk1 L k;by_cases hlt:k<L.length
  ·obtain⟨x,E⟩:∃x,L[k]?=some x:=⟨_,List.getElem?_eq_getElem hlt⟩;have Q:=(O.o.2 k x E).1;have F:Hid ((flatC (L.take (k+1))).length=(flatC (L.take k)).length+x.2.2.length):=by rw[Hid,zm9 E,List.length_append]
   have A:=zk1 L (k+1);rw[F.o]at A;have S:(k:Int)<(L.length:Int):=by omega
   clear E;generalize (flatC (L.take k)).length=q at *;obtain⟨X,b,Y⟩:=x;dsimp only at A Q F;go_wp2
   go_round
   case rel=>exact⟨k+1,by omega,by go_num,by rw[F.o];go_num⟩
   case measure=>simp[intOf];omega
  ·have e:k=L.length:=by omega
   subst e;rw[List.take_length];clear J;obtain⟨N,M⟩:∃N,N=(flatC L).length:=⟨_,rfl⟩;rw[←M]at hn;rw[←M];have Z:=zaa M;clear M;go_wp2_with fail;refine(zz9 N w hn).mono ?_;rintro e w1 ⟨v1,rfl,I,R⟩;have a:=zaa I;have d:=zaa R;clear I R;go_wp2
   go_loopw [6,27] (fun s i wr=>∃(k:Nat),k≤L.length∧i=.int .i64 k∧Hid (wr.ownsRow w.heap.size 84 2 s (flatC (L.take k)).length (cellsC (flatC (L.take k))))∧Hid (Below w.heap.size w wr)) (fun _ i _=>L.length - (intOf i).toNat)
   case atStart=>exact⟨0,Nat.zero_le _,rfl,a,d⟩
   case round=>
    obtain⟨k,l,rfl,D,C⟩:=hrel;have J:=zk1 L k;rw[←Z.o]at J;by_cases hlt:k<L.length
    ·obtain⟨x,E⟩:∃x,L[k]?=some x:=⟨_,List.getElem?_eq_getElem hlt⟩;have Q:=zac C.o O.o.1 (O.o.2 k x E).1;have U:Hid (SegW wr x.1 x.2.2):=(O.o.2 k x E).2.below C.o;have F:Hid (flatC (L.take (k+1))=flatC (L.take k)++x.2.2):=zm9 E;have A:=zk1 L (k+1);rw[F.o,List.length_append,←Z.o]at A;have S:(k:Int)<(L.length:Int):=by omega
     clear E;generalize flatC (L.take k)=q at *;obtain⟨X,b,Y⟩:=x;dsimp only at A Q F U;go_wp2_with (at_builtin;refine zig _ w w.heap.size rfl _ _ rfl _ q.length (cellsC q) rfl D.o X b Y rfl U.o (by omega) C.o.size C.o ?_);intro v' w' K j;clear D C U Q;go_wp2
     go_roundw
     case rel=>exact⟨k+1,by omega,by go_num,by rw[F.o,List.length_append,zdr];exact K,j⟩
     case measure=>simp[intOf];omega
    ·have e:k=L.length:=by omega
     subst e;rw[List.take_length]at D;clear J;go_wp2;go_ret;exact⟨_,rfl,D.o,C.o⟩
theorem ztr(a:Option Addr)(c:Nat)(l:List (Int×ByteArray))(b:Int)(w:World)(h:SegW w a l)(hn:l.length≤1000)(hu:Up (·.1) l):
  Calls Tryz.prog 212 #[.slice a l.length c,.int .i64 b,.func (.func 156) #[] #[]] w fun e w'=>e=.returned (.tuple #[.int .i64 ((l.countP fun x=>decide (x.1<b):Nat):Int),.bool (l.any fun x=>x.1==b)])∧Below w.heap.size w w':=by
 have HS:=zaa h;have p:=zaa hu;clear h hu;obtain⟨cnt,K⟩:∃cnt,cnt=l.countP fun x=>decide (x.1<b):=⟨_,rfl⟩;obtain⟨Q,N⟩:∃Q,Q=l.any fun x=>x.1==b:=⟨_,rfl⟩;rw[←K,←N];have q:=zaa K;have s:=zaa N;have Z:cnt≤l.length:=by rw[K];exact List.countP_le_length
 clear K N;go_enter Tryz.func212,Tryz.ntmps212;go_wp2
 go_loopw [9,10] (fun i j wr=>∃F A:Nat,i=.int .i64 F∧j=.int .i64 A∧F≤cnt∧cnt≤A∧A≤l.length∧Below w.heap.size w wr) (fun i j _=>(intOf j).toNat - (intOf i).toNat)
 case atStart=>exact⟨0,l.length,rfl,rfl,Nat.zero_le _,Z,Nat.le_refl _,Below.refl _ _⟩
 case round=>
  obtain⟨F,A,rfl,rfl,Y,k,u,D⟩:=hrel;by_cases hlt:F<A
  ·obtain⟨m,hm⟩:∃m,m=(F+A)/2:=⟨_,rfl⟩;have O:m<l.length:=by omega
   have A2:((F:Int)+(A:Int))/2=(m:Int):=by omega
   have A4:F≤m:=by omega
   have A3:m<A:=by omega
   clear hm;obtain⟨b2,off,rfl,hb,S⟩:=HS.o.resolve_left (by intro e;rw[e]at O;simp at O);obtain⟨x,M⟩:∃x,x=l.getD m (0,ByteArray.empty):=⟨_,rfl⟩;obtain⟨J,I⟩:=S m O;rw[←M]at J I;have g1:=zac D hb J;have g2:=zac D hb I;have r:Hid (l[m]?=some x):=by rw[M];exact zce _ _ _ O
   have B:x.1<b↔m<l.countP (fun x=>decide (x.1<b)):=z5l p.o b r.o;rw[←q.o]at B;clear M S J I;obtain⟨n,t⟩:=x;dsimp only at B;have A1:(F:Int)<(A:Int):=by omega
   have X:(m:Int)<(l.length:Int):=by omega
   by_cases hk:n<b
   ·have hq:m<cnt:=B.1 hk;have C:cmpI (n) b= -1:=ztq hk;go_wp2_with fail;refine(zim n t b _).mono ?_;rintro e w' ⟨rfl,E⟩;rw[C];have L:=zae D E;clear hk B C E;go_wp2
    go_roundw
    case rel=>exact⟨m+1,A,by go_num,rfl,by omega,k,u,L⟩
    case measure=>simp[intOf];omega
   ·have hq:cnt≤m:=by have:=mt B.2 hk;omega
    have C:¬cmpI (n) b<0:=zz8 hk;go_wp2_with fail;refine(zim n t b _).mono ?_;rintro e w' ⟨rfl,E⟩;have L:=zae D E;generalize cmpI (n) b=z at *;clear hk B E;go_wp2
    go_roundw
    case rel=>exact⟨F,m,rfl,rfl,Y,hq,by omega,L⟩
    case measure=>simp[intOf];omega
  ·obtain rfl:F=cnt:=by omega
   obtain rfl:A=F:=by omega
   clear Y k Z;by_cases hlast:A<l.length
   ·obtain⟨b2,off,rfl,hb,S⟩:=HS.o.resolve_left (by intro e;rw[e]at hlast;simp at hlast);obtain⟨x,M⟩:∃x,x=l.getD A (0,ByteArray.empty):=⟨_,rfl⟩;obtain⟨J,I⟩:=S A hlast;rw[←M]at J I;have g1:=zac D hb J;have g2:=zac D hb I;have r:Hid (l[A]?=some x):=by rw[M];exact zce _ _ _ hlast
    have U:Q=(x.1==b):=by
     have R:(l.any fun x=>x.1==b)=true↔∃x,l[l.countP fun x=>decide (x.1<b)]?=some x∧x.1=b:=zd3 p.o b;rw[s.o,Bool.eq_iff_iff,R,←q.o,r.o];constructor
     ·rintro⟨y,e,hy⟩;cases e;simpa using hy
     ·intro e;exact⟨x,rfl,by simpa using e⟩
    have d:=zaa U;clear M S J I U;obtain⟨n,t⟩:=x;dsimp only at d;have X:(A:Int)<(l.length:Int):=by omega
    have C:=zq7 (n) b;go_wp2_with fail;refine(zim n t b _).mono ?_;rintro e w' ⟨rfl,E⟩;have L:=zae D E;have A0:=zaa C;generalize cmpI (n) b=z at *;clear C E;go_wp2
    go_ret2
    exact⟨by rw[d.o,←A0.o];rfl,L⟩
   ·have U:Q=false:=by
     have R:(l.any fun x=>x.1==b)=true↔∃x,l[l.countP fun x=>decide (x.1<b)]?=some x∧x.1=b:=zd3 p.o b;rw[s.o,←Bool.not_eq_true,R,←q.o,List.getElem?_eq_none (by omega)];rintro⟨y,e,_⟩;cases e
    have X:¬(A:Int)<(l.length:Int):=by omega
    subst U;go_wp2
    go_ret2
    exact⟨rfl,D⟩
open Go.Proofs.Tryz
theorem zjk{w:World}{a:Option Addr}{l:List (Int×ByteArray)}(h:SegW w a l)(k:Nat)(hk:k≤l.length):SegW w a (l.take k):=by
 rcases h with h|⟨b,off,rfl,hlt,hc⟩
 ·exact .inl (by rw[h];simp)
 ·refine .inr ⟨b,off,rfl,hlt,fun i hi=>?_⟩;have A:i<k:=by simp at hi;omega
  have e:(l.take k).getD i (0,ByteArray.empty)=l.getD i (0,ByteArray.empty):=by rw[List.getD,List.getD,List.getElem?_take_of_lt A]
  rw[e];exact hc i (by omega)
theorem zq8{w:World}{b off:Nat}{l:List (Int×ByteArray)}(h:SegW w (some ⟨b,off,none⟩) l)(k:Nat):SegW w (some ⟨b,off+k*2,none⟩) (l.drop k):=by
 rcases h with h|⟨b',off',e,hlt,hc⟩
 ·exact .inl (by rw[h];simp)
 ·cases e;refine .inr ⟨b,off+k*2,rfl,hlt,fun i hi=>?_⟩;have e:(l.drop k).getD i (0,ByteArray.empty)=l.getD (k+i) (0,ByteArray.empty):=by rw[List.getD,List.getD,List.getElem?_drop]
  rw[e];have:=hc (k+i) (by simp at hi;omega);refine⟨?_,?_⟩
  ·rw[show off+k*2+i*2=off+(k+i)*2 from by omega];exact this.1
  ·rw[show off+k*2+i*2+1=off+(k+i)*2+1 from by omega];exact this.2
def ze9 (l:List (Int×ByteArray))(b:Int):List (Int×ByteArray):=l.filter fun x=>decide (x.1<b)
def zc2 (l:List (Int×ByteArray))(b:Int):List (Int×ByteArray):=l.filter fun x=>decide (b<x.1)
theorem zl9(base:Nat)(v:Value)(l:List (Int×ByteArray))(b:Int)(w:World)(hown:w.ownsRow base 84 2 v l.length (cellsC l))(hn:l.length≤1000)(hu:Up (·.1) l):
  Calls prog 193 #[v,.int .i64 b,.func (.func 156) #[] #[]] w fun e w'=>∃a1 c1 a2 c2,e=.returned (.tuple #[.slice a1 (ze9 l b).length c1,.slice a2 (zc2 l b).length c2])∧SegW w' a1 (ze9 l b)∧SegW w' a2 (zc2 l b)∧Below w.heap.size w w':=by
 have E:l.take (l.countP fun x=>decide (x.1<b))=ze9 l b∧l.drop (l.countP fun x=>decide (x.1<b))=l.filter (fun x=>decide (b≤x.1)):=zyd hu b;have F:(l.any fun x=>x.1==b)=true↔∃x,l[l.countP fun x=>decide (x.1<b)]?=some x∧x.1=b:=zd3 hu b;obtain⟨j,c0,S,K,_⟩:=SegC.of_owns hown;have A:=ztr j c0 l b w K hn hu;rw[←S]at A;obtain⟨cnt,D⟩:∃cnt,cnt=l.countP fun x=>decide (x.1<b):=⟨_,rfl⟩;have i:cnt≤l.length:=by rw[D];exact List.countP_le_length
 rw[←D]at E F A;have U:(ze9 l b).length=cnt:=by rw[←E.1,List.length_take];omega
 have Y:=zaa E.1;have X:=zaa U
 cases hf:l.any fun x=>x.1==b with
 |true=>
  obtain⟨x,Q,a⟩:=F.1 hf;have A0:cnt<l.length:=(List.getElem?_eq_some_iff.1 Q).1
  have I:l.drop (cnt+1)=zc2 l b:=by
   rw[D]at Q⊢;exact z3l hu b x Q a
  have M:(zc2 l b).length=l.length - (cnt+1):=by rw[←I,List.length_drop]
  have R:=zaa I;have J:=zaa M;rw[hf]at A;clear Q a hf F E D I M U;rcases hown.2 with⟨rfl,h0⟩|⟨g,cap,cur,rfl,hb,hg,hnc,hcm,_⟩
  ·omega
  ·unfold maxLen at hcm;simp only[Value.slice.injEq]at S;obtain⟨rfl,_,rfl⟩:=S;have O:=zaa K;have c:(cnt:Int)<(l.length:Int):=by omega
   have N:(l.length:Int)≤(cap:Int):=by omega
   clear hown K hg;by_cases hz:cap=cnt+1
   ·subst hz;have L:Hid (l.length≤cnt+1):=by unfold Hid;omega
    clear hnc N;have N:(l.length:Int)≤(cnt:Int)+1:=by have:=L.o;omega
    go_enter func193,ntmps193;go_wp2_with fail;refine A.mono ?_;rintro e Z ⟨rfl,B⟩;have C:=zaa B;clear A B;go_wp2
    go_quiet (fail)
    go_wp2
    go_ret2
    refine⟨_,_,_,_,by rw[X.o,J.o];rfl,?_,?_,below_drewN C.o _⟩
    ·rw[←Y.o];exact(zjk O.o cnt (by omega)).below (below_drewN C.o _)
    ·refine .inl ?_;rw[←R.o];exact List.drop_of_length_le L.o
   ·have d:¬(cap - (cnt+1)=0):=by omega
    go_enter func193,ntmps193;go_wp2_with fail;refine A.mono ?_;rintro e Z ⟨rfl,B⟩;have C:=zaa B;clear A B;go_wp2
    go_quiet (fail)
    go_wp2
    go_ret2
    refine⟨_,_,_,_,by rw[X.o,J.o];rfl,?_,?_,below_drewN C.o _⟩
    ·rw[←Y.o];exact(zjk O.o cnt (by omega)).below (below_drewN C.o _)
    ·rw[←R.o];have hd:=zq8 O.o (cnt+1);rw[Nat.zero_add]at hd;exact hd.below (below_drewN C.o _)
 |false=>
  have I:l.drop cnt=zc2 l b:=by
   rw[E.2];refine zye hu b fun x Q hk=>?_;rw[D]at F;rw[F.2 ⟨x,Q,hk⟩]at hf;cases hf
  have M:(zc2 l b).length=l.length - cnt:=by rw[←I,List.length_drop]
  have R:=zaa I;have J:=zaa M;rw[hf]at A;clear hf F E D I M U;rcases hown.2 with⟨rfl,h0⟩|⟨g,cap,cur,rfl,hb,hg,hnc,hcm,_⟩
  ·have h:l=[]:=List.eq_nil_of_length_eq_zero h0;subst h;obtain rfl:cnt=0:=by simpa using i
   clear hown K S;go_enter func193,ntmps193;go_wp2_with fail;refine A.mono ?_;rintro e Z ⟨rfl,B⟩;have C:=zaa B;clear A B;go_wp2
   go_quiet (fail)
   go_wp2
   go_ret2
   refine⟨_,_,_,_,by rw[X.o,J.o];rfl,.inl ?_,.inl ?_,below_drewN C.o _⟩
   ·rw[←Y.o];rfl
   ·rw[←R.o];rfl
  ·unfold maxLen at hcm;simp only[Value.slice.injEq]at S;obtain⟨rfl,_,rfl⟩:=S;have O:=zaa K;have c:(cnt:Int)≤(l.length:Int):=by omega
   have N:(l.length:Int)≤(cap:Int):=by omega
   clear hown K hg;by_cases hz:cap=cnt
   ·subst hz;have L:Hid (l.length≤cap):=by unfold Hid;omega
    go_enter func193,ntmps193;go_wp2_with fail;refine A.mono ?_;rintro e Z ⟨rfl,B⟩;have C:=zaa B;clear A B;go_wp2
    go_quiet (fail)
    go_wp2
    go_ret2
    refine⟨_,_,_,_,by rw[X.o,J.o,show l.length - cap=0 from by have:=L.o;omega];rfl,?_,?_,below_drewN C.o _⟩
    ·rw[←Y.o];exact(zjk O.o cap (by omega)).below (below_drewN C.o _)
    ·refine .inl ?_;rw[←R.o];exact List.drop_of_length_le L.o
   ·have d:¬(cap - cnt=0):=by omega
    go_enter func193,ntmps193;go_wp2_with fail;refine A.mono ?_;rintro e Z ⟨rfl,B⟩;have C:=zaa B;clear A B;go_wp2
    go_quiet (fail)
    go_wp2
    go_ret2
    refine⟨_,_,_,_,by rw[X.o,J.o];rfl,?_,?_,below_drewN C.o _⟩
    ·rw[←Y.o];exact(zjk O.o cnt (by omega)).below (below_drewN C.o _)
    ·rw[←R.o];have hd:=zq8 O.o cnt;rw[Nat.zero_add]at hd;exact hd.below (below_drewN C.o _)
theorem zq9(l:List (Int×ByteArray))(b:Int):(ze9 l b).length≤l.length:=List.length_filter_le _ _
theorem znu(l:List (Int×ByteArray))(b:Int):(zc2 l b).length≤l.length:=List.length_filter_le _ _
theorem zra(base:Nat)(v:Value)(l:List (Int×ByteArray))(b:Int)(s:ByteArray)(w:World)(hown:w.ownsRow base 84 2 v l.length (cellsC l))(hn:l.length≤100)(hu:Up (·.1) l):
  Calls prog 155 #[v,.int .i64 b,.func (.func 156) #[] #[],.agg #[.int .i64 b,.string s]] w fun e w'=>∃v',e=.returned v'∧w'.ownsRow w.heap.size 84 2 v' (zbj (·.1) l b (b,s)).length (cellsC (zbj (·.1) l b (b,s)))∧Below w.heap.size w w':=by
 have X:=zaa hown;clear hown;go_enter func155,ntmps155;go_wp2_with fail;refine(zl9 base v l b _ (zah X.o (zab _ _)) (by omega) hu).mono ?_;rintro e A ⟨F,c1,E,c2,rfl,D,J,C⟩;have O:=zaa D;have M:=zaa J;have D:w.heap.size<A.heap.size:=by have:=C.size;simp at this;omega
 have y0:=zac C (b:=w.heap.size) (o:=0) (v:=.int .i64 b) (by simp) (by simp[go_sem]);have y1:=zac C (b:=w.heap.size) (o:=1) (v:=.string s) (by simp) (by simp[go_sem]);have S:=zaa (zae (zab _ _) C);have q1:=zq9 l b;have q2:=znu l b;have A0:=S.o.size;clear D J C
 have a:Hid (∀w',Below A.heap.size A w'→w'.cell? ⟨A.heap.size+1,0,none⟩=some (.slice F (ze9 l b).length c1)→w'.cell? ⟨A.heap.size+1,1,none⟩=some (.slice (some ⟨A.heap.size,0,none⟩) 1 1)→w'.cell? ⟨A.heap.size+1,2,none⟩=some (.slice E (zc2 l b).length c2)→SegW w' (some ⟨A.heap.size,0,none⟩) [(b,s)]→A.heap.size+1<w'.heap.size→z33 w' (A.heap.size+1) [(F,c1,ze9 l b),(some ⟨A.heap.size,0,none⟩,1,[(b,s)]),(E,c2,zc2 l b)]):=by
  intro w' hb c Z Y K N;refine⟨N,fun i x hx=>?_⟩
  match i,hx with
  |0,hx=>cases hx;exact⟨c,O.o.below hb⟩
  |1,hx=>cases hx;exact⟨Z,K⟩
  |2,hx=>cases hx;exact⟨Y,M.o.below hb⟩
  |n+3,hx=>simp at hx
 have U:Hid (flatC [(F,c1,ze9 l b),(some ⟨A.heap.size,0,none⟩,1,[(b,s)]),(E,c2,zc2 l b)]=zbj (·.1) l b (b,s)):=by simp[Hid,flatC,ze9,zc2,zbj]
 go_wp2_with fail;refine(zl8 (A.heap.size+1) 3 3 [(F,c1,ze9 l b),(some ⟨A.heap.size,0,none⟩,1,[(b,s)]),(E,c2,zc2 l b)] _ rfl (by omega) (a.o _ (zae (zab _ _) (zab _ _)) (by simp[go_sem]) (by simp[go_sem]) (by simp[go_sem]) (.inr ⟨A.heap.size,0,rfl,by simp;omega,fun i hi=>?_⟩) (by simp)) (by simp[flatC];omega)).mono ?_
 ·have:i=0:=by simpa using hi
  subst this;exact⟨by simp[go_sem],by simp[go_sem]⟩
 ·rintro e w2 ⟨v2,rfl,B,I⟩;rw[U.o]at B;have R:=zaa B;have L:=zae (zae (zab _ _) (zab _ _)) I;have Q:=zaa (zae S.o L);clear B I;go_wp2;go_ret;refine⟨_,rfl,za8 R.o ?_,Q.o⟩;simp;omega
theorem zkl(base:Nat)(v:Value)(l:List (Int×ByteArray))(b:Int)(w:World)(hown:w.ownsRow base 84 2 v l.length (cellsC l))(hn:l.length≤100)(hu:Up (·.1) l):
  Calls prog 161 #[v,.int .i64 b,.func (.func 156) #[] #[]] w fun e w'=>∃v',e=.returned v'∧w'.ownsRow w.heap.size 84 2 v' (zay (·.1) l b).length (cellsC (zay (·.1) l b))∧Below w.heap.size w w':=by
 have S:=zaa hown;clear hown;go_enter func161,ntmps161;go_wp2_with fail;refine(zl9 base v l b _ S.o (by omega) hu).mono ?_;rintro e B ⟨D,c1,C,c2,rfl,E,J,F⟩;have M:=zaa E;have K:=zaa J;have Q:=zaa F;have q1:=zq9 l b;have q2:=znu l b;have A0:=Q.o.size;clear E J F
 have X:Hid (∀w',Below B.heap.size B w'→w'.cell? ⟨B.heap.size,0,none⟩=some (.slice D (ze9 l b).length c1)→w'.cell? ⟨B.heap.size,1,none⟩=some (.slice C (zc2 l b).length c2)→B.heap.size<w'.heap.size→z33 w' B.heap.size [(D,c1,ze9 l b),(C,c2,zc2 l b)]):=by
  intro w' hb Y U L;refine⟨L,fun i x hx=>?_⟩
  match i,hx with
  |0,hx=>cases hx;exact⟨Y,M.o.below hb⟩
  |1,hx=>cases hx;exact⟨U,K.o.below hb⟩
  |n+2,hx=>simp at hx
 have R:Hid (flatC [(D,c1,ze9 l b),(C,c2,zc2 l b)]=zay (·.1) l b):=by simp[Hid,flatC,ze9,zc2,zay]
 go_wp2_with fail;refine(zl8 B.heap.size 2 2 [(D,c1,ze9 l b),(C,c2,zc2 l b)] _ rfl (by omega) (X.o _ (zab _ _) (by simp[go_sem]) (by simp[go_sem]) (by simp)) (by simp[flatC];omega)).mono ?_;rintro e w2 ⟨v2,rfl,A,I⟩;rw[R.o]at A;have O:=zaa A;have N:=zaa (zae Q.o (zae (zab _ _) I));clear A I;go_wp2;go_ret;refine⟨_,rfl,za8 O.o ?_,N.o⟩;simp;omega
theorem zts(a:Option Addr)(c:Nat)(l:List Int)(b:Int)(w:World)(h:SegI w a l)(hn:l.length≤1000)(hu:Up id l):
  Calls Tryz.prog 214 #[.slice a l.length c,.int .i64 b,.func (.func 158) #[] #[]] w fun e w'=>e=.returned (.tuple #[.int .i64 ((l.countP fun x=>decide (x<b):Nat):Int),.bool (l.any fun x=>x==b)])∧Below w.heap.size w w':=by
 have r:=zaa h;have d:=zaa hu;clear h hu;obtain⟨cnt,J⟩:∃cnt,cnt=l.countP fun x=>decide (x<b):=⟨_,rfl⟩;obtain⟨O,M⟩:∃O,O=l.any fun x=>x==b:=⟨_,rfl⟩;rw[←J,←M];have k:=zaa J;have p:=zaa M;have Y:cnt≤l.length:=by rw[J];exact List.countP_le_length
 clear J M;go_enter Tryz.func214,Tryz.ntmps214;go_wp2
 go_loopw [9,10] (fun i j wr=>∃D A:Nat,i=.int .i64 D∧j=.int .i64 A∧D≤cnt∧cnt≤A∧A≤l.length∧Below w.heap.size w wr) (fun i j _=>(intOf j).toNat - (intOf i).toNat)
 case atStart=>exact⟨0,l.length,rfl,rfl,Nat.zero_le _,Y,Nat.le_refl _,Below.refl _ _⟩
 case round=>
  obtain⟨D,A,rfl,rfl,X,Z,q,I⟩:=hrel;by_cases hlt:D<A
  ·obtain⟨m,hm⟩:∃m,m=(D+A)/2:=⟨_,rfl⟩;have N:m<l.length:=by omega
   have A1:((D:Int)+(A:Int))/2=(m:Int):=by omega
   have A3:D≤m:=by omega
   have A2:m<A:=by omega
   clear hm;obtain⟨b2,off,rfl,hb,R⟩:=r.o.resolve_left (by intro e;rw[e]at N;simp at N);obtain⟨x,L⟩:∃x,x=l.getD m 0:=⟨_,rfl⟩;have F:=R m N;rw[←L]at F;have g1:=zac I hb F;have n:Hid (l[m]?=some x):=by rw[L];exact zce _ _ _ N
   have E:x<b↔m<l.countP (fun x=>decide (x<b)):=z5l d.o b n.o;rw[←k.o]at E;clear L R F;have A0:(D:Int)<(A:Int):=by omega
   have U:(m:Int)<(l.length:Int):=by omega
   by_cases hk:x<b
   ·have hq:m<cnt:=E.1 hk;have B:cmpI (x) b= -1:=ztq hk;go_wp2_with fail;refine(zhf x b _).mono ?_;rintro e w' ⟨rfl,C⟩;rw[B];have K:=zae I C;clear hk E B C;go_wp2
    go_roundw
    case rel=>exact⟨m+1,A,by go_num,rfl,by omega,Z,q,K⟩
    case measure=>simp[intOf];omega
   ·have hq:cnt≤m:=by have:=mt E.2 hk;omega
    have B:¬cmpI (x) b<0:=zz8 hk;go_wp2_with fail;refine(zhf x b _).mono ?_;rintro e w' ⟨rfl,C⟩;have K:=zae I C;generalize cmpI (x) b=z at *;clear hk E C;go_wp2
    go_roundw
    case rel=>exact⟨D,m,rfl,rfl,X,hq,by omega,K⟩
    case measure=>simp[intOf];omega
  ·obtain rfl:D=cnt:=by omega
   obtain rfl:A=D:=by omega
   clear X Z Y;by_cases hlast:A<l.length
   ·obtain⟨b2,off,rfl,hb,R⟩:=r.o.resolve_left (by intro e;rw[e]at hlast;simp at hlast);obtain⟨x,L⟩:∃x,x=l.getD A 0:=⟨_,rfl⟩;have F:=R A hlast;rw[←L]at F;have g1:=zac I hb F;have n:Hid (l[A]?=some x):=by rw[L];exact zce _ _ _ hlast
    have S:O=(x==b):=by
     have Q:(l.any fun x=>x==b)=true↔∃x,l[l.countP fun x=>decide (x<b)]?=some x∧x=b:=zd3 d.o b;rw[p.o,Bool.eq_iff_iff,Q,←k.o,n.o];constructor
     ·rintro⟨y,e,hy⟩;cases e;simpa using hy
     ·intro e;exact⟨x,rfl,by simpa using e⟩
    have u:=zaa S;clear L R F S;have U:(A:Int)<(l.length:Int):=by omega
    have B:=zq7 (x) b;go_wp2_with fail;refine(zhf x b _).mono ?_;rintro e w' ⟨rfl,C⟩;have K:=zae I C;have s:=zaa B;generalize cmpI (x) b=z at *;clear B C;go_wp2
    go_ret2
    exact⟨by rw[u.o,←s.o];rfl,K⟩
   ·have S:O=false:=by
     have Q:(l.any fun x=>x==b)=true↔∃x,l[l.countP fun x=>decide (x<b)]?=some x∧x=b:=zd3 d.o b;rw[p.o,←Bool.not_eq_true,Q,←k.o,List.getElem?_eq_none (by omega)];rintro⟨y,e,_⟩;cases e
    have U:¬(A:Int)<(l.length:Int):=by omega
    subst S;go_wp2
    go_ret2
    exact⟨rfl,I⟩
open Go.Proofs.Tryz
theorem zjl{w:World}{a:Option Addr}{l:List Int}(h:SegI w a l)(k:Nat)(hk:k≤l.length):SegI w a (l.take k):=by
 rcases h with h|⟨b,off,rfl,hlt,hc⟩
 ·exact .inl (by rw[h];simp)
 ·refine .inr ⟨b,off,rfl,hlt,fun i hi=>?_⟩;have A:i<k:=by simp at hi;omega
  have e:(l.take k).getD i 0=l.getD i 0:=by rw[List.getD,List.getD,List.getElem?_take_of_lt A]
  rw[e];exact hc i (by omega)
theorem zrb{w:World}{b off:Nat}{l:List Int}(h:SegI w (some ⟨b,off,none⟩) l)(k:Nat):SegI w (some ⟨b,off+k*1,none⟩) (l.drop k):=by
 rcases h with h|⟨b',off',e,hlt,hc⟩
 ·exact .inl (by rw[h];simp)
 ·cases e;refine .inr ⟨b,off+k*1,rfl,hlt,fun i hi=>?_⟩;have e:(l.drop k).getD i 0=l.getD (k+i) 0:=by rw[List.getD,List.getD,List.getElem?_drop]
  rw[e];have:=hc (k+i) (by simp at hi;omega);rw[show off+k*1+i=off+(k+i) from by omega];exact this
def zfa (l:List Int)(b:Int):List Int:=l.filter fun x=>decide (x<b)
def zc3 (l:List Int)(b:Int):List Int:=l.filter fun x=>decide (b<x)
theorem zma(base:Nat)(v:Value)(l:List Int)(b:Int)(w:World)(hown:w.ownsRow base 3 1 v l.length (cellsI l))(hn:l.length≤1000)(hu:Up id l):
  Calls prog 195 #[v,.int .i64 b,.func (.func 158) #[] #[]] w fun e w'=>∃a1 c1 a2 c2,e=.returned (.tuple #[.slice a1 (zfa l b).length c1,.slice a2 (zc3 l b).length c2])∧SegI w' a1 (zfa l b)∧SegI w' a2 (zc3 l b)∧Below w.heap.size w w':=by
 have E:l.take (l.countP fun x=>decide (x<b))=zfa l b∧l.drop (l.countP fun x=>decide (x<b))=l.filter (fun x=>decide (b≤x)):=zyd hu b;have F:(l.any fun x=>x==b)=true↔∃x,l[l.countP fun x=>decide (x<b)]?=some x∧x=b:=zd3 hu b;obtain⟨j,c0,S,K,_⟩:=SegI.of_owns hown;have A:=zts j c0 l b w K hn hu;rw[←S]at A;obtain⟨cnt,D⟩:∃cnt,cnt=l.countP fun x=>decide (x<b):=⟨_,rfl⟩;have i:cnt≤l.length:=by rw[D];exact List.countP_le_length
 rw[←D]at E F A;have U:(zfa l b).length=cnt:=by rw[←E.1,List.length_take];omega
 have Y:=zaa E.1;have X:=zaa U
 cases hf:l.any fun x=>x==b with
 |true=>
  obtain⟨x,Q,a⟩:=F.1 hf;have A0:cnt<l.length:=(List.getElem?_eq_some_iff.1 Q).1
  have I:l.drop (cnt+1)=zc3 l b:=by
   rw[D]at Q⊢;exact z3l hu b x Q a
  have M:(zc3 l b).length=l.length - (cnt+1):=by rw[←I,List.length_drop]
  have R:=zaa I;have J:=zaa M;rw[hf]at A;clear Q a hf F E D I M U;rcases hown.2 with⟨rfl,h0⟩|⟨g,cap,cur,rfl,hb,hg,hnc,hcm,_⟩
  ·omega
  ·unfold maxLen at hcm;simp only[Value.slice.injEq]at S;obtain⟨rfl,_,rfl⟩:=S;have O:=zaa K;have c:(cnt:Int)<(l.length:Int):=by omega
   have N:(l.length:Int)≤(cap:Int):=by omega
   clear hown K hg;by_cases hz:cap=cnt+1
   ·subst hz;have L:Hid (l.length≤cnt+1):=by unfold Hid;omega
    clear hnc N;have N:(l.length:Int)≤(cnt:Int)+1:=by have:=L.o;omega
    go_enter func195,ntmps195;go_wp2_with fail;refine A.mono ?_;rintro e Z ⟨rfl,B⟩;have C:=zaa B;clear A B;go_wp2
    go_quiet (fail)
    go_wp2
    go_ret2
    refine⟨_,_,_,_,by rw[X.o,J.o];rfl,?_,?_,below_drewN C.o _⟩
    ·rw[←Y.o];exact(zjl O.o cnt (by omega)).below (below_drewN C.o _)
    ·refine .inl ?_;rw[←R.o];exact List.drop_of_length_le L.o
   ·have d:¬(cap - (cnt+1)=0):=by omega
    go_enter func195,ntmps195;go_wp2_with fail;refine A.mono ?_;rintro e Z ⟨rfl,B⟩;have C:=zaa B;clear A B;go_wp2
    go_quiet (fail)
    go_wp2
    go_ret2
    refine⟨_,_,_,_,by rw[X.o,J.o];rfl,?_,?_,below_drewN C.o _⟩
    ·rw[←Y.o];exact(zjl O.o cnt (by omega)).below (below_drewN C.o _)
    ·rw[←R.o];have hd:=zrb O.o (cnt+1);rw[Nat.zero_add,Nat.mul_one]at hd;exact hd.below (below_drewN C.o _)
 |false=>
  have I:l.drop cnt=zc3 l b:=by
   rw[E.2];refine zye hu b fun x Q hk=>?_;rw[D]at F;rw[F.2 ⟨x,Q,hk⟩]at hf;cases hf
  have M:(zc3 l b).length=l.length - cnt:=by rw[←I,List.length_drop]
  have R:=zaa I;have J:=zaa M;rw[hf]at A;clear hf F E D I M U;rcases hown.2 with⟨rfl,h0⟩|⟨g,cap,cur,rfl,hb,hg,hnc,hcm,_⟩
  ·have h:l=[]:=List.eq_nil_of_length_eq_zero h0;subst h;obtain rfl:cnt=0:=by simpa using i
   clear hown K S;go_enter func195,ntmps195;go_wp2_with fail;refine A.mono ?_;rintro e Z ⟨rfl,B⟩;have C:=zaa B;clear A B;go_wp2
   go_quiet (fail)
   go_wp2
   go_ret2
   refine⟨_,_,_,_,by rw[X.o,J.o];rfl,.inl ?_,.inl ?_,below_drewN C.o _⟩
   ·rw[←Y.o];rfl
   ·rw[←R.o];rfl
  ·unfold maxLen at hcm;simp only[Value.slice.injEq]at S;obtain⟨rfl,_,rfl⟩:=S;have O:=zaa K;have c:(cnt:Int)≤(l.length:Int):=by omega
   have N:(l.length:Int)≤(cap:Int):=by omega
   clear hown K hg;by_cases hz:cap=cnt
   ·subst hz;have L:Hid (l.length≤cap):=by unfold Hid;omega
    go_enter func195,ntmps195;go_wp2_with fail;refine A.mono ?_;rintro e Z ⟨rfl,B⟩;have C:=zaa B;clear A B;go_wp2
    go_quiet (fail)
    go_wp2
    go_ret2
    refine⟨_,_,_,_,by rw[X.o,J.o,show l.length - cap=0 from by have:=L.o;omega];rfl,?_,?_,below_drewN C.o _⟩
    ·rw[←Y.o];exact(zjl O.o cap (by omega)).below (below_drewN C.o _)
    ·refine .inl ?_;rw[←R.o];exact List.drop_of_length_le L.o
   ·have d:¬(cap - cnt=0):=by omega
    go_enter func195,ntmps195;go_wp2_with fail;refine A.mono ?_;rintro e Z ⟨rfl,B⟩;have C:=zaa B;clear A B;go_wp2
    go_quiet (fail)
    go_wp2
    go_ret2
    refine⟨_,_,_,_,by rw[X.o,J.o];rfl,?_,?_,below_drewN C.o _⟩
    ·rw[←Y.o];exact(zjl O.o cnt (by omega)).below (below_drewN C.o _)
    ·rw[←R.o];have hd:=zrb O.o cnt;rw[Nat.zero_add,Nat.mul_one]at hd;exact hd.below (below_drewN C.o _)
theorem zrc(l:List Int)(b:Int):(zfa l b).length≤l.length:=List.length_filter_le _ _
theorem znv(l:List Int)(b:Int):(zc3 l b).length≤l.length:=List.length_filter_le _ _
theorem z0a(base:Nat)(v:Value)(l:List Int)(b:Int)(w:World)(hown:w.ownsRow base 3 1 v l.length (cellsI l))(hn:l.length≤100)(hu:Up id l):
  Calls prog 162 #[v,.int .i64 b,.func (.func 158) #[] #[],.int .i64 b] w fun e w'=>∃v',e=.returned v'∧w'.ownsRow w.heap.size 3 1 v' (zbj id l b b).length (cellsI (zbj id l b b))∧Below w.heap.size w w':=by
 have X:=zaa hown;clear hown;go_enter func162,ntmps162;go_wp2_with fail;refine(zma base v l b _ X.o (by omega) hu).mono ?_;rintro e A ⟨D,c1,C,c2,rfl,E,J,F⟩;have O:=zaa E;have M:=zaa J;have S:=zaa F;have q1:=zrc l b;have q2:=znv l b;have A0:=S.o.size;clear E J F
 have a:Hid (∀w',Below A.heap.size A w'→w'.cell? ⟨A.heap.size+1,0,none⟩=some (.slice D (zfa l b).length c1)→w'.cell? ⟨A.heap.size+1,1,none⟩=some (.slice (some ⟨A.heap.size,0,none⟩) 1 1)→w'.cell? ⟨A.heap.size+1,2,none⟩=some (.slice C (zc3 l b).length c2)→SegI w' (some ⟨A.heap.size,0,none⟩) [b]→A.heap.size+1<w'.heap.size→zyo w' (A.heap.size+1) [(D,c1,zfa l b),(some ⟨A.heap.size,0,none⟩,1,[b]),(C,c2,zc3 l b)]):=by
  intro w' hb c Z Y K N;refine⟨N,fun i x hx=>?_⟩
  match i,hx with
  |0,hx=>cases hx;exact⟨c,O.o.below hb⟩
  |1,hx=>cases hx;exact⟨Z,K⟩
  |2,hx=>cases hx;exact⟨Y,M.o.below hb⟩
  |n+3,hx=>simp at hx
 have U:Hid (flatI [(D,c1,zfa l b),(some ⟨A.heap.size,0,none⟩,1,[b]),(C,c2,zc3 l b)]=zbj id l b b):=by simp[Hid,flatI,zfa,zc3,zbj]
 go_wp2_with fail;refine(zih (A.heap.size+1) 3 3 [(D,c1,zfa l b),(some ⟨A.heap.size,0,none⟩,1,[b]),(C,c2,zc3 l b)] _ rfl (by omega) (a.o _ (zae (zab _ _) (zab _ _)) (by simp[go_sem]) (by simp[go_sem]) (by simp[go_sem]) (.inr ⟨A.heap.size,0,rfl,by simp;omega,fun i hi=>?_⟩) (by simp)) (by simp[flatI];omega)).mono ?_
 ·have:i=0:=by simpa using hi
  subst this;simp[go_sem]
 ·rintro e w2 ⟨v2,rfl,B,I⟩;rw[U.o]at B;have R:=zaa B;have L:=zae (zae (zab _ _) (zab _ _)) I;have Q:=zaa (zae S.o L);clear B I;go_wp2;go_ret;refine⟨_,rfl,za8 R.o ?_,Q.o⟩;simp;omega
theorem zrd(base:Nat)(v:Value)(l:List Int)(b:Int)(w:World)(hown:w.ownsRow base 3 1 v l.length (cellsI l))(hn:l.length≤100)(hu:Up id l):
  Calls prog 157 #[v,.int .i64 b,.func (.func 158) #[] #[]] w fun e w'=>∃v',e=.returned v'∧w'.ownsRow w.heap.size 3 1 v' (zay id l b).length (cellsI (zay id l b))∧Below w.heap.size w w':=by
 have S:=zaa hown;clear hown;go_enter func157,ntmps157;go_wp2_with fail;refine(zma base v l b _ S.o (by omega) hu).mono ?_;rintro e B ⟨D,c1,C,c2,rfl,E,J,F⟩;have M:=zaa E;have K:=zaa J;have Q:=zaa F;have q1:=zrc l b;have q2:=znv l b;have A0:=Q.o.size;clear E J F
 have X:Hid (∀w',Below B.heap.size B w'→w'.cell? ⟨B.heap.size,0,none⟩=some (.slice D (zfa l b).length c1)→w'.cell? ⟨B.heap.size,1,none⟩=some (.slice C (zc3 l b).length c2)→B.heap.size<w'.heap.size→zyo w' B.heap.size [(D,c1,zfa l b),(C,c2,zc3 l b)]):=by
  intro w' hb Y U L;refine⟨L,fun i x hx=>?_⟩
  match i,hx with
  |0,hx=>cases hx;exact⟨Y,M.o.below hb⟩
  |1,hx=>cases hx;exact⟨U,K.o.below hb⟩
  |n+2,hx=>simp at hx
 have R:Hid (flatI [(D,c1,zfa l b),(C,c2,zc3 l b)]=zay id l b):=by simp[Hid,flatI,zfa,zc3,zay]
 go_wp2_with fail;refine(zih B.heap.size 2 2 [(D,c1,zfa l b),(C,c2,zc3 l b)] _ rfl (by omega) (X.o _ (zab _ _) (by simp[go_sem]) (by simp[go_sem]) (by simp)) (by simp[flatI];omega)).mono ?_;rintro e w2 ⟨v2,rfl,A,I⟩;rw[R.o]at A;have O:=zaa A;have N:=zaa (zae Q.o (zae (zab _ _) I));clear A I;go_wp2;go_ret;refine⟨_,rfl,za8 O.o ?_,N.o⟩;simp;omega
