/-
  
-/
import Derived.Test.YtjnpndfpajjihacGreatGrTopAnywhere3
import Derived.Test.YtjnpndfpajjihacGreatTConcatI
set_option maxRecDepth 100000
set_option maxHeartbeats 40000000
namespace Go.Proofs.YtjnpndfpajjihacGreat
open Go.Proofs.Tryz
open Go.RowKit
theorem zgv(w:World)(base:Nat)(ty:TypeId)(v:Value)(n c:Nat)(xs:List Value)(h:w.ownsRow base 84 2 v n xs):
  (Builtin.append_ #[34,34] ty #[v,.slice none 0 c]).run prog w=.ok v w:=by
 obtain⟨B,A,A0,A1,A2⟩:=info_parts zvm;rcases h.2 with⟨rfl,rfl⟩|⟨g,cap,cur,rfl,hb,hg,hnc,hcm,hrest⟩
 ·exact zer w _ _ _ B c underlying34 A
 ·simp[Builtin.append_,run_underlying underlying34,sizeOf,typeInfo,A,Builtin.lenOf,Builtin.firstCells,hnc,storeCells]
theorem zih(w W:World)(base:Nat){ops:Array Oper}{rest:List Oper}{o:Oper}{a:Act}{Q:Exit→Act→World→Prop}(hgd:o.guard=none)(s x:Operand)
  (ho:o.op=.call {callee:=.builtin .append,args:=#[s,x],argTypes:=#[34,34]})
  (v:Value) (n:Nat) (xs:List Value) (hs:a.eval s=v) (hown:w.ownsRow base 84 2 v n xs) (ao:Option Addr) (c:Nat) (l:List (Int×ByteArray)) (hx:a.eval x=.slice ao l.length c) (hS:SegW w ao l)
  (hn:n+l.length≤1000) (hbase:base≤w.heap.size) (hB:Below base W w)
  (h:∀v' w',Hid (w'.ownsRow base 84 2 v' (n+l.length) (xs++cellsC l))→Hid (Below base W w')→wpList prog ops Q rest (a.put o.dst v') w'):wpList prog ops Q (o::rest) a w:=by
 obtain⟨J,K,F,D,E⟩:=info_parts zvm
 cases ao with
 |none=>
  have I:l=[]:=by rcases hS with h|⟨b,off,he,_⟩;exact h;cases he
  subst I;refine Lib.wpList_append_run w hgd s x _ _ ho _ _ hs hx v w (zgv w base o.type v n c xs hown) (h v w ?_ hB);show w.ownsRow base 84 2 v (n+0) (xs++[]);rw[List.append_nil];exact hown
 |some ad=>
  refine wpList_append_own w hgd s x 34 ho base 84 J (.agg #[.int .i64 0,.string ⟨#[]⟩]) 2 24 underlying34 K F D E rfl (by decide) v n xs hs hown ad l.length c (cellsC l) hx (zdo l) ?_ (zho l) (by unfold maxLen;omega) (by omega) hbase ?_
  ·intro j u C;rcases hS with h|⟨b,off,he,hlt,hc⟩
   ·rw[h]at C;simp[cellsC]at C
   ·cases he;rw[Addr.add_lit];exact SegC.news hc j u C
  ·intro v' w' B A _;exact h v' w' B (hB.grown A hbase (fun k hk=>(hown.lt k hk).1))
def flatC (L:List (Option Addr×Nat×List (Int×ByteArray))):List (Int×ByteArray):=(L.map (·.2.2)).flatten
theorem znn{L:List (Option Addr×Nat×List (Int×ByteArray))}{k:Nat}{x:Option Addr×Nat×List (Int×ByteArray)}(h:L[k]?=some x):flatC (L.take (k+1))=flatC (L.take k)++x.2.2:=by
 rw[List.take_add_one,h];simp[flatC]
theorem zk6(L:List (Option Addr×Nat×List (Int×ByteArray)))(k:Nat):(flatC (L.take k)).length≤(flatC L).length:=by
 have:flatC L=flatC (L.take k)++flatC (L.drop k):=by rw[flatC,flatC,flatC,←List.flatten_append,←List.map_append,List.take_append_drop]
 rw[this,List.length_append];omega
def z4j (w:World)(B:Nat)(L:List (Option Addr×Nat×List (Int×ByteArray))):Prop:=
 B<w.heap.size∧∀i x,L[i]?=some x→w.cell? ⟨B,i,none⟩=some (.slice x.1 x.2.2.length x.2.1)∧SegW w x.1 x.2.2
theorem z0f(n:Nat)(w:World)(hn:n≤1000):
  Calls prog 213 #[.slice none 0 0,.int .i64 n] w fun e w'=>∃v',e=.returned v'∧w'.ownsRow w.heap.size 84 2 v' 0 []∧Below w.heap.size w w':=by
 obtain⟨L,M,K,I,D⟩:=info_parts zvm;rcases Nat.eq_zero_or_pos n with rfl|hpos
 ·go_enter func213,ntmps213;go_wp2;go_ret;exact⟨_,rfl,World.ownsRow_nil _ _ _ _,Below.refl _ _⟩
 ·obtain⟨G,C⟩:∃G,G=grownCap w n 0 84:=⟨_,rfl⟩;have A0:n≤G:=by rw[C];exact grownCap_ge w _ _ _
  have E:G≤maxLen:=by rw[C];exact grownCap_le_maxLen w n 0 _ (by unfold maxLen;omega)
  obtain⟨A,B⟩:∃A,A=#[]++Builtin.zeroCells (.agg #[.int .i64 0,.string ⟨#[]⟩]:Value).cells n++Builtin.zeroCells (.agg #[.int .i64 0,.string ⟨#[]⟩]:Value).cells (G - n):=⟨_,rfl⟩
  have F:A.size=G*2:=by
   rw[B,Array.size_append,Array.size_append,size_zeroCells,size_zeroCells];show 0+n*2+(G - n)*2=G*2;omega
  have J:∀ty,(Builtin.append_ #[34,3] ty #[.slice none 0 0,.int .i64 (n:Int)]).run prog w=.ok (.slice (some ⟨w.heap.size,0,none⟩) n G) (w.drew.alloc (.cells A 84)):=fun ty=>by
   have h:=Lib.run_append_grow_zeros (P:=prog) w 34 3 ty 84 L (.agg #[.int .i64 0,.string ⟨#[]⟩]) .i64 .i64 underlying34 underlying3 M K none 0 0 [] (run_firstCells_none w.drew L.size 0 0 0) n hpos (by rw[I];decide) (by omega) (by omega) (by rw[D];omega) (by rw[Nat.zero_add,D];exact growslice_fits (by omega) (by omega));rw[Nat.zero_add,←C]at h;rw[h,B]
  have N:Hid ((w.drew.alloc (.cells A 84)).ownsRow w.heap.size 84 2 (.slice (some ⟨w.heap.size,0,none⟩) 0 G) 0 []):=World.ownsRow_made w.drew A G (Nat.le_refl _) E F;clear C B F;unfold maxLen at E;have h1:¬((n:Int)<0):=by omega
  have h2:(n:Int)>0:=by omega
  go_enter func213,ntmps213;go_wp2_with (at_builtin;refine Lib.wpList_append_run _ rfl _ _ _ _ rfl _ _ rfl rfl _ _ (J _) ?_);go_ret;exact⟨_,rfl,N.o,(Below.refl _ _).drew.alloc (by simp) _⟩
theorem zmf(B m c:Nat)(L:List (Option Addr×Nat×List (Int×ByteArray)))(w:World)(hm:L.length=m)(hm2:m≤1000)(h:z4j w B L)(hn:(flatC L).length≤1000):
  Calls prog 194 #[.slice (some ⟨B,0,none⟩) m c] w fun e w'=>∃v',e=.returned v'∧w'.ownsRow w.heap.size 84 2 v' (flatC L).length (cellsC (flatC L))∧Below w.heap.size w w':=by
 subst hm;have M:=zaa h;clear h;go_enter func194,ntmps194;go_wp2
 go_loop [3,11] (fun s i=>∃k:Nat,k≤L.length∧i=.int .i64 k∧s=.int .i64 ((flatC (L.take k)).length:Int)) (fun _ i=>L.length - (intOf i).toNat)
 case atStart=>exact⟨0,Nat.zero_le _,rfl,rfl⟩
 case round=>
  obtain⟨k,l,rfl,rfl⟩:=hrel;have I:=zk6 L k;by_cases hlt:k<L.length
  ·obtain⟨x,E⟩:∃x,L[k]?=some x:=⟨_,List.getElem?_eq_getElem hlt⟩;have K:=(M.o.2 k x E).1;have F:Hid ((flatC (L.take (k+1))).length=(flatC (L.take k)).length+x.2.2.length):=by rw[Hid,znn E,List.length_append]
   have A:=zk6 L (k+1);rw[F.o]at A;have U:(k:Int)<(L.length:Int):=by omega
   clear E;generalize (flatC (L.take k)).length=q at *;obtain⟨b,X,Z⟩:=x;dsimp only at A K F;go_wp2
   go_round
   case rel=>exact⟨k+1,by omega,by go_num,by rw[F.o];go_num⟩
   case measure=>simp[intOf];omega
  ·have e:k=L.length:=by omega
   subst e;rw[List.take_length];clear I;obtain⟨N,Q⟩:∃N,N=(flatC L).length:=⟨_,rfl⟩;rw[←Q]at hn;rw[←Q];have j:=zaa Q;clear Q;go_wp2_with fail;refine(z0f N w hn).mono ?_;rintro e w1 ⟨v1,rfl,J,R⟩;have a:=zaa J;have Y:=zaa R;clear J R;go_wp2
   go_loopw [6,27] (fun s i wr=>∃(k:Nat),k≤L.length∧i=.int .i64 k∧Hid (wr.ownsRow w.heap.size 84 2 s (flatC (L.take k)).length (cellsC (flatC (L.take k))))∧Hid (Below w.heap.size w wr)) (fun _ i _=>L.length - (intOf i).toNat)
   case atStart=>exact⟨0,Nat.zero_le _,rfl,a,Y⟩
   case round=>
    obtain⟨k,l,rfl,D,C⟩:=hrel;have I:=zk6 L k;rw[←j.o]at I;by_cases hlt:k<L.length
    ·obtain⟨x,E⟩:∃x,L[k]?=some x:=⟨_,List.getElem?_eq_getElem hlt⟩;have K:=zac C.o M.o.1 (M.o.2 k x E).1;have S:Hid (SegW wr x.1 x.2.2):=(M.o.2 k x E).2.below C.o;have F:Hid (flatC (L.take (k+1))=flatC (L.take k)++x.2.2):=znn E;have A:=zk6 L (k+1);rw[F.o,List.length_append,←j.o]at A;have U:(k:Int)<(L.length:Int):=by omega
     clear E;generalize flatC (L.take k)=q at *;obtain⟨b,X,Z⟩:=x;dsimp only at A K F S;go_wp2_with (at_builtin;refine zih _ w w.heap.size rfl _ _ rfl _ q.length (cellsC q) rfl D.o b X Z rfl S.o (by omega) C.o.size C.o ?_);intro v' w' O d;clear D C S K;go_wp2
     go_roundw
     case rel=>exact⟨k+1,by omega,by go_num,by rw[F.o,List.length_append,zdp];exact O,d⟩
     case measure=>simp[intOf];omega
    ·have e:k=L.length:=by omega
     subst e;rw[List.take_length]at D;clear I;go_wp2;go_ret;exact⟨_,rfl,D.o,C.o⟩
theorem zts(a:Option Addr)(c:Nat)(l:List (Int×ByteArray))(b:Int)(w:World)(h:SegW w a l)(hn:l.length≤1000)(hu:Up (·.1) l):
  Calls Tryz.prog 212 #[.slice a l.length c,.int .i64 b,.func (.func 156) #[] #[]] w fun e w'=>e=.returned (.tuple #[.int .i64 ((l.countP fun x=>decide (x.1<b):Nat):Int),.bool (l.any fun x=>x.1==b)])∧Below w.heap.size w w':=by
 have HS:=zaa h;have r:=zaa hu;clear h hu;obtain⟨cnt,K⟩:∃cnt,cnt=l.countP fun x=>decide (x.1<b):=⟨_,rfl⟩;obtain⟨O,M⟩:∃O,O=l.any fun x=>x.1==b:=⟨_,rfl⟩;rw[←K,←M];have p:=zaa K;have HF:=zaa M;have X:cnt≤l.length:=by rw[K];exact List.countP_le_length
 clear K M;go_enter Tryz.func212,Tryz.ntmps212;go_wp2
 go_loopw [9,10] (fun i j wr=>∃J A:Nat,i=.int .i64 J∧j=.int .i64 A∧J≤cnt∧cnt≤A∧A≤l.length∧Below w.heap.size w wr) (fun i j _=>(intOf j).toNat - (intOf i).toNat)
 case atStart=>exact⟨0,l.length,rfl,rfl,Nat.zero_le _,X,Nat.le_refl _,Below.refl _ _⟩
 case round=>
  obtain⟨J,A,rfl,rfl,Z,d,s,E⟩:=hrel;by_cases hlt:J<A
  ·obtain⟨m,hm⟩:∃m,m=(J+A)/2:=⟨_,rfl⟩;have Q:m<l.length:=by omega
   have A2:((J:Int)+(A:Int))/2=(m:Int):=by omega
   have A3:J≤m:=by omega
   have A4:m<A:=by omega
   clear hm;obtain⟨b2,u,rfl,hb,R⟩:=HS.o.resolve_left (by intro e;rw[e]at Q;simp at Q);obtain⟨x,N⟩:∃x,x=l.getD m (0,ByteArray.empty):=⟨_,rfl⟩;obtain⟨F,I⟩:=R m Q;rw[←N]at F I;have g1:=zac E hb F;have g2:=zac E hb I;have q:Hid (l[m]?=some x):=by rw[N];exact zcf _ _ _ Q
   have C:x.1<b↔m<l.countP (fun x=>decide (x.1<b)):=z57 r.o b q.o;rw[←p.o]at C;clear N R F I;obtain⟨n,t⟩:=x;dsimp only at C;have A1:(J:Int)<(A:Int):=by omega
   have k:(m:Int)<(l.length:Int):=by omega
   by_cases hk:n<b
   ·have hq:m<cnt:=C.1 hk;have B:cmpI (n) b= -1:=ztr hk;go_wp2_with fail;refine(zio n t b _).mono ?_;rintro e w' ⟨rfl,D⟩;rw[B];have L:=zae E D;clear hk C B D;go_wp2
    go_roundw
    case rel=>exact⟨m+1,A,by go_num,rfl,by omega,d,s,L⟩
    case measure=>simp[intOf];omega
   ·have hq:cnt≤m:=by have:=mt C.2 hk;omega
    have B:¬cmpI (n) b<0:=z0e hk;go_wp2_with fail;refine(zio n t b _).mono ?_;rintro e w' ⟨rfl,D⟩;have L:=zae E D;generalize cmpI (n) b=z at *;clear hk C D;go_wp2
    go_roundw
    case rel=>exact⟨J,m,rfl,rfl,Z,hq,by omega,L⟩
    case measure=>simp[intOf];omega
  ·obtain rfl:J=cnt:=by omega
   obtain rfl:A=J:=by omega
   clear Z d X;by_cases hlast:A<l.length
   ·obtain⟨b2,u,rfl,hb,R⟩:=HS.o.resolve_left (by intro e;rw[e]at hlast;simp at hlast);obtain⟨x,N⟩:∃x,x=l.getD A (0,ByteArray.empty):=⟨_,rfl⟩;obtain⟨F,I⟩:=R A hlast;rw[←N]at F I;have g1:=zac E hb F;have g2:=zac E hb I;have q:Hid (l[A]?=some x):=by rw[N];exact zcf _ _ _ hlast
    have U:O=(x.1==b):=by
     have S:(l.any fun x=>x.1==b)=true↔∃x,l[l.countP fun x=>decide (x.1<b)]?=some x∧x.1=b:=zd1 r.o b;rw[HF.o,Bool.eq_iff_iff,S,←p.o,q.o];constructor
     ·rintro⟨y,e,hy⟩;cases e;simpa using hy
     ·intro e;exact⟨x,rfl,by simpa using e⟩
    have Y:=zaa U;clear N R F I U;obtain⟨n,t⟩:=x;dsimp only at Y;have k:(A:Int)<(l.length:Int):=by omega
    have B:=zrf (n) b;go_wp2_with fail;refine(zio n t b _).mono ?_;rintro e w' ⟨rfl,D⟩;have L:=zae E D;have A0:=zaa B;generalize cmpI (n) b=z at *;clear B D;go_wp2
    go_ret2
    exact⟨by rw[Y.o,←A0.o];rfl,L⟩
   ·have U:O=false:=by
     have S:(l.any fun x=>x.1==b)=true↔∃x,l[l.countP fun x=>decide (x.1<b)]?=some x∧x.1=b:=zd1 r.o b;rw[HF.o,←Bool.not_eq_true,S,←p.o,List.getElem?_eq_none (by omega)];rintro⟨y,e,_⟩;cases e
    have k:¬(A:Int)<(l.length:Int):=by omega
    subst U;go_wp2
    go_ret2
    exact⟨rfl,E⟩
open Go.Proofs.Tryz
theorem zjl{w:World}{a:Option Addr}{l:List (Int×ByteArray)}(h:SegW w a l)(k:Nat)(hk:k≤l.length):SegW w a (l.take k):=by
 rcases h with h|⟨b,off,rfl,hlt,hc⟩
 ·exact .inl (by rw[h];simp)
 ·refine .inr ⟨b,off,rfl,hlt,fun i hi=>?_⟩;have A:i<k:=by simp at hi;omega
  have e:(l.take k).getD i (0,ByteArray.empty)=l.getD i (0,ByteArray.empty):=by rw[List.getD,List.getD,List.getElem?_take_of_lt A]
  rw[e];exact hc i (by omega)
theorem zrg{w:World}{b off:Nat}{l:List (Int×ByteArray)}(h:SegW w (some ⟨b,off,none⟩) l)(k:Nat):SegW w (some ⟨b,off+k*2,none⟩) (l.drop k):=by
 rcases h with h|⟨b',off',e,hlt,hc⟩
 ·exact .inl (by rw[h];simp)
 ·cases e;refine .inr ⟨b,off+k*2,rfl,hlt,fun i hi=>?_⟩;have e:(l.drop k).getD i (0,ByteArray.empty)=l.getD (k+i) (0,ByteArray.empty):=by rw[List.getD,List.getD,List.getElem?_drop]
  rw[e];have:=hc (k+i) (by simp at hi;omega);refine⟨?_,?_⟩
  ·rw[show off+k*2+i*2=off+(k+i)*2 from by omega];exact this.1
  ·rw[show off+k*2+i*2+1=off+(k+i)*2+1 from by omega];exact this.2
def ze3 (l:List (Int×ByteArray))(b:Int):List (Int×ByteArray):=l.filter fun x=>decide (x.1<b)
def zcz (l:List (Int×ByteArray))(b:Int):List (Int×ByteArray):=l.filter fun x=>decide (b<x.1)
theorem zmg(base:Nat)(v:Value)(l:List (Int×ByteArray))(b:Int)(w:World)(hown:w.ownsRow base 84 2 v l.length (cellsC l))(hn:l.length≤1000)(hu:Up (·.1) l):
  Calls prog 193 #[v,.int .i64 b,.func (.func 156) #[] #[]] w fun e w'=>∃a1 c1 a2 c2,e=.returned (.tuple #[.slice a1 (ze3 l b).length c1,.slice a2 (zcz l b).length c2])∧SegW w' a1 (ze3 l b)∧SegW w' a2 (zcz l b)∧Below w.heap.size w w':=by
 have E:l.take (l.countP fun x=>decide (x.1<b))=ze3 l b∧l.drop (l.countP fun x=>decide (x.1<b))=l.filter (fun x=>decide (b≤x.1)):=zyi hu b;have F:(l.any fun x=>x.1==b)=true↔∃x,l[l.countP fun x=>decide (x.1<b)]?=some x∧x.1=b:=zd1 hu b;obtain⟨j,c0,S,K,_⟩:=SegC.of_owns hown;have A:=zts j c0 l b w K hn hu;rw[←S]at A;obtain⟨cnt,D⟩:∃cnt,cnt=l.countP fun x=>decide (x.1<b):=⟨_,rfl⟩;have h:cnt≤l.length:=by rw[D];exact List.countP_le_length
 rw[←D]at E F A;have X:(ze3 l b).length=cnt:=by rw[←E.1,List.length_take];omega
 have U:=zaa E.1;have Y:=zaa X
 cases hf:l.any fun x=>x.1==b with
 |true=>
  obtain⟨x,Q,a⟩:=F.1 hf;have A0:cnt<l.length:=(List.getElem?_eq_some_iff.1 Q).1
  have I:l.drop (cnt+1)=zcz l b:=by
   rw[D]at Q⊢;exact z3z hu b x Q a
  have L:(zcz l b).length=l.length - (cnt+1):=by rw[←I,List.length_drop]
  have R:=zaa I;have J:=zaa L;rw[hf]at A;clear Q a hf F E D I L X;rcases hown.2 with⟨rfl,h0⟩|⟨g,cap,cur,rfl,hb,hg,hnc,hcm,_⟩
  ·omega
  ·unfold maxLen at hcm;simp only[Value.slice.injEq]at S;obtain⟨rfl,_,rfl⟩:=S;have O:=zaa K;have c:(cnt:Int)<(l.length:Int):=by omega
   have N:(l.length:Int)≤(cap:Int):=by omega
   clear hown K hg;by_cases hz:cap=cnt+1
   ·subst hz;have M:Hid (l.length≤cnt+1):=by unfold Hid;omega
    clear hnc N;have N:(l.length:Int)≤(cnt:Int)+1:=by have:=M.o;omega
    go_enter func193,ntmps193;go_wp2_with fail;refine A.mono ?_;rintro e Z ⟨rfl,B⟩;have C:=zaa B;clear A B;go_wp2
    go_quiet (fail)
    go_wp2
    go_ret2
    refine⟨_,_,_,_,by rw[Y.o,J.o];rfl,?_,?_,below_drewN C.o _⟩
    ·rw[←U.o];exact(zjl O.o cnt (by omega)).below (below_drewN C.o _)
    ·refine .inl ?_;rw[←R.o];exact List.drop_of_length_le M.o
   ·have d:¬(cap - (cnt+1)=0):=by omega
    go_enter func193,ntmps193;go_wp2_with fail;refine A.mono ?_;rintro e Z ⟨rfl,B⟩;have C:=zaa B;clear A B;go_wp2
    go_quiet (fail)
    go_wp2
    go_ret2
    refine⟨_,_,_,_,by rw[Y.o,J.o];rfl,?_,?_,below_drewN C.o _⟩
    ·rw[←U.o];exact(zjl O.o cnt (by omega)).below (below_drewN C.o _)
    ·rw[←R.o];have hd:=zrg O.o (cnt+1);rw[Nat.zero_add]at hd;exact hd.below (below_drewN C.o _)
 |false=>
  have I:l.drop cnt=zcz l b:=by
   rw[E.2];refine zyj hu b fun x Q hk=>?_;rw[D]at F;rw[F.2 ⟨x,Q,hk⟩]at hf;cases hf
  have L:(zcz l b).length=l.length - cnt:=by rw[←I,List.length_drop]
  have R:=zaa I;have J:=zaa L;rw[hf]at A;clear hf F E D I L X;rcases hown.2 with⟨rfl,h0⟩|⟨g,cap,cur,rfl,hb,hg,hnc,hcm,_⟩
  ·have i:l=[]:=List.eq_nil_of_length_eq_zero h0;subst i;obtain rfl:cnt=0:=by simpa using h
   clear hown K S;go_enter func193,ntmps193;go_wp2_with fail;refine A.mono ?_;rintro e Z ⟨rfl,B⟩;have C:=zaa B;clear A B;go_wp2
   go_quiet (fail)
   go_wp2
   go_ret2
   refine⟨_,_,_,_,by rw[Y.o,J.o];rfl,.inl ?_,.inl ?_,below_drewN C.o _⟩
   ·rw[←U.o];rfl
   ·rw[←R.o];rfl
  ·unfold maxLen at hcm;simp only[Value.slice.injEq]at S;obtain⟨rfl,_,rfl⟩:=S;have O:=zaa K;have c:(cnt:Int)≤(l.length:Int):=by omega
   have N:(l.length:Int)≤(cap:Int):=by omega
   clear hown K hg;by_cases hz:cap=cnt
   ·subst hz;have M:Hid (l.length≤cap):=by unfold Hid;omega
    go_enter func193,ntmps193;go_wp2_with fail;refine A.mono ?_;rintro e Z ⟨rfl,B⟩;have C:=zaa B;clear A B;go_wp2
    go_quiet (fail)
    go_wp2
    go_ret2
    refine⟨_,_,_,_,by rw[Y.o,J.o,show l.length - cap=0 from by have:=M.o;omega];rfl,?_,?_,below_drewN C.o _⟩
    ·rw[←U.o];exact(zjl O.o cap (by omega)).below (below_drewN C.o _)
    ·refine .inl ?_;rw[←R.o];exact List.drop_of_length_le M.o
   ·have d:¬(cap - cnt=0):=by omega
    go_enter func193,ntmps193;go_wp2_with fail;refine A.mono ?_;rintro e Z ⟨rfl,B⟩;have C:=zaa B;clear A B;go_wp2
    go_quiet (fail)
    go_wp2
    go_ret2
    refine⟨_,_,_,_,by rw[Y.o,J.o];rfl,?_,?_,below_drewN C.o _⟩
    ·rw[←U.o];exact(zjl O.o cnt (by omega)).below (below_drewN C.o _)
    ·rw[←R.o];have hd:=zrg O.o cnt;rw[Nat.zero_add]at hd;exact hd.below (below_drewN C.o _)
theorem zrh(l:List (Int×ByteArray))(b:Int):(ze3 l b).length≤l.length:=List.length_filter_le _ _
theorem zn7(l:List (Int×ByteArray))(b:Int):(zcz l b).length≤l.length:=List.length_filter_le _ _
theorem zri(base:Nat)(v:Value)(l:List (Int×ByteArray))(b:Int)(s:ByteArray)(w:World)(hown:w.ownsRow base 84 2 v l.length (cellsC l))(hn:l.length≤100)(hu:Up (·.1) l):
  Calls prog 155 #[v,.int .i64 b,.func (.func 156) #[] #[],.agg #[.int .i64 b,.string s]] w fun e w'=>∃v',e=.returned v'∧w'.ownsRow w.heap.size 84 2 v' (zbj (·.1) l b (b,s)).length (cellsC (zbj (·.1) l b (b,s)))∧Below w.heap.size w w':=by
 have U:=zaa hown;clear hown;go_enter func155,ntmps155;go_wp2_with fail;refine(zmg base v l b _ (zah U.o (zab _ _)) (by omega) hu).mono ?_;rintro e A ⟨F,c1,E,c2,rfl,D,J,C⟩;have L:=zaa D;have S:=zaa J;have D:w.heap.size<A.heap.size:=by have:=C.size;simp at this;omega
 have y0:=zac C (b:=w.heap.size) (o:=0) (v:=.int .i64 b) (by simp) (by simp[go_sem]);have y1:=zac C (b:=w.heap.size) (o:=1) (v:=.string s) (by simp) (by simp[go_sem]);have N:=zaa (zae (zab _ _) C);have q1:=zrh l b;have q2:=zn7 l b;have A0:=N.o.size;clear D J C
 have Y:Hid (∀w',Below A.heap.size A w'→w'.cell? ⟨A.heap.size+1,0,none⟩=some (.slice F (ze3 l b).length c1)→w'.cell? ⟨A.heap.size+1,1,none⟩=some (.slice (some ⟨A.heap.size,0,none⟩) 1 1)→w'.cell? ⟨A.heap.size+1,2,none⟩=some (.slice E (zcz l b).length c2)→SegW w' (some ⟨A.heap.size,0,none⟩) [(b,s)]→A.heap.size+1<w'.heap.size→z4j w' (A.heap.size+1) [(F,c1,ze3 l b),(some ⟨A.heap.size,0,none⟩,1,[(b,s)]),(E,c2,zcz l b)]):=by
  intro w' hb Z c X K O;refine⟨O,fun i x hx=>?_⟩
  match i,hx with
  |0,hx=>cases hx;exact⟨Z,L.o.below hb⟩
  |1,hx=>cases hx;exact⟨c,K⟩
  |2,hx=>cases hx;exact⟨X,S.o.below hb⟩
  |n+3,hx=>simp at hx
 have a:Hid (flatC [(F,c1,ze3 l b),(some ⟨A.heap.size,0,none⟩,1,[(b,s)]),(E,c2,zcz l b)]=zbj (·.1) l b (b,s)):=by simp[Hid,flatC,ze3,zcz,zbj]
 go_wp2_with fail;refine(zmf (A.heap.size+1) 3 3 [(F,c1,ze3 l b),(some ⟨A.heap.size,0,none⟩,1,[(b,s)]),(E,c2,zcz l b)] _ rfl (by omega) (Y.o _ (zae (zab _ _) (zab _ _)) (by simp[go_sem]) (by simp[go_sem]) (by simp[go_sem]) (.inr ⟨A.heap.size,0,rfl,by simp;omega,fun i hi=>?_⟩) (by simp)) (by simp[flatC];omega)).mono ?_
 ·have:i=0:=by simpa using hi
  subst this;exact⟨by simp[go_sem],by simp[go_sem]⟩
 ·rintro e w2 ⟨v2,rfl,B,I⟩;rw[a.o]at B;have R:=zaa B;have Q:=zae (zae (zab _ _) (zab _ _)) I;have M:=zaa (zae N.o Q);clear B I;go_wp2;go_ret;refine⟨_,rfl,zba R.o ?_,M.o⟩;simp;omega
theorem zkp(base:Nat)(v:Value)(l:List (Int×ByteArray))(b:Int)(w:World)(hown:w.ownsRow base 84 2 v l.length (cellsC l))(hn:l.length≤100)(hu:Up (·.1) l):
  Calls prog 161 #[v,.int .i64 b,.func (.func 156) #[] #[]] w fun e w'=>∃v',e=.returned v'∧w'.ownsRow w.heap.size 84 2 v' (zax (·.1) l b).length (cellsC (zax (·.1) l b))∧Below w.heap.size w w':=by
 have R:=zaa hown;clear hown;go_enter func161,ntmps161;go_wp2_with fail;refine(zmg base v l b _ R.o (by omega) hu).mono ?_;rintro e B ⟨D,c1,C,c2,rfl,E,J,I⟩;have K:=zaa E;have Q:=zaa J;have M:=zaa I;have q1:=zrh l b;have q2:=zn7 l b;have A0:=M.o.size;clear E J I
 have U:Hid (∀w',Below B.heap.size B w'→w'.cell? ⟨B.heap.size,0,none⟩=some (.slice D (ze3 l b).length c1)→w'.cell? ⟨B.heap.size,1,none⟩=some (.slice C (zcz l b).length c2)→B.heap.size<w'.heap.size→z4j w' B.heap.size [(D,c1,ze3 l b),(C,c2,zcz l b)]):=by
  intro w' hb X S N;refine⟨N,fun i x hx=>?_⟩
  match i,hx with
  |0,hx=>cases hx;exact⟨X,K.o.below hb⟩
  |1,hx=>cases hx;exact⟨S,Q.o.below hb⟩
  |n+2,hx=>simp at hx
 have Y:Hid (flatC [(D,c1,ze3 l b),(C,c2,zcz l b)]=zax (·.1) l b):=by simp[Hid,flatC,ze3,zcz,zax]
 go_wp2_with fail;refine(zmf B.heap.size 2 2 [(D,c1,ze3 l b),(C,c2,zcz l b)] _ rfl (by omega) (U.o _ (zab _ _) (by simp[go_sem]) (by simp[go_sem]) (by simp)) (by simp[flatC];omega)).mono ?_;rintro e w2 ⟨v2,rfl,A,F⟩;rw[Y.o]at A;have O:=zaa A;have L:=zaa (zae M.o (zae (zab _ _) F));clear A F;go_wp2;go_ret;refine⟨_,rfl,zba O.o ?_,L.o⟩;simp;omega
theorem ztt(a:Option Addr)(c:Nat)(l:List Int)(b:Int)(w:World)(h:SegI w a l)(hn:l.length≤1000)(hu:Up id l):
  Calls Tryz.prog 214 #[.slice a l.length c,.int .i64 b,.func (.func 158) #[] #[]] w fun e w'=>e=.returned (.tuple #[.int .i64 ((l.countP fun x=>decide (x<b):Nat):Int),.bool (l.any fun x=>x==b)])∧Below w.heap.size w w':=by
 have s:=zaa h;have n:=zaa hu;clear h hu;obtain⟨cnt,J⟩:∃cnt,cnt=l.countP fun x=>decide (x<b):=⟨_,rfl⟩;obtain⟨N,L⟩:∃N,N=l.any fun x=>x==b:=⟨_,rfl⟩;rw[←J,←L];have d:=zaa J;have r:=zaa L;have U:cnt≤l.length:=by rw[J];exact List.countP_le_length
 clear J L;go_enter Tryz.func214,Tryz.ntmps214;go_wp2
 go_loopw [9,10] (fun i j wr=>∃E A:Nat,i=.int .i64 E∧j=.int .i64 A∧E≤cnt∧cnt≤A∧A≤l.length∧Below w.heap.size w wr) (fun i j _=>(intOf j).toNat - (intOf i).toNat)
 case atStart=>exact⟨0,l.length,rfl,rfl,Nat.zero_le _,U,Nat.le_refl _,Below.refl _ _⟩
 case round=>
  obtain⟨E,A,rfl,rfl,X,Y,p,I⟩:=hrel;by_cases hlt:E<A
  ·obtain⟨m,hm⟩:∃m,m=(E+A)/2:=⟨_,rfl⟩;have O:m<l.length:=by omega
   have A2:((E:Int)+(A:Int))/2=(m:Int):=by omega
   have A3:E≤m:=by omega
   have A4:m<A:=by omega
   clear hm;obtain⟨b2,q,rfl,hb,Q⟩:=s.o.resolve_left (by intro e;rw[e]at O;simp at O);obtain⟨x,M⟩:∃x,x=l.getD m 0:=⟨_,rfl⟩;have D:=Q m O;rw[←M]at D;have g1:=zac I hb D;have k:Hid (l[m]?=some x):=by rw[M];exact zcf _ _ _ O
   have F:x<b↔m<l.countP (fun x=>decide (x<b)):=z57 n.o b k.o;rw[←d.o]at F;clear M Q D;have A1:(E:Int)<(A:Int):=by omega
   have Z:(m:Int)<(l.length:Int):=by omega
   by_cases hk:x<b
   ·have hq:m<cnt:=F.1 hk;have B:cmpI (x) b= -1:=ztr hk;go_wp2_with fail;refine(zhe x b _).mono ?_;rintro e w' ⟨rfl,C⟩;rw[B];have K:=zae I C;clear hk F B C;go_wp2
    go_roundw
    case rel=>exact⟨m+1,A,by go_num,rfl,by omega,Y,p,K⟩
    case measure=>simp[intOf];omega
   ·have hq:cnt≤m:=by have:=mt F.2 hk;omega
    have B:¬cmpI (x) b<0:=z0e hk;go_wp2_with fail;refine(zhe x b _).mono ?_;rintro e w' ⟨rfl,C⟩;have K:=zae I C;generalize cmpI (x) b=z at *;clear hk F C;go_wp2
    go_roundw
    case rel=>exact⟨E,m,rfl,rfl,X,hq,by omega,K⟩
    case measure=>simp[intOf];omega
  ·obtain rfl:E=cnt:=by omega
   obtain rfl:A=E:=by omega
   clear X Y U;by_cases hlast:A<l.length
   ·obtain⟨b2,q,rfl,hb,Q⟩:=s.o.resolve_left (by intro e;rw[e]at hlast;simp at hlast);obtain⟨x,M⟩:∃x,x=l.getD A 0:=⟨_,rfl⟩;have D:=Q A hlast;rw[←M]at D;have g1:=zac I hb D;have k:Hid (l[A]?=some x):=by rw[M];exact zcf _ _ _ hlast
    have S:N=(x==b):=by
     have R:(l.any fun x=>x==b)=true↔∃x,l[l.countP fun x=>decide (x<b)]?=some x∧x=b:=zd1 n.o b;rw[r.o,Bool.eq_iff_iff,R,←d.o,k.o];constructor
     ·rintro⟨y,e,hy⟩;cases e;simpa using hy
     ·intro e;exact⟨x,rfl,by simpa using e⟩
    have u:=zaa S;clear M Q D S;have Z:(A:Int)<(l.length:Int):=by omega
    have B:=zrf (x) b;go_wp2_with fail;refine(zhe x b _).mono ?_;rintro e w' ⟨rfl,C⟩;have K:=zae I C;have A0:=zaa B;generalize cmpI (x) b=z at *;clear B C;go_wp2
    go_ret2
    exact⟨by rw[u.o,←A0.o];rfl,K⟩
   ·have S:N=false:=by
     have R:(l.any fun x=>x==b)=true↔∃x,l[l.countP fun x=>decide (x<b)]?=some x∧x=b:=zd1 n.o b;rw[r.o,←Bool.not_eq_true,R,←d.o,List.getElem?_eq_none (by omega)];rintro⟨y,e,_⟩;cases e
    have Z:¬(A:Int)<(l.length:Int):=by omega
    subst S;go_wp2
    go_ret2
    exact⟨rfl,I⟩
open Go.Proofs.Tryz
theorem zjm{w:World}{a:Option Addr}{l:List Int}(h:SegI w a l)(k:Nat)(hk:k≤l.length):SegI w a (l.take k):=by
 rcases h with h|⟨b,off,rfl,hlt,hc⟩
 ·exact .inl (by rw[h];simp)
 ·refine .inr ⟨b,off,rfl,hlt,fun i hi=>?_⟩;have A:i<k:=by simp at hi;omega
  have e:(l.take k).getD i 0=l.getD i 0:=by rw[List.getD,List.getD,List.getElem?_take_of_lt A]
  rw[e];exact hc i (by omega)
theorem zrj{w:World}{b off:Nat}{l:List Int}(h:SegI w (some ⟨b,off,none⟩) l)(k:Nat):SegI w (some ⟨b,off+k*1,none⟩) (l.drop k):=by
 rcases h with h|⟨b',off',e,hlt,hc⟩
 ·exact .inl (by rw[h];simp)
 ·cases e;refine .inr ⟨b,off+k*1,rfl,hlt,fun i hi=>?_⟩;have e:(l.drop k).getD i 0=l.getD (k+i) 0:=by rw[List.getD,List.getD,List.getElem?_drop]
  rw[e];have:=hc (k+i) (by simp at hi;omega);rw[show off+k*1+i=off+(k+i) from by omega];exact this
def ze4 (l:List Int)(b:Int):List Int:=l.filter fun x=>decide (x<b)
def zc0 (l:List Int)(b:Int):List Int:=l.filter fun x=>decide (b<x)
theorem zmh(base:Nat)(v:Value)(l:List Int)(b:Int)(w:World)(hown:w.ownsRow base 3 1 v l.length (cellsI l))(hn:l.length≤1000)(hu:Up id l):
  Calls prog 195 #[v,.int .i64 b,.func (.func 158) #[] #[]] w fun e w'=>∃a1 c1 a2 c2,e=.returned (.tuple #[.slice a1 (ze4 l b).length c1,.slice a2 (zc0 l b).length c2])∧SegI w' a1 (ze4 l b)∧SegI w' a2 (zc0 l b)∧Below w.heap.size w w':=by
 have E:l.take (l.countP fun x=>decide (x<b))=ze4 l b∧l.drop (l.countP fun x=>decide (x<b))=l.filter (fun x=>decide (b≤x)):=zyi hu b;have F:(l.any fun x=>x==b)=true↔∃x,l[l.countP fun x=>decide (x<b)]?=some x∧x=b:=zd1 hu b;obtain⟨j,c0,S,K,_⟩:=SegI.of_owns hown;have A:=ztt j c0 l b w K hn hu;rw[←S]at A;obtain⟨cnt,D⟩:∃cnt,cnt=l.countP fun x=>decide (x<b):=⟨_,rfl⟩;have h:cnt≤l.length:=by rw[D];exact List.countP_le_length
 rw[←D]at E F A;have X:(ze4 l b).length=cnt:=by rw[←E.1,List.length_take];omega
 have U:=zaa E.1;have Y:=zaa X
 cases hf:l.any fun x=>x==b with
 |true=>
  obtain⟨x,Q,a⟩:=F.1 hf;have A0:cnt<l.length:=(List.getElem?_eq_some_iff.1 Q).1
  have I:l.drop (cnt+1)=zc0 l b:=by
   rw[D]at Q⊢;exact z3z hu b x Q a
  have L:(zc0 l b).length=l.length - (cnt+1):=by rw[←I,List.length_drop]
  have R:=zaa I;have J:=zaa L;rw[hf]at A;clear Q a hf F E D I L X;rcases hown.2 with⟨rfl,h0⟩|⟨g,cap,cur,rfl,hb,hg,hnc,hcm,_⟩
  ·omega
  ·unfold maxLen at hcm;simp only[Value.slice.injEq]at S;obtain⟨rfl,_,rfl⟩:=S;have O:=zaa K;have c:(cnt:Int)<(l.length:Int):=by omega
   have N:(l.length:Int)≤(cap:Int):=by omega
   clear hown K hg;by_cases hz:cap=cnt+1
   ·subst hz;have M:Hid (l.length≤cnt+1):=by unfold Hid;omega
    clear hnc N;have N:(l.length:Int)≤(cnt:Int)+1:=by have:=M.o;omega
    go_enter func195,ntmps195;go_wp2_with fail;refine A.mono ?_;rintro e Z ⟨rfl,B⟩;have C:=zaa B;clear A B;go_wp2
    go_quiet (fail)
    go_wp2
    go_ret2
    refine⟨_,_,_,_,by rw[Y.o,J.o];rfl,?_,?_,below_drewN C.o _⟩
    ·rw[←U.o];exact(zjm O.o cnt (by omega)).below (below_drewN C.o _)
    ·refine .inl ?_;rw[←R.o];exact List.drop_of_length_le M.o
   ·have d:¬(cap - (cnt+1)=0):=by omega
    go_enter func195,ntmps195;go_wp2_with fail;refine A.mono ?_;rintro e Z ⟨rfl,B⟩;have C:=zaa B;clear A B;go_wp2
    go_quiet (fail)
    go_wp2
    go_ret2
    refine⟨_,_,_,_,by rw[Y.o,J.o];rfl,?_,?_,below_drewN C.o _⟩
    ·rw[←U.o];exact(zjm O.o cnt (by omega)).below (below_drewN C.o _)
    ·rw[←R.o];have hd:=zrj O.o (cnt+1);rw[Nat.zero_add,Nat.mul_one]at hd;exact hd.below (below_drewN C.o _)
 |false=>
  have I:l.drop cnt=zc0 l b:=by
   rw[E.2];refine zyj hu b fun x Q hk=>?_;rw[D]at F;rw[F.2 ⟨x,Q,hk⟩]at hf;cases hf
  have L:(zc0 l b).length=l.length - cnt:=by rw[←I,List.length_drop]
  have R:=zaa I;have J:=zaa L;rw[hf]at A;clear hf F E D I L X;rcases hown.2 with⟨rfl,h0⟩|⟨g,cap,cur,rfl,hb,hg,hnc,hcm,_⟩
  ·have i:l=[]:=List.eq_nil_of_length_eq_zero h0;subst i;obtain rfl:cnt=0:=by simpa using h
   clear hown K S;go_enter func195,ntmps195;go_wp2_with fail;refine A.mono ?_;rintro e Z ⟨rfl,B⟩;have C:=zaa B;clear A B;go_wp2
   go_quiet (fail)
   go_wp2
   go_ret2
   refine⟨_,_,_,_,by rw[Y.o,J.o];rfl,.inl ?_,.inl ?_,below_drewN C.o _⟩
   ·rw[←U.o];rfl
   ·rw[←R.o];rfl
  ·unfold maxLen at hcm;simp only[Value.slice.injEq]at S;obtain⟨rfl,_,rfl⟩:=S;have O:=zaa K;have c:(cnt:Int)≤(l.length:Int):=by omega
   have N:(l.length:Int)≤(cap:Int):=by omega
   clear hown K hg;by_cases hz:cap=cnt
   ·subst hz;have M:Hid (l.length≤cap):=by unfold Hid;omega
    go_enter func195,ntmps195;go_wp2_with fail;refine A.mono ?_;rintro e Z ⟨rfl,B⟩;have C:=zaa B;clear A B;go_wp2
    go_quiet (fail)
    go_wp2
    go_ret2
    refine⟨_,_,_,_,by rw[Y.o,J.o,show l.length - cap=0 from by have:=M.o;omega];rfl,?_,?_,below_drewN C.o _⟩
    ·rw[←U.o];exact(zjm O.o cap (by omega)).below (below_drewN C.o _)
    ·refine .inl ?_;rw[←R.o];exact List.drop_of_length_le M.o
   ·have d:¬(cap - cnt=0):=by omega
    go_enter func195,ntmps195;go_wp2_with fail;refine A.mono ?_;rintro e Z ⟨rfl,B⟩;have C:=zaa B;clear A B;go_wp2
    go_quiet (fail)
    go_wp2
    go_ret2
    refine⟨_,_,_,_,by rw[Y.o,J.o];rfl,?_,?_,below_drewN C.o _⟩
    ·rw[←U.o];exact(zjm O.o cnt (by omega)).below (below_drewN C.o _)
    ·rw[←R.o];have hd:=zrj O.o cnt;rw[Nat.zero_add,Nat.mul_one]at hd;exact hd.below (below_drewN C.o _)
theorem zrk(l:List Int)(b:Int):(ze4 l b).length≤l.length:=List.length_filter_le _ _
theorem zn8(l:List Int)(b:Int):(zc0 l b).length≤l.length:=List.length_filter_le _ _
theorem z0g(base:Nat)(v:Value)(l:List Int)(b:Int)(w:World)(hown:w.ownsRow base 3 1 v l.length (cellsI l))(hn:l.length≤100)(hu:Up id l):
  Calls prog 162 #[v,.int .i64 b,.func (.func 158) #[] #[],.int .i64 b] w fun e w'=>∃v',e=.returned v'∧w'.ownsRow w.heap.size 3 1 v' (zbj id l b b).length (cellsI (zbj id l b b))∧Below w.heap.size w w':=by
 have U:=zaa hown;clear hown;go_enter func162,ntmps162;go_wp2_with fail;refine(zmh base v l b _ U.o (by omega) hu).mono ?_;rintro e A ⟨D,c1,C,c2,rfl,E,J,I⟩;have L:=zaa E;have S:=zaa J;have N:=zaa I;have q1:=zrk l b;have q2:=zn8 l b;have A0:=N.o.size;clear E J I
 have Y:Hid (∀w',Below A.heap.size A w'→w'.cell? ⟨A.heap.size+1,0,none⟩=some (.slice D (ze4 l b).length c1)→w'.cell? ⟨A.heap.size+1,1,none⟩=some (.slice (some ⟨A.heap.size,0,none⟩) 1 1)→w'.cell? ⟨A.heap.size+1,2,none⟩=some (.slice C (zc0 l b).length c2)→SegI w' (some ⟨A.heap.size,0,none⟩) [b]→A.heap.size+1<w'.heap.size→zyt w' (A.heap.size+1) [(D,c1,ze4 l b),(some ⟨A.heap.size,0,none⟩,1,[b]),(C,c2,zc0 l b)]):=by
  intro w' hb Z c X K O;refine⟨O,fun i x hx=>?_⟩
  match i,hx with
  |0,hx=>cases hx;exact⟨Z,L.o.below hb⟩
  |1,hx=>cases hx;exact⟨c,K⟩
  |2,hx=>cases hx;exact⟨X,S.o.below hb⟩
  |n+3,hx=>simp at hx
 have a:Hid (flatI [(D,c1,ze4 l b),(some ⟨A.heap.size,0,none⟩,1,[b]),(C,c2,zc0 l b)]=zbj id l b b):=by simp[Hid,flatI,ze4,zc0,zbj]
 go_wp2_with fail;refine(zii (A.heap.size+1) 3 3 [(D,c1,ze4 l b),(some ⟨A.heap.size,0,none⟩,1,[b]),(C,c2,zc0 l b)] _ rfl (by omega) (Y.o _ (zae (zab _ _) (zab _ _)) (by simp[go_sem]) (by simp[go_sem]) (by simp[go_sem]) (.inr ⟨A.heap.size,0,rfl,by simp;omega,fun i hi=>?_⟩) (by simp)) (by simp[flatI];omega)).mono ?_
 ·have:i=0:=by simpa using hi
  subst this;simp[go_sem]
 ·rintro e w2 ⟨v2,rfl,B,F⟩;rw[a.o]at B;have R:=zaa B;have Q:=zae (zae (zab _ _) (zab _ _)) F;have M:=zaa (zae N.o Q);clear B F;go_wp2;go_ret;refine⟨_,rfl,zba R.o ?_,M.o⟩;simp;omega
theorem zrl(base:Nat)(v:Value)(l:List Int)(b:Int)(w:World)(hown:w.ownsRow base 3 1 v l.length (cellsI l))(hn:l.length≤100)(hu:Up id l):
  Calls prog 157 #[v,.int .i64 b,.func (.func 158) #[] #[]] w fun e w'=>∃v',e=.returned v'∧w'.ownsRow w.heap.size 3 1 v' (zax id l b).length (cellsI (zax id l b))∧Below w.heap.size w w':=by
 have R:=zaa hown;clear hown;go_enter func157,ntmps157;go_wp2_with fail;refine(zmh base v l b _ R.o (by omega) hu).mono ?_;rintro e B ⟨D,c1,C,c2,rfl,E,J,I⟩;have K:=zaa E;have Q:=zaa J;have M:=zaa I;have q1:=zrk l b;have q2:=zn8 l b;have A0:=M.o.size;clear E J I
 have U:Hid (∀w',Below B.heap.size B w'→w'.cell? ⟨B.heap.size,0,none⟩=some (.slice D (ze4 l b).length c1)→w'.cell? ⟨B.heap.size,1,none⟩=some (.slice C (zc0 l b).length c2)→B.heap.size<w'.heap.size→zyt w' B.heap.size [(D,c1,ze4 l b),(C,c2,zc0 l b)]):=by
  intro w' hb X S N;refine⟨N,fun i x hx=>?_⟩
  match i,hx with
  |0,hx=>cases hx;exact⟨X,K.o.below hb⟩
  |1,hx=>cases hx;exact⟨S,Q.o.below hb⟩
  |n+2,hx=>simp at hx
 have Y:Hid (flatI [(D,c1,ze4 l b),(C,c2,zc0 l b)]=zax id l b):=by simp[Hid,flatI,ze4,zc0,zax]
 go_wp2_with fail;refine(zii B.heap.size 2 2 [(D,c1,ze4 l b),(C,c2,zc0 l b)] _ rfl (by omega) (U.o _ (zab _ _) (by simp[go_sem]) (by simp[go_sem]) (by simp)) (by simp[flatI];omega)).mono ?_;rintro e w2 ⟨v2,rfl,A,F⟩;rw[Y.o]at A;have O:=zaa A;have L:=zaa (zae M.o (zae (zab _ _) F));clear A F;go_wp2;go_ret;refine⟨_,rfl,zba O.o ?_,L.o⟩;simp;omega
