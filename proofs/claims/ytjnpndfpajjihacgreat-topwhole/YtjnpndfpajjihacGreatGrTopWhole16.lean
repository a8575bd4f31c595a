/-
  
-/
import Derived.Test.YtjnpndfpajjihacGreatGrTopWhole3
import Derived.Test.YtjnpndfpajjihacGreatTConcatI
set_option maxRecDepth 100000
set_option maxHeartbeats 40000000
namespace Go.Proofs.YtjnpndfpajjihacGreat
open Tryz
open Go.RowKit
theorem zgr (w:World)(base:Nat)(ty:TypeId)(v:Value)(n c:Nat)(xs:List Value)(h:w.ownsRow base 84 2 v n xs):
  (Builtin.append_ #[34,34] ty #[v,.slice none 0 c]).run prog w=.ok v w:=by
 obtain⟨B,A,A0,A1,A2⟩:=info_parts zvg;rcases h.2 with⟨rfl,rfl⟩|⟨g,cap,cur,rfl,hb,hg,hnc,hcm,hrest⟩
 ·exact zen w _ _ _ B c underlying34 A
 ·simp[Builtin.append_,run_underlying underlying34,sizeOf,typeInfo,A,Builtin.lenOf,Builtin.firstCells,hnc,storeCells]
theorem zib (w W:World)(base:Nat){ops:Array Oper}{rest:List Oper}{o:Oper}{a:Act}{Q:Exit→Act→World→Prop}(hgd:o.guard=none)(s x:Operand)
  (ho:o.op=.call {callee:=.builtin .append,args:=#[s,x],argTypes:=#[34,34]})
  (v:Value) (n:Nat) (xs:List Value) (hs:a.eval s=v) (hown:w.ownsRow base 84 2 v n xs) (ao:Option Addr) (c:Nat) (l:List (Int×ByteArray)) (hx:a.eval x=.slice ao l.length c) (hS:SegW w ao l)
  (hn:n+l.length≤1000) (hbase:base≤w.heap.size) (hB:Below base W w)
  (h:∀v' w',Hid (w'.ownsRow base 84 2 v' (n+l.length) (xs++cellsC l))→Hid (Below base W w')→wpList prog ops Q rest (a.put o.dst v') w'):wpList prog ops Q (o::rest) a w:=by
 obtain⟨J,K,E,F,D⟩:=info_parts zvg
 cases ao with
 |none=>
  have I:l=[]:=by rcases hS with h|⟨b,off,he,_⟩;exact h;cases he
  subst I;refine Lib.wpList_append_run w hgd s x _ _ ho _ _ hs hx v w (zgr w base o.type v n c xs hown) (h v w ?_ hB);show w.ownsRow base 84 2 v (n+0) (xs++[]);rw[List.append_nil];exact hown
 |some ad=>
  refine wpList_append_own w hgd s x 34 ho base 84 J (.agg #[.int .i64 0,.string ⟨#[]⟩]) 2 24 underlying34 K E F D rfl (by decide) v n xs hs hown ad l.length c (cellsC l) hx (zdo l) ?_ (zhf l) (by unfold maxLen;omega) (by omega) hbase ?_
  ·intro j u C;rcases hS with h|⟨b,off,he,hlt,hc⟩
   ·rw[h] at C;simp[cellsC] at C
   ·cases he;rw[Addr.add_lit];exact SegC.news hc j u C
  ·intro v' w' B A _;exact h v' w' B (hB.grown A hbase (fun k hk=>(hown.lt k hk).1))
def flatC (L:List (Option Addr×Nat×List (Int×ByteArray))):List (Int×ByteArray):=(L.map (·.2.2)).flatten
theorem znf {L:List (Option Addr×Nat×List (Int×ByteArray))}{k:Nat}{x:Option Addr×Nat×List (Int×ByteArray)}(h:L[k]?=some x):flatC (L.take (k+1))=flatC (L.take k)++x.2.2:=by
 rw[List.take_add_one,h];simp[flatC]
theorem zkx (L:List (Option Addr×Nat×List (Int×ByteArray)))(k:Nat):(flatC (L.take k)).length≤(flatC L).length:=by
 have:flatC L=flatC (L.take k)++flatC (L.drop k):=by rw[flatC,flatC,flatC,←List.flatten_append,←List.map_append,List.take_append_drop]
 rw[this,List.length_append];omega
def z39 (w:World)(B:Nat)(L:List (Option Addr×Nat×List (Int×ByteArray))):Prop:=
 B<w.heap.size∧∀i x,L[i]?=some x→w.cell? ⟨B,i,none⟩=some (.slice x.1 x.2.2.length x.2.1)∧SegW w x.1 x.2.2
open Go.RowKit
theorem z0a (n:Nat)(w:World)(hn:n≤1000):
  Calls prog 213 #[.slice none 0 0,.int .i64 n] w fun e w'=>∃v',e=.returned v'∧w'.ownsRow w.heap.size 84 2 v' 0 []∧Below w.heap.size w w':=by
 obtain⟨J,N,K,L,E⟩:=info_parts zvg;rcases Nat.eq_zero_or_pos n with rfl|hpos
 ·go_enter func213,ntmps213;go_wp2;go_ret;exact⟨_,rfl,World.ownsRow_nil _ _ _ _,Below.refl _ _⟩
 ·obtain⟨G,C⟩:∃G,G=grownCap w n 0 84:=⟨_,rfl⟩;have A0:n≤G:=by rw[C];exact grownCap_ge w _ _ _
  have F:G≤maxLen:=by rw[C];exact grownCap_le_maxLen w n 0 _ (by unfold maxLen;omega)
  obtain⟨A,B⟩:∃A,A=#[]++Builtin.zeroCells (.agg #[.int .i64 0,.string ⟨#[]⟩]:Value).cells n++Builtin.zeroCells (.agg #[.int .i64 0,.string ⟨#[]⟩]:Value).cells (G - n):=⟨_,rfl⟩
  have D:A.size=G*2:=by
   rw[B,Array.size_append,Array.size_append,size_zeroCells,size_zeroCells];show 0+n*2+(G - n)*2=G*2;omega
  have I:∀ty,(Builtin.append_ #[34,3] ty #[.slice none 0 0,.int .i64 (n:Int)]).run prog w=.ok (.slice (some ⟨w.heap.size,0,none⟩) n G) (w.drew.alloc (.cells A 84)):=fun ty=>by
   have h:=Lib.run_append_grow_zeros (P:=prog) w 34 3 ty 84 J (.agg #[.int .i64 0,.string ⟨#[]⟩]) .i64 .i64 underlying34 underlying3 N K none 0 0 [] (run_firstCells_none w.drew J.size 0 0 0) n hpos (by rw[L];decide) (by omega) (by omega) (by rw[E];omega) (by rw[Nat.zero_add,E];exact growslice_fits (by omega) (by omega));rw[Nat.zero_add,←C] at h;rw[h,B]
  have M:Hid ((w.drew.alloc (.cells A 84)).ownsRow w.heap.size 84 2 (.slice (some ⟨w.heap.size,0,none⟩) 0 G) 0 []):=World.ownsRow_made w.drew A G (Nat.le_refl _) F D;clear C B D;unfold maxLen at F;have h1:¬((n:Int)<0):=by omega
  have h2:(n:Int)>0:=by omega
  go_enter func213,ntmps213;go_wp2_with (at_builtin;refine Lib.wpList_append_run _ rfl _ _ _ _ rfl _ _ rfl rfl _ _ (I _) ?_);go_ret;exact⟨_,rfl,M.o,(Below.refl _ _).drew.alloc (by simp) _⟩
theorem zl8 (B m c:Nat)(L:List (Option Addr×Nat×List (Int×ByteArray)))(w:World)(hm:L.length=m)(hm2:m≤1000)(h:z39 w B L)(hn:(flatC L).length≤1000):
  Calls prog 194 #[.slice (some ⟨B,0,none⟩) m c] w fun e w'=>∃v',e=.returned v'∧w'.ownsRow w.heap.size 84 2 v' (flatC L).length (cellsC (flatC L))∧Below w.heap.size w w':=by
 subst hm;have M:=zab h;clear h;go_enter func194,ntmps194;go_wp2
 go_loop [3,11] (fun s i=>∃k:Nat,k≤L.length∧i=.int .i64 k∧s=.int .i64 ((flatC (L.take k)).length:Int)) (fun _ i=>L.length - (intOf i).toNat)
 case atStart=>exact⟨0,Nat.zero_le _,rfl,rfl⟩
 case round=>
  obtain⟨k,l,rfl,rfl⟩:=hrel;have I:=zkx L k;by_cases hlt:k<L.length
  ·obtain⟨x,E⟩:∃x,L[k]?=some x:=⟨_,List.getElem?_eq_getElem hlt⟩;have K:=(M.o.2 k x E).1;have F:Hid ((flatC (L.take (k+1))).length=(flatC (L.take k)).length+x.2.2.length):=by rw[Hid,znf E,List.length_append]
   have A:=zkx L (k+1);rw[F.o] at A;have U:(k:Int)<(L.length:Int):=by omega
   clear E;generalize (flatC (L.take k)).length=q at *;obtain⟨j,a,d⟩:=x;dsimp only at A K F;go_wp2
   go_round
   case rel=>exact⟨k+1,by omega,by go_num,by rw[F.o];go_num⟩
   case measure=>simp[intOf];omega
  ·have e:k=L.length:=by omega
   subst e;rw[List.take_length];clear I;obtain⟨N,O⟩:∃N,N=(flatC L).length:=⟨_,rfl⟩;rw[←O] at hn;rw[←O];have X:=zab O;clear O;go_wp2_with fail;refine(z0a N w hn).mono ?_;rintro e w1 ⟨v1,rfl,J,R⟩;have b:=zab J;have Z:=zab R;clear J R;go_wp2
   go_loopw [6,27] (fun s i wr=>∃(k:Nat),k≤L.length∧i=.int .i64 k∧Hid (wr.ownsRow w.heap.size 84 2 s (flatC (L.take k)).length (cellsC (flatC (L.take k))))∧Hid (Below w.heap.size w wr)) (fun _ i _=>L.length - (intOf i).toNat)
   case atStart=>exact⟨0,Nat.zero_le _,rfl,b,Z⟩
   case round=>
    obtain⟨k,l,rfl,D,C⟩:=hrel;have I:=zkx L k;rw[←X.o] at I;by_cases hlt:k<L.length
    ·obtain⟨x,E⟩:∃x,L[k]?=some x:=⟨_,List.getElem?_eq_getElem hlt⟩;have K:=zac C.o M.o.1 (M.o.2 k x E).1;have S:Hid (SegW wr x.1 x.2.2):=(M.o.2 k x E).2.below C.o;have F:Hid (flatC (L.take (k+1))=flatC (L.take k)++x.2.2):=znf E;have A:=zkx L (k+1);rw[F.o,List.length_append,←X.o] at A;have U:(k:Int)<(L.length:Int):=by omega
     clear E;generalize flatC (L.take k)=q at *;obtain⟨j,a,d⟩:=x;dsimp only at A K F S;go_wp2_with (at_builtin;refine zib _ w w.heap.size rfl _ _ rfl _ q.length (cellsC q) rfl D.o j a d rfl S.o (by omega) C.o.size C.o ?_);intro v' w' Q Y;clear D C S K;go_wp2
     go_roundw
     case rel=>exact⟨k+1,by omega,by go_num,by rw[F.o,List.length_append,zdp];exact Q,Y⟩
     case measure=>simp[intOf];omega
    ·have e:k=L.length:=by omega
     subst e;rw[List.take_length] at D;clear I;go_wp2;go_ret;exact⟨_,rfl,D.o,C.o⟩
end Go.Proofs.YtjnpndfpajjihacGreat


namespace Go.Proofs.YtjnpndfpajjihacGreat
open Go.RowKit
theorem ztm (a:Option Addr)(c:Nat)(l:List (Int×ByteArray))(b:Int)(w:World)(h:SegW w a l)(hn:l.length≤1000)(hu:Up (·.1) l):
  Calls Tryz.prog 212 #[.slice a l.length c,.int .i64 b,.func (.func 156) #[] #[]] w fun e w'=>e=.returned (.tuple #[.int .i64 ((l.countP fun x=>decide (x.1<b):Nat):Int),.bool (l.any fun x=>x.1==b)])∧Below w.heap.size w w':=by
 have HS:=zab h;have r:=zab hu;clear h hu;obtain⟨cnt,K⟩:∃cnt,cnt=l.countP fun x=>decide (x.1<b):=⟨_,rfl⟩;obtain⟨O,M⟩:∃O,O=l.any fun x=>x.1==b:=⟨_,rfl⟩;rw[←K,←M];have p:=zab K;have HF:=zab M;have k:cnt≤l.length:=by rw[K];exact List.countP_le_length
 clear K M;go_enter Tryz.func212,Tryz.ntmps212;go_wp2
 go_loopw [9,10] (fun i j wr=>∃F A:Nat,i=.int .i64 F∧j=.int .i64 A∧F≤cnt∧cnt≤A∧A≤l.length∧Below w.heap.size w wr) (fun i j _=>(intOf j).toNat - (intOf i).toNat)
 case atStart=>exact⟨0,l.length,rfl,rfl,Nat.zero_le _,k,Nat.le_refl _,Below.refl _ _⟩
 case round=>
  obtain⟨F,A,rfl,rfl,X,d,u,D⟩:=hrel;by_cases hlt:F<A
  ·obtain⟨m,hm⟩:∃m,m=(F+A)/2:=⟨_,rfl⟩;have Q:m<l.length:=by omega
   have A2:((F:Int)+(A:Int))/2=(m:Int):=by omega
   have A4:F≤m:=by omega
   have A3:m<A:=by omega
   clear hm;obtain⟨b2,s,rfl,hb,S⟩:=HS.o.resolve_left (by intro e;rw[e] at Q;simp at Q);obtain⟨x,N⟩:∃x,x=l.getD m (0,ByteArray.empty):=⟨_,rfl⟩;obtain⟨J,I⟩:=S m Q;rw[←N] at J I;have g1:=zac D hb J;have g2:=zac D hb I;have q:Hid (l[m]?=some x):=by rw[N];exact zcg _ _ _ Q
   have C:x.1<b↔m<l.countP (fun x=>decide (x.1<b)):=z5u r.o b q.o;rw[←p.o] at C;clear N S J I;obtain⟨n,t⟩:=x;dsimp only at C;have A1:(F:Int)<(A:Int):=by omega
   have Y:(m:Int)<(l.length:Int):=by omega
   by_cases hk:n<b
   ·have hq:m<cnt:=C.1 hk;have B:cmpI (n) b= -1:=ztl hk;go_wp2_with fail;refine(zih n t b _).mono ?_;rintro e w' ⟨rfl,E⟩;rw[B];have L:=zae D E;clear hk C B E;go_wp2
    go_roundw
    case rel=>exact⟨m+1,A,by go_num,rfl,by omega,d,u,L⟩
    case measure=>simp[intOf];omega
   ·have hq:cnt≤m:=by have:=mt C.2 hk;omega
    have B:¬cmpI (n) b<0:=zz9 hk;go_wp2_with fail;refine(zih n t b _).mono ?_;rintro e w' ⟨rfl,E⟩;have L:=zae D E;generalize cmpI (n) b=z at *;clear hk C E;go_wp2
    go_roundw
    case rel=>exact⟨F,m,rfl,rfl,X,hq,by omega,L⟩
    case measure=>simp[intOf];omega
  ·obtain rfl:F=cnt:=by omega
   obtain rfl:A=F:=by omega
   clear X d k;by_cases hlast:A<l.length
   ·obtain⟨b2,s,rfl,hb,S⟩:=HS.o.resolve_left (by intro e;rw[e] at hlast;simp at hlast);obtain⟨x,N⟩:∃x,x=l.getD A (0,ByteArray.empty):=⟨_,rfl⟩;obtain⟨J,I⟩:=S A hlast;rw[←N] at J I;have g1:=zac D hb J;have g2:=zac D hb I;have q:Hid (l[A]?=some x):=by rw[N];exact zcg _ _ _ hlast
    have U:O=(x.1==b):=by
     have R:(l.any fun x=>x.1==b)=true↔∃x,l[l.countP fun x=>decide (x.1<b)]?=some x∧x.1=b:=zd2 r.o b;rw[HF.o,Bool.eq_iff_iff,R,←p.o,q.o];constructor
     ·rintro⟨y,e,hy⟩;cases e;simpa using hy
     ·intro e;exact⟨x,rfl,by simpa using e⟩
    have Z:=zab U;clear N S J I U;obtain⟨n,t⟩:=x;dsimp only at Z;have Y:(A:Int)<(l.length:Int):=by omega
    have B:=zq9 (n) b;go_wp2_with fail;refine(zih n t b _).mono ?_;rintro e w' ⟨rfl,E⟩;have L:=zae D E;have A0:=zab B;generalize cmpI (n) b=z at *;clear B E;go_wp2
    go_ret2
    exact⟨by rw[Z.o,←A0.o];rfl,L⟩
   ·have U:O=false:=by
     have R:(l.any fun x=>x.1==b)=true↔∃x,l[l.countP fun x=>decide (x.1<b)]?=some x∧x.1=b:=zd2 r.o b;rw[HF.o,←Bool.not_eq_true,R,←p.o,List.getElem?_eq_none (by omega)];rintro⟨y,e,_⟩;cases e
    have Y:¬(A:Int)<(l.length:Int):=by omega
    subst U;go_wp2
    go_ret2
    exact⟨rfl,D⟩
end Go.Proofs.YtjnpndfpajjihacGreat


namespace Go.Proofs.YtjnpndfpajjihacGreat
open Tryz
open Go.RowKit
theorem zjg {w:World}{a:Option Addr}{l:List (Int×ByteArray)}(h:SegW w a l)(k:Nat)(hk:k≤l.length):SegW w a (l.take k):=by
 rcases h with h|⟨b,off,rfl,hlt,hc⟩
 ·exact .inl (by rw[h];simp)
 ·refine .inr ⟨b,off,rfl,hlt,fun i hi=>?_⟩;have A:i<k:=by simp at hi;omega
  have e:(l.take k).getD i (0,ByteArray.empty)=l.getD i (0,ByteArray.empty):=by rw[List.getD,List.getD,List.getElem?_take_of_lt A]
  rw[e];exact hc i (by omega)
theorem zra {w:World}{b off:Nat}{l:List (Int×ByteArray)}(h:SegW w (some ⟨b,off,none⟩) l)(k:Nat):SegW w (some ⟨b,off+k*2,none⟩) (l.drop k):=by
 rcases h with h|⟨b',off',e,hlt,hc⟩
 ·exact .inl (by rw[h];simp)
 ·cases e;refine .inr ⟨b,off+k*2,rfl,hlt,fun i hi=>?_⟩;have e:(l.drop k).getD i (0,ByteArray.empty)=l.getD (k+i) (0,ByteArray.empty):=by rw[List.getD,List.getD,List.getElem?_drop]
  rw[e];have:=hc (k+i) (by simp at hi;omega);refine⟨?_,?_⟩
  ·rw[show off+k*2+i*2=off+(k+i)*2 from by omega];exact this.1
  ·rw[show off+k*2+i*2+1=off+(k+i)*2+1 from by omega];exact this.2
def ze0 (l:List (Int×ByteArray))(b:Int):List (Int×ByteArray):=l.filter fun x=>decide (x.1<b)
def zcz (l:List (Int×ByteArray))(b:Int):List (Int×ByteArray):=l.filter fun x=>decide (b<x.1)
theorem zl9 (base:Nat)(v:Value)(l:List (Int×ByteArray))(b:Int)(w:World)(hown:w.ownsRow base 84 2 v l.length (cellsC l))(hn:l.length≤1000)(hu:Up (·.1) l):
  Calls prog 193 #[v,.int .i64 b,.func (.func 156) #[] #[]] w fun e w'=>∃a1 c1 a2 c2,e=.returned (.tuple #[.slice a1 (ze0 l b).length c1,.slice a2 (zcz l b).length c2])∧SegW w' a1 (ze0 l b)∧SegW w' a2 (zcz l b)∧Below w.heap.size w w':=by
 have E:l.take (l.countP fun x=>decide (x.1<b))=ze0 l b∧l.drop (l.countP fun x=>decide (x.1<b))=l.filter (fun x=>decide (b≤x.1)):=zyd hu b;have D:(l.any fun x=>x.1==b)=true↔∃x,l[l.countP fun x=>decide (x.1<b)]?=some x∧x.1=b:=zd2 hu b;obtain⟨j,c0,R,K,_⟩:=SegC.of_owns hown;have A:=ztm j c0 l b w K hn hu;rw[←R] at A;obtain⟨cnt,F⟩:∃cnt,cnt=l.countP fun x=>decide (x.1<b):=⟨_,rfl⟩;have h:cnt≤l.length:=by rw[F];exact List.countP_le_length
 rw[←F] at E D A;have U:(ze0 l b).length=cnt:=by rw[←E.1,List.length_take];omega
 have X:=zab E.1;have Y:=zab U
 cases hf:l.any fun x=>x.1==b with
 |true=>
  obtain⟨x,S,a⟩:=D.1 hf;have A0:cnt<l.length:=(List.getElem?_eq_some_iff.1 S).1
  have I:l.drop (cnt+1)=zcz l b:=by
   rw[F] at S⊢;exact z3p hu b x S a
  have L:(zcz l b).length=l.length - (cnt+1):=by rw[←I,List.length_drop]
  have Q:=zab I;have J:=zab L;rw[hf] at A;clear S a hf D E F I L U;rcases hown.2 with⟨rfl,h0⟩|⟨g,cap,cur,rfl,hb,hg,hnc,hcm,_⟩
  ·omega
  ·unfold maxLen at hcm;simp only[Value.slice.injEq] at R;obtain⟨rfl,_,rfl⟩:=R;have O:=zab K;have c:(cnt:Int)<(l.length:Int):=by omega
   have N:(l.length:Int)≤(cap:Int):=by omega
   clear hown K hg;by_cases hz:cap=cnt+1
   ·subst hz;have M:Hid (l.length≤cnt+1):=by unfold Hid;omega
    clear hnc N;have N:(l.length:Int)≤(cnt:Int)+1:=by have:=M.o;omega
    go_enter func193,ntmps193;go_wp2_with fail;refine A.mono ?_;rintro e Z ⟨rfl,B⟩;have C:=zab B;clear A B;go_wp2
    go_quiet (fail)
    go_wp2
    go_ret2
    refine⟨_,_,_,_,by rw[Y.o,J.o];rfl,?_,?_,below_drewN C.o _⟩
    ·rw[←X.o];exact(zjg O.o cnt (by omega)).below (below_drewN C.o _)
    ·refine .inl ?_;rw[←Q.o];exact List.drop_of_length_le M.o
   ·have i:¬(cap - (cnt+1)=0):=by omega
    go_enter func193,ntmps193;go_wp2_with fail;refine A.mono ?_;rintro e Z ⟨rfl,B⟩;have C:=zab B;clear A B;go_wp2
    go_quiet (fail)
    go_wp2
    go_ret2
    refine⟨_,_,_,_,by rw[Y.o,J.o];rfl,?_,?_,below_drewN C.o _⟩
    ·rw[←X.o];exact(zjg O.o cnt (by omega)).below (below_drewN C.o _)
    ·rw[←Q.o];have hd:=zra O.o (cnt+1);rw[Nat.zero_add] at hd;exact hd.below (below_drewN C.o _)
 |false=>
  have I:l.drop cnt=zcz l b:=by
   rw[E.2];refine zye hu b fun x S hk=>?_;rw[F] at D;rw[D.2 ⟨x,S,hk⟩] at hf;cases hf
  have L:(zcz l b).length=l.length - cnt:=by rw[←I,List.length_drop]
  have Q:=zab I;have J:=zab L;rw[hf] at A;clear hf D E F I L U;rcases hown.2 with⟨rfl,h0⟩|⟨g,cap,cur,rfl,hb,hg,hnc,hcm,_⟩
  ·have d:l=[]:=List.eq_nil_of_length_eq_zero h0;subst d;obtain rfl:cnt=0:=by simpa using h
   clear hown K R;go_enter func193,ntmps193;go_wp2_with fail;refine A.mono ?_;rintro e Z ⟨rfl,B⟩;have C:=zab B;clear A B;go_wp2
   go_quiet (fail)
   go_wp2
   go_ret2
   refine⟨_,_,_,_,by rw[Y.o,J.o];rfl,.inl ?_,.inl ?_,below_drewN C.o _⟩
   ·rw[←X.o];rfl
   ·rw[←Q.o];rfl
  ·unfold maxLen at hcm;simp only[Value.slice.injEq] at R;obtain⟨rfl,_,rfl⟩:=R;have O:=zab K;have c:(cnt:Int)≤(l.length:Int):=by omega
   have N:(l.length:Int)≤(cap:Int):=by omega
   clear hown K hg;by_cases hz:cap=cnt
   ·subst hz;have M:Hid (l.length≤cap):=by unfold Hid;omega
    go_enter func193,ntmps193;go_wp2_with fail;refine A.mono ?_;rintro e Z ⟨rfl,B⟩;have C:=zab B;clear A B;go_wp2
    go_quiet (fail)
    go_wp2
    go_ret2
    refine⟨_,_,_,_,by rw[Y.o,J.o,show l.length - cap=0 from by have:=M.o;omega];rfl,?_,?_,below_drewN C.o _⟩
    ·rw[←X.o];exact(zjg O.o cap (by omega)).below (below_drewN C.o _)
    ·refine .inl ?_;rw[←Q.o];exact List.drop_of_length_le M.o
   ·have i:¬(cap - cnt=0):=by omega
    go_enter func193,ntmps193;go_wp2_with fail;refine A.mono ?_;rintro e Z ⟨rfl,B⟩;have C:=zab B;clear A B;go_wp2
    go_quiet (fail)
    go_wp2
    go_ret2
    refine⟨_,_,_,_,by rw[Y.o,J.o];rfl,?_,?_,below_drewN C.o _⟩
    ·rw[←X.o];exact(zjg O.o cnt (by omega)).below (below_drewN C.o _)
    ·rw[←Q.o];have hd:=zra O.o cnt;rw[Nat.zero_add] at hd;exact hd.below (below_drewN C.o _)
open Go.RowKit
theorem zrb (l:List (Int×ByteArray))(b:Int):(ze0 l b).length≤l.length:=List.length_filter_le _ _
theorem znz (l:List (Int×ByteArray))(b:Int):(zcz l b).length≤l.length:=List.length_filter_le _ _
theorem zrc (base:Nat)(v:Value)(l:List (Int×ByteArray))(b:Int)(s:ByteArray)(w:World)(hown:w.ownsRow base 84 2 v l.length (cellsC l))(hn:l.length≤100)(hu:Up (·.1) l):
  Calls prog 155 #[v,.int .i64 b,.func (.func 156) #[] #[],.agg #[.int .i64 b,.string s]] w fun e w'=>∃v',e=.returned v'∧w'.ownsRow w.heap.size 84 2 v' (zbj (·.1) l b (b,s)).length (cellsC (zbj (·.1) l b (b,s)))∧Below w.heap.size w w':=by
 have Y:=zab hown;clear hown;go_enter func155,ntmps155;go_wp2_with fail;refine(zl9 base v l b _ (zah Y.o (zaa _ _)) (by omega) hu).mono ?_;rintro e A ⟨F,c1,E,c2,rfl,D,I,C⟩;have Q:=zab D;have S:=zab I;have D:w.heap.size<A.heap.size:=by have:=C.size;simp at this;omega
 have y0:=zac C (b:=w.heap.size) (o:=0) (v:=.int .i64 b) (by simp) (by simp[go_sem]);have y1:=zac C (b:=w.heap.size) (o:=1) (v:=.string s) (by simp) (by simp[go_sem]);have O:=zab (zae (zaa _ _) C);have q1:=zrb l b;have q2:=znz l b;have A0:=O.o.size;clear D I C
 have a:Hid (∀w',Below A.heap.size A w'→w'.cell? ⟨A.heap.size+1,0,none⟩=some (.slice F (ze0 l b).length c1)→w'.cell? ⟨A.heap.size+1,1,none⟩=some (.slice (some ⟨A.heap.size,0,none⟩) 1 1)→w'.cell? ⟨A.heap.size+1,2,none⟩=some (.slice E (zcz l b).length c2)→SegW w' (some ⟨A.heap.size,0,none⟩) [(b,s)]→A.heap.size+1<w'.heap.size→z39 w' (A.heap.size+1) [(F,c1,ze0 l b),(some ⟨A.heap.size,0,none⟩,1,[(b,s)]),(E,c2,zcz l b)]):=by
  intro w' hb Z U X K R;refine⟨R,fun i x hx=>?_⟩
  match i,hx with
  |0,hx=>cases hx;exact⟨Z,Q.o.below hb⟩
  |1,hx=>cases hx;exact⟨U,K⟩
  |2,hx=>cases hx;exact⟨X,S.o.below hb⟩
  |n+3,hx=>simp at hx
 have c:Hid (flatC [(F,c1,ze0 l b),(some ⟨A.heap.size,0,none⟩,1,[(b,s)]),(E,c2,zcz l b)]=zbj (·.1) l b (b,s)):=by simp[Hid,flatC,ze0,zcz,zbj]
 go_wp2_with fail;refine(zl8 (A.heap.size+1) 3 3 [(F,c1,ze0 l b),(some ⟨A.heap.size,0,none⟩,1,[(b,s)]),(E,c2,zcz l b)] _ rfl (by omega) (a.o _ (zae (zaa _ _) (zaa _ _)) (by simp[go_sem]) (by simp[go_sem]) (by simp[go_sem]) (.inr ⟨A.heap.size,0,rfl,by simp;omega,fun i hi=>?_⟩) (by simp)) (by simp[flatC];omega)).mono ?_
 ·have:i=0:=by simpa using hi
  subst this;exact⟨by simp[go_sem],by simp[go_sem]⟩
 ·rintro e w2 ⟨v2,rfl,B,J⟩;rw[c.o] at B;have L:=zab B;have M:=zae (zae (zaa _ _) (zaa _ _)) J;have N:=zab (zae O.o M);clear B J;go_wp2;go_ret;refine⟨_,rfl,za9 L.o ?_,N.o⟩;simp;omega
theorem zkf (base:Nat)(v:Value)(l:List (Int×ByteArray))(b:Int)(w:World)(hown:w.ownsRow base 84 2 v l.length (cellsC l))(hn:l.length≤100)(hu:Up (·.1) l):
  Calls prog 161 #[v,.int .i64 b,.func (.func 156) #[] #[]] w fun e w'=>∃v',e=.returned v'∧w'.ownsRow w.heap.size 84 2 v' (zax (·.1) l b).length (cellsC (zax (·.1) l b))∧Below w.heap.size w w':=by
 have S:=zab hown;clear hown;go_enter func161,ntmps161;go_wp2_with fail;refine(zl9 base v l b _ S.o (by omega) hu).mono ?_;rintro e B ⟨D,c1,C,c2,rfl,F,E,I⟩;have N:=zab F;have Q:=zab E;have M:=zab I;have q1:=zrb l b;have q2:=znz l b;have A0:=M.o.size;clear F E I
 have X:Hid (∀w',Below B.heap.size B w'→w'.cell? ⟨B.heap.size,0,none⟩=some (.slice D (ze0 l b).length c1)→w'.cell? ⟨B.heap.size,1,none⟩=some (.slice C (zcz l b).length c2)→B.heap.size<w'.heap.size→z39 w' B.heap.size [(D,c1,ze0 l b),(C,c2,zcz l b)]):=by
  intro w' hb U R O;refine⟨O,fun i x hx=>?_⟩
  match i,hx with
  |0,hx=>cases hx;exact⟨U,N.o.below hb⟩
  |1,hx=>cases hx;exact⟨R,Q.o.below hb⟩
  |n+2,hx=>simp at hx
 have Y:Hid (flatC [(D,c1,ze0 l b),(C,c2,zcz l b)]=zax (·.1) l b):=by simp[Hid,flatC,ze0,zcz,zax]
 go_wp2_with fail;refine(zl8 B.heap.size 2 2 [(D,c1,ze0 l b),(C,c2,zcz l b)] _ rfl (by omega) (X.o _ (zaa _ _) (by simp[go_sem]) (by simp[go_sem]) (by simp)) (by simp[flatC];omega)).mono ?_;rintro e w2 ⟨v2,rfl,A,J⟩;rw[Y.o] at A;have K:=zab A;have L:=zab (zae M.o (zae (zaa _ _) J));clear A J;go_wp2;go_ret;refine⟨_,rfl,za9 K.o ?_,L.o⟩;simp;omega
end Go.Proofs.YtjnpndfpajjihacGreat


namespace Go.Proofs.YtjnpndfpajjihacGreat
open Go.RowKit
theorem ztn (a:Option Addr)(c:Nat)(l:List Int)(b:Int)(w:World)(h:SegI w a l)(hn:l.length≤1000)(hu:Up id l):
  Calls Tryz.prog 214 #[.slice a l.length c,.int .i64 b,.func (.func 158) #[] #[]] w fun e w'=>e=.returned (.tuple #[.int .i64 ((l.countP fun x=>decide (x<b):Nat):Int),.bool (l.any fun x=>x==b)])∧Below w.heap.size w w':=by
 have u:=zab h;have n:=zab hu;clear h hu;obtain⟨cnt,J⟩:∃cnt,cnt=l.countP fun x=>decide (x<b):=⟨_,rfl⟩;obtain⟨N,L⟩:∃N,N=l.any fun x=>x==b:=⟨_,rfl⟩;rw[←J,←L];have d:=zab J;have s:=zab L;have Z:cnt≤l.length:=by rw[J];exact List.countP_le_length
 clear J L;go_enter Tryz.func214,Tryz.ntmps214;go_wp2
 go_loopw [9,10] (fun i j wr=>∃D A:Nat,i=.int .i64 D∧j=.int .i64 A∧D≤cnt∧cnt≤A∧A≤l.length∧Below w.heap.size w wr) (fun i j _=>(intOf j).toNat - (intOf i).toNat)
 case atStart=>exact⟨0,l.length,rfl,rfl,Nat.zero_le _,Z,Nat.le_refl _,Below.refl _ _⟩
 case round=>
  obtain⟨D,A,rfl,rfl,U,Y,q,I⟩:=hrel;by_cases hlt:D<A
  ·obtain⟨m,hm⟩:∃m,m=(D+A)/2:=⟨_,rfl⟩;have O:m<l.length:=by omega
   have A2:((D:Int)+(A:Int))/2=(m:Int):=by omega
   have A4:D≤m:=by omega
   have A3:m<A:=by omega
   clear hm;obtain⟨b2,p,rfl,hb,R⟩:=u.o.resolve_left (by intro e;rw[e] at O;simp at O);obtain⟨x,M⟩:∃x,x=l.getD m 0:=⟨_,rfl⟩;have F:=R m O;rw[←M] at F;have g1:=zac I hb F;have k:Hid (l[m]?=some x):=by rw[M];exact zcg _ _ _ O
   have E:x<b↔m<l.countP (fun x=>decide (x<b)):=z5u n.o b k.o;rw[←d.o] at E;clear M R F;have A1:(D:Int)<(A:Int):=by omega
   have X:(m:Int)<(l.length:Int):=by omega
   by_cases hk:x<b
   ·have hq:m<cnt:=E.1 hk;have B:cmpI (x) b= -1:=ztl hk;go_wp2_with fail;refine(zg8 x b _).mono ?_;rintro e w' ⟨rfl,C⟩;rw[B];have K:=zae I C;clear hk E B C;go_wp2
    go_roundw
    case rel=>exact⟨m+1,A,by go_num,rfl,by omega,Y,q,K⟩
    case measure=>simp[intOf];omega
   ·have hq:cnt≤m:=by have:=mt E.2 hk;omega
    have B:¬cmpI (x) b<0:=zz9 hk;go_wp2_with fail;refine(zg8 x b _).mono ?_;rintro e w' ⟨rfl,C⟩;have K:=zae I C;generalize cmpI (x) b=z at *;clear hk E C;go_wp2
    go_roundw
    case rel=>exact⟨D,m,rfl,rfl,U,hq,by omega,K⟩
    case measure=>simp[intOf];omega
  ·obtain rfl:D=cnt:=by omega
   obtain rfl:A=D:=by omega
   clear U Y Z;by_cases hlast:A<l.length
   ·obtain⟨b2,p,rfl,hb,R⟩:=u.o.resolve_left (by intro e;rw[e] at hlast;simp at hlast);obtain⟨x,M⟩:∃x,x=l.getD A 0:=⟨_,rfl⟩;have F:=R A hlast;rw[←M] at F;have g1:=zac I hb F;have k:Hid (l[A]?=some x):=by rw[M];exact zcg _ _ _ hlast
    have S:N=(x==b):=by
     have Q:(l.any fun x=>x==b)=true↔∃x,l[l.countP fun x=>decide (x<b)]?=some x∧x=b:=zd2 n.o b;rw[s.o,Bool.eq_iff_iff,Q,←d.o,k.o];constructor
     ·rintro⟨y,e,hy⟩;cases e;simpa using hy
     ·intro e;exact⟨x,rfl,by simpa using e⟩
    have r:=zab S;clear M R F S;have X:(A:Int)<(l.length:Int):=by omega
    have B:=zq9 (x) b;go_wp2_with fail;refine(zg8 x b _).mono ?_;rintro e w' ⟨rfl,C⟩;have K:=zae I C;have A0:=zab B;generalize cmpI (x) b=z at *;clear B C;go_wp2
    go_ret2
    exact⟨by rw[r.o,←A0.o];rfl,K⟩
   ·have S:N=false:=by
     have Q:(l.any fun x=>x==b)=true↔∃x,l[l.countP fun x=>decide (x<b)]?=some x∧x=b:=zd2 n.o b;rw[s.o,←Bool.not_eq_true,Q,←d.o,List.getElem?_eq_none (by omega)];rintro⟨y,e,_⟩;cases e
    have X:¬(A:Int)<(l.length:Int):=by omega
    subst S;go_wp2
    go_ret2
    exact⟨rfl,I⟩
end Go.Proofs.YtjnpndfpajjihacGreat


namespace Go.Proofs.YtjnpndfpajjihacGreat
open Tryz
open Go.RowKit
theorem zjh {w:World}{a:Option Addr}{l:List Int}(h:SegI w a l)(k:Nat)(hk:k≤l.length):SegI w a (l.take k):=by
 rcases h with h|⟨b,off,rfl,hlt,hc⟩
 ·exact .inl (by rw[h];simp)
 ·refine .inr ⟨b,off,rfl,hlt,fun i hi=>?_⟩;have A:i<k:=by simp at hi;omega
  have e:(l.take k).getD i 0=l.getD i 0:=by rw[List.getD,List.getD,List.getElem?_take_of_lt A]
  rw[e];exact hc i (by omega)
theorem zrd {w:World}{b off:Nat}{l:List Int}(h:SegI w (some ⟨b,off,none⟩) l)(k:Nat):SegI w (some ⟨b,off+k*1,none⟩) (l.drop k):=by
 rcases h with h|⟨b',off',e,hlt,hc⟩
 ·exact .inl (by rw[h];simp)
 ·cases e;refine .inr ⟨b,off+k*1,rfl,hlt,fun i hi=>?_⟩;have e:(l.drop k).getD i 0=l.getD (k+i) 0:=by rw[List.getD,List.getD,List.getElem?_drop]
  rw[e];have:=hc (k+i) (by simp at hi;omega);rw[show off+k*1+i=off+(k+i) from by omega];exact this
def ze1 (l:List Int)(b:Int):List Int:=l.filter fun x=>decide (x<b)
def zc0 (l:List Int)(b:Int):List Int:=l.filter fun x=>decide (b<x)
theorem zma (base:Nat)(v:Value)(l:List Int)(b:Int)(w:World)(hown:w.ownsRow base 3 1 v l.length (cellsI l))(hn:l.length≤1000)(hu:Up id l):
  Calls prog 195 #[v,.int .i64 b,.func (.func 158) #[] #[]] w fun e w'=>∃a1 c1 a2 c2,e=.returned (.tuple #[.slice a1 (ze1 l b).length c1,.slice a2 (zc0 l b).length c2])∧SegI w' a1 (ze1 l b)∧SegI w' a2 (zc0 l b)∧Below w.heap.size w w':=by
 have E:l.take (l.countP fun x=>decide (x<b))=ze1 l b∧l.drop (l.countP fun x=>decide (x<b))=l.filter (fun x=>decide (b≤x)):=zyd hu b;have D:(l.any fun x=>x==b)=true↔∃x,l[l.countP fun x=>decide (x<b)]?=some x∧x=b:=zd2 hu b;obtain⟨j,c0,R,K,_⟩:=SegI.of_owns hown;have A:=ztn j c0 l b w K hn hu;rw[←R] at A;obtain⟨cnt,F⟩:∃cnt,cnt=l.countP fun x=>decide (x<b):=⟨_,rfl⟩;have h:cnt≤l.length:=by rw[F];exact List.countP_le_length
 rw[←F] at E D A;have U:(ze1 l b).length=cnt:=by rw[←E.1,List.length_take];omega
 have X:=zab E.1;have Y:=zab U
 cases hf:l.any fun x=>x==b with
 |true=>
  obtain⟨x,S,a⟩:=D.1 hf;have A0:cnt<l.length:=(List.getElem?_eq_some_iff.1 S).1
  have I:l.drop (cnt+1)=zc0 l b:=by
   rw[F] at S⊢;exact z3p hu b x S a
  have L:(zc0 l b).length=l.length - (cnt+1):=by rw[←I,List.length_drop]
  have Q:=zab I;have J:=zab L;rw[hf] at A;clear S a hf D E F I L U;rcases hown.2 with⟨rfl,h0⟩|⟨g,cap,cur,rfl,hb,hg,hnc,hcm,_⟩
  ·omega
  ·unfold maxLen at hcm;simp only[Value.slice.injEq] at R;obtain⟨rfl,_,rfl⟩:=R;have O:=zab K;have c:(cnt:Int)<(l.length:Int):=by omega
   have N:(l.length:Int)≤(cap:Int):=by omega
   clear hown K hg;by_cases hz:cap=cnt+1
   ·subst hz;have M:Hid (l.length≤cnt+1):=by unfold Hid;omega
    clear hnc N;have N:(l.length:Int)≤(cnt:Int)+1:=by have:=M.o;omega
    go_enter func195,ntmps195;go_wp2_with fail;refine A.mono ?_;rintro e Z ⟨rfl,B⟩;have C:=zab B;clear A B;go_wp2
    go_quiet (fail)
    go_wp2
    go_ret2
    refine⟨_,_,_,_,by rw[Y.o,J.o];rfl,?_,?_,below_drewN C.o _⟩
    ·rw[←X.o];exact(zjh O.o cnt (by omega)).below (below_drewN C.o _)
    ·refine .inl ?_;rw[←Q.o];exact List.drop_of_length_le M.o
   ·have i:¬(cap - (cnt+1)=0):=by omega
    go_enter func195,ntmps195;go_wp2_with fail;refine A.mono ?_;rintro e Z ⟨rfl,B⟩;have C:=zab B;clear A B;go_wp2
    go_quiet (fail)
    go_wp2
    go_ret2
    refine⟨_,_,_,_,by rw[Y.o,J.o];rfl,?_,?_,below_drewN C.o _⟩
    ·rw[←X.o];exact(zjh O.o cnt (by omega)).below (below_drewN C.o _)
    ·rw[←Q.o];have hd:=zrd O.o (cnt+1);rw[Nat.zero_add,Nat.mul_one] at hd;exact hd.below (below_drewN C.o _)
 |false=>
  have I:l.drop cnt=zc0 l b:=by
   rw[E.2];refine zye hu b fun x S hk=>?_;rw[F] at D;rw[D.2 ⟨x,S,hk⟩] at hf;cases hf
  have L:(zc0 l b).length=l.length - cnt:=by rw[←I,List.length_drop]
  have Q:=zab I;have J:=zab L;rw[hf] at A;clear hf D E F I L U;rcases hown.2 with⟨rfl,h0⟩|⟨g,cap,cur,rfl,hb,hg,hnc,hcm,_⟩
  ·have d:l=[]:=List.eq_nil_of_length_eq_zero h0;subst d;obtain rfl:cnt=0:=by simpa using h
   clear hown K R;go_enter func195,ntmps195;go_wp2_with fail;refine A.mono ?_;rintro e Z ⟨rfl,B⟩;have C:=zab B;clear A B;go_wp2
   go_quiet (fail)
   go_wp2
   go_ret2
   refine⟨_,_,_,_,by rw[Y.o,J.o];rfl,.inl ?_,.inl ?_,below_drewN C.o _⟩
   ·rw[←X.o];rfl
   ·rw[←Q.o];rfl
  ·unfold maxLen at hcm;simp only[Value.slice.injEq] at R;obtain⟨rfl,_,rfl⟩:=R;have O:=zab K;have c:(cnt:Int)≤(l.length:Int):=by omega
   have N:(l.length:Int)≤(cap:Int):=by omega
   clear hown K hg;by_cases hz:cap=cnt
   ·subst hz;have M:Hid (l.length≤cap):=by unfold Hid;omega
    go_enter func195,ntmps195;go_wp2_with fail;refine A.mono ?_;rintro e Z ⟨rfl,B⟩;have C:=zab B;clear A B;go_wp2
    go_quiet (fail)
    go_wp2
    go_ret2
    refine⟨_,_,_,_,by rw[Y.o,J.o,show l.length - cap=0 from by have:=M.o;omega];rfl,?_,?_,below_drewN C.o _⟩
    ·rw[←X.o];exact(zjh O.o cap (by omega)).below (below_drewN C.o _)
    ·refine .inl ?_;rw[←Q.o];exact List.drop_of_length_le M.o
   ·have i:¬(cap - cnt=0):=by omega
    go_enter func195,ntmps195;go_wp2_with fail;refine A.mono ?_;rintro e Z ⟨rfl,B⟩;have C:=zab B;clear A B;go_wp2
    go_quiet (fail)
    go_wp2
    go_ret2
    refine⟨_,_,_,_,by rw[Y.o,J.o];rfl,?_,?_,below_drewN C.o _⟩
    ·rw[←X.o];exact(zjh O.o cnt (by omega)).below (below_drewN C.o _)
    ·rw[←Q.o];have hd:=zrd O.o cnt;rw[Nat.zero_add,Nat.mul_one] at hd;exact hd.below (below_drewN C.o _)
open Go.RowKit
theorem zre (l:List Int)(b:Int):(ze1 l b).length≤l.length:=List.length_filter_le _ _
theorem zn0 (l:List Int)(b:Int):(zc0 l b).length≤l.length:=List.length_filter_le _ _
theorem z0b (base:Nat)(v:Value)(l:List Int)(b:Int)(w:World)(hown:w.ownsRow base 3 1 v l.length (cellsI l))(hn:l.length≤100)(hu:Up id l):
  Calls prog 162 #[v,.int .i64 b,.func (.func 158) #[] #[],.int .i64 b] w fun e w'=>∃v',e=.returned v'∧w'.ownsRow w.heap.size 3 1 v' (zbj id l b b).length (cellsI (zbj id l b b))∧Below w.heap.size w w':=by
 have Y:=zab hown;clear hown;go_enter func162,ntmps162;go_wp2_with fail;refine(zma base v l b _ Y.o (by omega) hu).mono ?_;rintro e A ⟨D,c1,C,c2,rfl,F,E,I⟩;have O:=zab F;have S:=zab E;have N:=zab I;have q1:=zre l b;have q2:=zn0 l b;have A0:=N.o.size;clear F E I
 have c:Hid (∀w',Below A.heap.size A w'→w'.cell? ⟨A.heap.size+1,0,none⟩=some (.slice D (ze1 l b).length c1)→w'.cell? ⟨A.heap.size+1,1,none⟩=some (.slice (some ⟨A.heap.size,0,none⟩) 1 1)→w'.cell? ⟨A.heap.size+1,2,none⟩=some (.slice C (zc0 l b).length c2)→SegI w' (some ⟨A.heap.size,0,none⟩) [b]→A.heap.size+1<w'.heap.size→zyo w' (A.heap.size+1) [(D,c1,ze1 l b),(some ⟨A.heap.size,0,none⟩,1,[b]),(C,c2,zc0 l b)]):=by
  intro w' hb Z U X K Q;refine⟨Q,fun i x hx=>?_⟩
  match i,hx with
  |0,hx=>cases hx;exact⟨Z,O.o.below hb⟩
  |1,hx=>cases hx;exact⟨U,K⟩
  |2,hx=>cases hx;exact⟨X,S.o.below hb⟩
  |n+3,hx=>simp at hx
 have a:Hid (flatI [(D,c1,ze1 l b),(some ⟨A.heap.size,0,none⟩,1,[b]),(C,c2,zc0 l b)]=zbj id l b b):=by simp[Hid,flatI,ze1,zc0,zbj]
 go_wp2_with fail;refine(zic (A.heap.size+1) 3 3 [(D,c1,ze1 l b),(some ⟨A.heap.size,0,none⟩,1,[b]),(C,c2,zc0 l b)] _ rfl (by omega) (c.o _ (zae (zaa _ _) (zaa _ _)) (by simp[go_sem]) (by simp[go_sem]) (by simp[go_sem]) (.inr ⟨A.heap.size,0,rfl,by simp;omega,fun i hi=>?_⟩) (by simp)) (by simp[flatI];omega)).mono ?_
 ·have:i=0:=by simpa using hi
  subst this;simp[go_sem]
 ·rintro e w2 ⟨v2,rfl,B,J⟩;rw[a.o] at B;have L:=zab B;have R:=zae (zae (zaa _ _) (zaa _ _)) J;have M:=zab (zae N.o R);clear B J;go_wp2;go_ret;refine⟨_,rfl,za9 L.o ?_,M.o⟩;simp;omega
theorem zrf (base:Nat)(v:Value)(l:List Int)(b:Int)(w:World)(hown:w.ownsRow base 3 1 v l.length (cellsI l))(hn:l.length≤100)(hu:Up id l):
  Calls prog 157 #[v,.int .i64 b,.func (.func 158) #[] #[]] w fun e w'=>∃v',e=.returned v'∧w'.ownsRow w.heap.size 3 1 v' (zax id l b).length (cellsI (zax id l b))∧Below w.heap.size w w':=by
 have S:=zab hown;clear hown;go_enter func157,ntmps157;go_wp2_with fail;refine(zma base v l b _ S.o (by omega) hu).mono ?_;rintro e B ⟨D,c1,C,c2,rfl,F,E,I⟩;have N:=zab F;have Q:=zab E;have M:=zab I;have q1:=zre l b;have q2:=zn0 l b;have A0:=M.o.size;clear F E I
 have X:Hid (∀w',Below B.heap.size B w'→w'.cell? ⟨B.heap.size,0,none⟩=some (.slice D (ze1 l b).length c1)→w'.cell? ⟨B.heap.size,1,none⟩=some (.slice C (zc0 l b).length c2)→B.heap.size<w'.heap.size→zyo w' B.heap.size [(D,c1,ze1 l b),(C,c2,zc0 l b)]):=by
  intro w' hb U R O;refine⟨O,fun i x hx=>?_⟩
  match i,hx with
  |0,hx=>cases hx;exact⟨U,N.o.below hb⟩
  |1,hx=>cases hx;exact⟨R,Q.o.below hb⟩
  |n+2,hx=>simp at hx
 have Y:Hid (flatI [(D,c1,ze1 l b),(C,c2,zc0 l b)]=zax id l b):=by simp[Hid,flatI,ze1,zc0,zax]
 go_wp2_with fail;refine(zic B.heap.size 2 2 [(D,c1,ze1 l b),(C,c2,zc0 l b)] _ rfl (by omega) (X.o _ (zaa _ _) (by simp[go_sem]) (by simp[go_sem]) (by simp)) (by simp[flatI];omega)).mono ?_;rintro e w2 ⟨v2,rfl,A,J⟩;rw[Y.o] at A;have K:=zab A;have L:=zab (zae M.o (zae (zaa _ _) J));clear A J;go_wp2;go_ret;refine⟨_,rfl,za9 K.o ?_,L.o⟩;simp;omega
end Go.Proofs.YtjnpndfpajjihacGreat

