import Derived.Test.YtjnpndfpajjihadGreatGrJournalRuns3
import Derived.Test.YtjnpndfpajjihadGreatGrJournalRuns17
set_option maxRecDepth 100000
set_option maxHeartbeats 40000000
namespace Go.Proofs.YtjnpndfpajjihadGreat
open Go.Proofs.Tryz
open Go.RowKit
open Value renaming int -> H,slice -> M,string -> A,bool -> Y,agg -> F,tuple -> S
open IntKind renaming i64 -> G
open Option renaming none -> Z,some -> J
open Bool renaming false -> O,true -> I
open Go renaming World -> K,Value -> E
open Obj renaming cells -> T
open Ending renaming returned -> N
open _root_.ByteArray renaming empty -> U
variable{a:Option Addr}{b k off:Nat}{l:List (Int×ByteArray)}{w:World}
theorem sP(w:K)(base:Nat)(Q:TypeId)(v:E)(n c:Nat)(L:List E)(h:w.ownsRow base 99 2 v n L):
  (Builtin.append_ #[46,46] Q #[v,M Z 0 c]).run prog w=.ok v w:=by
 obtain⟨B,A,A1,A2,A0⟩:=Gc fF;rcases h.2 with⟨rfl,rfl⟩|⟨g,cap,A4,rfl,hb,hg,D,A5,A3⟩
 .exact iG w _ _ _ B c underlying46 A
 .simp[Builtin.append_,run_underlying underlying46,sizeOf,typeInfo,A,Builtin.lenOf,Builtin.firstCells,D,storeCells]
theorem uG(w W:K)(base:Nat){m:Array Oper}{rest:List Oper}{o:Oper}{a:Act}{Q:Exit->Act->K->Prop}(i:o.guard=Z)(s x:Operand)
  (r:o.op=.call {callee:=.builtin .append,args:=#[s,x],argTypes:=#[46,46]})
  (v:E) (n:Nat) (d:List E) (y:a.eval s=v) (L:w.ownsRow base 99 2 v n d) (p:Option Addr) (c:Nat) (l:List (Int×ByteArray)) (z:a.eval x=M p l.length c) (hS:SegW w p l)
  (hn:n+l.length<=1000) (R:base<=w.heap.size) (hB:Below base W w)
  (h:∀e X,Hid (X.ownsRow base 99 2 e (n+l.length) (d++cellsC l))->Hid (Below base W X)->wpList prog m Q rest (a.put o.dst e) X):wpList prog m Q (o::rest) a w:=by
 obtain⟨I,A0,A2,A3,D⟩:=Gc fF
 cases p with
 |none=>
  have J:l=[]:=by rcases hS with h|⟨b,off,q,_⟩;exact h;cases q
  subst J;refine Lib.wpList_append_run w i s x _ _ r _ _ y z v w (sP w base o.type v n c d L) (h v w ?_ hB);show w.ownsRow base 99 2 v (n+0) (d++[]);rw[yd];exact L
 |some ad=>
  refine wd w i s x 46 r base 99 I (F #[H G 0,A ⟨#[]⟩]) 2 24 underlying46 A0 A2 A3 D rfl (by decide) v n d y L ad l.length c (cellsC l) z (nG l) ?_ (sG l) (by unfold maxLen;omega) (by omega) R ?_
  .intro j u C;rcases hS with h|⟨b,off,q,A4,hc⟩
   .rw[h]at C;simp[cellsC]at C
   .cases q;rw[qd];exact SegC.news hc j u C
  .intro e X B A1 _;exact h e X B (hB.grown A1 R (λk hk=>(L.lt k hk).1))
def flatC (L:List (Option Addr×Nat×List (Int×ByteArray))):List (Int×ByteArray):=(L.map (·.2.2)).flatten
theorem iP{L:List (Option Addr×Nat×List (Int×ByteArray))}{x:Option Addr×Nat×List (Int×ByteArray)}(h:L[k]?=J x):flatC (L.take (k+1))=flatC (L.take k)++x.2.2:=by
 rw[Oc,h];simp[flatC]
theorem zJ(L:List (Option Addr×Nat×List (Int×ByteArray)))(k:Nat):(flatC (L.take k)).length<=(flatC L).length:=by
 have:flatC L=flatC (L.take k)++flatC (L.drop k):=by rw[flatC,flatC,flatC,<-og,<-Ed,Mf]
 rw[this,Yb];omega
def eL (w:K)(B:Nat)(L:List (Option Addr×Nat×List (Int×ByteArray))):Prop:=
 B<w.heap.size/\∀i x,L[i]?=J x->w.cell? ⟨B,i,Z⟩=J (M x.1 x.2.2.length x.2.1)/\SegW w x.1 x.2.2
theorem eW(n:Nat)(w:K)(hn:n<=1000):
  Calls prog 225 #[M Z 0 0,H .i64 n] w λe X=>∃c,e=N c/\X.ownsRow w.heap.size 99 2 c 0 []/\Below w.heap.size w X:=by
 obtain⟨I,q,p,L,D⟩:=Gc fF;rcases jf n with rfl|hpos
 .go_enter func225,ntmps225;go_wp2;go_ret;exact⟨_,rfl,Kc _ _ _ _,Ub _ _⟩
 .obtain⟨G,C⟩:∃G,G=grownCap w n 0 99:=⟨_,rfl⟩;have A0:n<=G:=by rw[C];exact grownCap_ge w _ _ _
  have d:G<=maxLen:=by rw[C];exact pg w n 0 _ (by unfold maxLen;omega)
  obtain⟨Q,B⟩:∃Q,Q=#[]++Builtin.zeroCells (F #[H .i64 0,A ⟨#[]⟩]:E).cells n++Builtin.zeroCells (F #[H .i64 0,A ⟨#[]⟩]:E).cells (G - n):=⟨_,rfl⟩
  have i:Q.size=G*2:=by
   rw[B,Re,Re,Se,Se];show 0+n*2+(G - n)*2=G*2;omega
  have m:∀R,(Builtin.append_ #[46,3] R #[M Z 0 0,H .i64 (n:Int)]).run prog w=.ok (M (J ⟨w.heap.size,0,Z⟩) n G) (w.drew.alloc (T Q 99)):=λR=>by
   have h:=Lib.run_append_grow_zeros (P:=prog) w 46 3 R 99 I (F #[H .i64 0,A ⟨#[]⟩]) .i64 .i64 underlying46 underlying3 q p Z 0 0 [] (sg w.drew I.size 0 0 0) n hpos (by rw[L];decide) (by omega) (by omega) (by rw[D];omega) (by rw[Dc,D];exact tg (by omega) (by omega));rw[Dc,<-C]at h;rw[h,B]
  have j:Hid ((w.drew.alloc (T Q 99)).ownsRow w.heap.size 99 2 (M (J ⟨w.heap.size,0,Z⟩) 0 G) 0 []):=De w.drew Q G (Sb _) d i;clear C B i;unfold maxLen at d;have h1:¬((n:Int)<0):=by omega
  have h2:(n:Int)>0:=by omega
  go_enter func225,ntmps225;go_wp2_with (at_builtin;refine Lib.wpList_append_run _ rfl _ _ _ _ rfl _ _ rfl rfl _ _ (m _) ?_);go_ret;exact⟨_,rfl,j.o,(Ub _ _).drew.alloc (by simp) _⟩
theorem TM(B m c:Nat)(L:List (Option Addr×Nat×List (Int×ByteArray)))(w:K)(hm:L.length=m)(A1:m<=1000)(h:eL w B L)(hn:(flatC L).length<=1000):
  Calls prog 203 #[M (J ⟨B,0,Z⟩) m c] w λe n=>∃p,e=N p/\n.ownsRow w.heap.size 99 2 p (flatC L).length (cellsC (flatC L))/\Below w.heap.size w n:=by
 subst hm;have y:=zA h;clear h;go_enter func203,ntmps203;go_wp2
 go_loop [3,11] (λs i=>∃k:Nat,k<=L.length/\i=H G k/\s=H G ((flatC (L.take k)).length:Int)) (λ_ i=>L.length - (intOf i).toNat)
 case atStart=>exact⟨0,Vb _,rfl,rfl⟩
 case round=>
  obtain⟨k,l,rfl,rfl⟩:=hrel;have u:=zJ L k;by_cases hlt:k<L.length
  .obtain⟨x,E⟩:∃x,L[k]?=J x:=⟨_,Ic hlt⟩;have Q:=(y.o.2 k x E).1;have F:Hid ((flatC (L.take (k+1))).length=(flatC (L.take k)).length+x.2.2.length):=by rw[Hid,iP E,Yb]
   have A:=zJ L (k+1);rw[F.o]at A;have S:(k:Int)<(L.length:Int):=by omega
   clear E;generalize (flatC (L.take k)).length=q at *;obtain⟨X,j,d⟩:=x;dsimp only at A Q F;go_wp2
   go_round
   case rel=>exact⟨k+1,by omega,by go_num,by rw[F.o];go_num⟩
   case measure=>simp[intOf];omega
  .have e:k=L.length:=by omega
   subst e;rw[Lc];clear u;obtain⟨z,r⟩:∃z,z=(flatC L).length:=⟨_,rfl⟩;rw[<-r]at hn;rw[<-r];have A0:=zA r;clear r;go_wp2_with fail;refine(eW z w hn).mono ?_;rintro e w1 ⟨v1,rfl,I,R⟩;have a:=zA I;have b:=zA R;clear I R;go_wp2
   go_loopw [6,27] (λs i wr=>∃(k:Nat),k<=L.length/\i=H G k/\Hid (wr.ownsRow w.heap.size 99 2 s (flatC (L.take k)).length (cellsC (flatC (L.take k))))/\Hid (Below w.heap.size w wr)) (λ_ i _=>L.length - (intOf i).toNat)
   case atStart=>exact⟨0,Vb _,rfl,a,b⟩
   case round=>
    obtain⟨k,l,rfl,D,C⟩:=hrel;have u:=zJ L k;rw[<-A0.o]at u;by_cases hlt:k<L.length
    .obtain⟨x,E⟩:∃x,L[k]?=J x:=⟨_,Ic hlt⟩;have Q:=xA C.o y.o.1 (y.o.2 k x E).1;have U:Hid (SegW wr x.1 x.2.2):=(y.o.2 k x E).2.below C.o;have F:Hid (flatC (L.take (k+1))=flatC (L.take k)++x.2.2):=iP E;have A:=zJ L (k+1);rw[F.o,Yb,<-A0.o]at A;have S:(k:Int)<(L.length:Int):=by omega
     clear E;generalize flatC (L.take k)=q at *;obtain⟨X,j,d⟩:=x;dsimp only at A Q F U;go_wp2_with (at_builtin;refine uG _ w w.heap.size rfl _ _ rfl _ q.length (cellsC q) rfl D.o X j d rfl U.o (by omega) C.o.size C.o ?_);intro p n O Y;clear D C U Q;go_wp2
     go_roundw
     case rel=>exact⟨k+1,by omega,by go_num,by rw[F.o,Yb,FE];exact O,Y⟩
     case measure=>simp[intOf];omega
    .have e:k=L.length:=by omega
     subst e;rw[Lc]at D;clear u;go_wp2;go_ret;exact⟨_,rfl,D.o,C.o⟩
theorem ZX(a:Option Addr)(c:Nat)(l:List (Int×ByteArray))(b:Int)(w:K)(h:SegW w a l)(hn:l.length<=1000)(hu:Up (·.1) l):
  Calls Tryz.prog 224 #[M a l.length c,H G b,.func (.func 164) #[] #[]] w λe w'=>e=N (S #[H G ((l.countP λx=>decide (x.1<b):Nat):Int),Y (l.any λx=>x.1==b)])/\Below w.heap.size w w':=by
 have HS:=zA h;have q:=zA hu;clear h hu;obtain⟨cnt,B2⟩:∃cnt,cnt=l.countP λx=>decide (x.1<b):=⟨_,rfl⟩;obtain⟨B1,B4⟩:∃B1,B1=l.any λx=>x.1==b:=⟨_,rfl⟩;rw[<-B2,<-B4];have p:=zA B2;have s:=zA B4;have B5:cnt<=l.length:=by rw[B2];exact Nf
 clear B2 B4;go_enter Tryz.func224,Tryz.ntmps224;go_wp2
 go_loopw [9,10] (λi j wr=>∃A7 A:Nat,i=H G A7/\j=H G A/\A7<=cnt/\cnt<=A/\A<=l.length/\Below w.heap.size w wr) (λi j _=>(intOf j).toNat - (intOf i).toNat)
 case atStart=>exact⟨0,l.length,rfl,rfl,Vb _,B5,Sb _,Ub _ _⟩
 case round=>
  obtain⟨A7,A,rfl,rfl,d,k,A1,D⟩:=hrel;by_cases hlt:A7<A
  .obtain⟨m,hm⟩:∃m,m=(A7+A)/2:=⟨_,rfl⟩;have Q:m<l.length:=by omega
   have A6:((A7:Int)+(A:Int))/2=(m:Int):=by omega
   have A4:A7<=m:=by omega
   have A5:m<A:=by omega
   clear hm;obtain⟨b2,A2,rfl,hb,B0⟩:=HS.o.resolve_left (by intro e;rw[e]at Q;simp at Q);obtain⟨x,A9⟩:∃x,x=l.getD m (0,U):=⟨_,rfl⟩;obtain⟨A8,F⟩:=B0 m Q;rw[<-A9]at A8 F;have g1:=xA D hb A8;have g2:=xA D hb F;have r:Hid (l[m]?=J x):=by rw[A9];exact YA _ _ _ Q
   have B:x.1<b↔m<l.countP (λx=>decide (x.1<b)):=kQ q.o b r.o;rw[<-p.o]at B;clear A9 B0 A8 F;obtain⟨n,t⟩:=x;dsimp only at B;have A3:(A7:Int)<(A:Int):=by omega
   have Z:(m:Int)<(l.length:Int):=by omega
   by_cases hk:n<b
   .have u:m<cnt:=B.1 hk;have C:cmpI (n) b= -1:=VL hk;go_wp2_with fail;refine(uK n t b _).mono ?_;rintro e w' ⟨rfl,E⟩;rw[C];have L:=vA D E;clear hk B C E;go_wp2
    go_roundw
    case rel=>exact⟨m+1,A,by go_num,rfl,by omega,k,A1,L⟩
    case measure=>simp[intOf];omega
   .have u:cnt<=m:=by have:=mt B.2 hk;omega
    have C:¬cmpI (n) b<0:=KO hk;go_wp2_with fail;refine(uK n t b _).mono ?_;rintro e w' ⟨rfl,E⟩;have L:=vA D E;generalize cmpI (n) b=z at *;clear hk B E;go_wp2
    go_roundw
    case rel=>exact⟨A7,m,rfl,rfl,d,u,by omega,L⟩
    case measure=>simp[intOf];omega
  .obtain rfl:A7=cnt:=by omega
   obtain rfl:A=A7:=by omega
   clear d k B5;by_cases hlast:A<l.length
   .obtain⟨b2,A2,rfl,hb,B0⟩:=HS.o.resolve_left (by intro e;rw[e]at hlast;simp at hlast);obtain⟨x,A9⟩:∃x,x=l.getD A (0,U):=⟨_,rfl⟩;obtain⟨A8,F⟩:=B0 A hlast;rw[<-A9]at A8 F;have g1:=xA D hb A8;have g2:=xA D hb F;have r:Hid (l[A]?=J x):=by rw[A9];exact YA _ _ _ hlast
    have B3:B1=(x.1==b):=by
     have R:(l.any λx=>x.1==b)=I↔∃x,l[l.countP λx=>decide (x.1<b)]?=J x/\x.1=b:=TF q.o b;rw[s.o,Of,R,<-p.o,r.o];constructor
     .rintro⟨y,e,hy⟩;cases e;simpa using hy
     .intro e;exact⟨x,rfl,by simpa using e⟩
    have X:=zA B3;clear A9 B0 A8 F B3;obtain⟨n,t⟩:=x;dsimp only at X;have Z:(A:Int)<(l.length:Int):=by omega
    have C:=eO (n) b;go_wp2_with fail;refine(uK n t b _).mono ?_;rintro e w' ⟨rfl,E⟩;have L:=vA D E;have A0:=zA C;generalize cmpI (n) b=z at *;clear C E;go_wp2
    go_ret2
    exact⟨by rw[X.o,<-A0.o];rfl,L⟩
   .have B3:B1=O:=by
     have R:(l.any λx=>x.1==b)=I↔∃x,l[l.countP λx=>decide (x.1<b)]?=J x/\x.1=b:=TF q.o b;rw[s.o,<-Bool.not_eq_true,R,<-p.o,cd (by omega)];rintro⟨y,e,_⟩;cases e
    have Z:¬(A:Int)<(l.length:Int):=by omega
    subst B3;go_wp2
    go_ret2
    exact⟨rfl,D⟩
open Go.Proofs.Tryz
theorem VI(h:SegW w a l)(k:Nat)(hk:k<=l.length):SegW w a (l.take k):=by
 rcases h with h|⟨b,off,rfl,B,D⟩
 .exact .inl (by rw[h];simp)
 .refine .inr ⟨b,off,rfl,B,λi L=>?_⟩;have A:i<k:=by simp at L;omega
  have e:(l.take k).getD i (0,U)=l.getD i (0,U):=by rw[List.getD,List.getD,be A]
  rw[e];exact D i (by omega)
theorem gN(h:SegW w (J ⟨b,off,Z⟩) l)(k:Nat):SegW w (J ⟨b,off+k*2,Z⟩) (l.drop k):=by
 rcases h with h|⟨b',A0,e,B,D⟩
 .exact .inl (by rw[h];simp)
 .cases e;refine .inr ⟨b,off+k*2,rfl,B,λi L=>?_⟩;have e:(l.drop k).getD i (0,U)=l.getD (k+i) (0,U):=by rw[List.getD,List.getD,ze]
  rw[e];have:=D (k+i) (by simp at L;omega);refine⟨?_,?_⟩
  .rw[show off+k*2+i*2=off+(k+i)*2 from by omega];exact this.1
  .rw[show off+k*2+i*2+1=off+(k+i)*2+1 from by omega];exact this.2
def TC (l:List (Int×ByteArray))(b:Int):List (Int×ByteArray):=l.filter λx=>decide (x.1<b)
def BC (l:List (Int×ByteArray))(b:Int):List (Int×ByteArray):=l.filter λx=>decide (b<x.1)
theorem yQ(base:Nat)(v:E)(l:List (Int×ByteArray))(b:Int)(w:K)(m:w.ownsRow base 99 2 v l.length (cellsC l))(hn:l.length<=1000)(q:Up (·.1) l):
  Calls prog 202 #[v,H G b,.func (.func 164) #[] #[]] w λe w'=>∃a1 c1 a2 c2,e=N (S #[M a1 (TC l b).length c1,M a2 (BC l b).length c2])/\SegW w' a1 (TC l b)/\SegW w' a2 (BC l b)/\Below w.heap.size w w':=by
 have u:l.take (l.countP λx=>decide (x.1<b))=TC l b/\l.drop (l.countP λx=>decide (x.1<b))=l.filter (λx=>decide (b<=x.1)):=FL q b;have F:(l.any λx=>x.1==b)=I↔∃x,l[l.countP λx=>decide (x.1<b)]?=J x/\x.1=b:=TF q b;obtain⟨j,c0,y,s,_⟩:=SegC.of_owns m;have A:=ZX j c0 l b w s hn q;rw[<-y]at A;obtain⟨cnt,D⟩:∃cnt,cnt=l.countP λx=>decide (x.1<b):=⟨_,rfl⟩;have h:cnt<=l.length:=by rw[D];exact Nf
 rw[<-D]at u F A;have Y:(TC l b).length=cnt:=by rw[<-u.1,Nc];omega
 have U:=zA u.1;have X:=zA Y
 cases hf:l.any λx=>x.1==b with
 |true=>
  obtain⟨x,Q,a⟩:=F.1 hf;have A0:cnt<l.length:=(gd.1 Q).1
  have n:l.drop (cnt+1)=BC l b:=by
   rw[D]at Q|-;exact lP q b x Q a
  have z:(BC l b).length=l.length - (cnt+1):=by rw[<-n,Uc]
  have R:=zA n;have r:=zA z;rw[hf]at A;clear Q a hf F u D n z Y;rcases m.2 with⟨rfl,h0⟩|⟨g,cap,A3,rfl,hb,hg,A1,p,_⟩
  .omega
  .unfold maxLen at p;simp only[Value.slice.injEq]at y;obtain⟨rfl,_,rfl⟩:=y;have O:=zA s;have c:(cnt:Int)<(l.length:Int):=by omega
   have A2:(l.length:Int)<=(cap:Int):=by omega
   clear m s hg;by_cases hz:cap=cnt+1
   .subst hz;have L:Hid (l.length<=cnt+1):=by unfold Hid;omega
    clear A1 A2;have A2:(l.length:Int)<=(cnt:Int)+1:=by have:=L.o;omega
    go_enter func202,ntmps202;go_wp2_with fail;refine A.mono ?_;rintro e Z ⟨rfl,B⟩;have C:=zA B;clear A B;go_wp2
    go_quiet (fail)
    go_wp2
    go_ret2
    refine⟨_,_,_,_,by rw[X.o,r.o];rfl,?_,?_,Qc C.o _⟩
    .rw[<-U.o];exact(VI O.o cnt (by omega)).below (Qc C.o _)
    .refine .inl ?_;rw[<-R.o];exact Gd L.o
   .have i:¬(cap - (cnt+1)=0):=by omega
    go_enter func202,ntmps202;go_wp2_with fail;refine A.mono ?_;rintro e Z ⟨rfl,B⟩;have C:=zA B;clear A B;go_wp2
    go_quiet (fail)
    go_wp2
    go_ret2
    refine⟨_,_,_,_,by rw[X.o,r.o];rfl,?_,?_,Qc C.o _⟩
    .rw[<-U.o];exact(VI O.o cnt (by omega)).below (Qc C.o _)
    .rw[<-R.o];have hd:=gN O.o (cnt+1);rw[Dc]at hd;exact hd.below (Qc C.o _)
 |false=>
  have n:l.drop cnt=BC l b:=by
   rw[u.2];refine aP q b λx Q hk=>?_;rw[D]at F;rw[F.2 ⟨x,Q,hk⟩]at hf;cases hf
  have z:(BC l b).length=l.length - cnt:=by rw[<-n,Uc]
  have R:=zA n;have r:=zA z;rw[hf]at A;clear hf F u D n z Y;rcases m.2 with⟨rfl,h0⟩|⟨g,cap,A3,rfl,hb,hg,A1,p,_⟩
  .have d:l=[]:=Tc h0;subst d;obtain rfl:cnt=0:=by simpa using h
   clear m s y;go_enter func202,ntmps202;go_wp2_with fail;refine A.mono ?_;rintro e Z ⟨rfl,B⟩;have C:=zA B;clear A B;go_wp2
   go_quiet (fail)
   go_wp2
   go_ret2
   refine⟨_,_,_,_,by rw[X.o,r.o];rfl,.inl ?_,.inl ?_,Qc C.o _⟩
   .rw[<-U.o];rfl
   .rw[<-R.o];rfl
  .unfold maxLen at p;simp only[Value.slice.injEq]at y;obtain⟨rfl,_,rfl⟩:=y;have O:=zA s;have c:(cnt:Int)<=(l.length:Int):=by omega
   have A2:(l.length:Int)<=(cap:Int):=by omega
   clear m s hg;by_cases hz:cap=cnt
   .subst hz;have L:Hid (l.length<=cap):=by unfold Hid;omega
    go_enter func202,ntmps202;go_wp2_with fail;refine A.mono ?_;rintro e Z ⟨rfl,B⟩;have C:=zA B;clear A B;go_wp2
    go_quiet (fail)
    go_wp2
    go_ret2
    refine⟨_,_,_,_,by rw[X.o,r.o,show l.length - cap=0 from by have:=L.o;omega];rfl,?_,?_,Qc C.o _⟩
    .rw[<-U.o];exact(VI O.o cap (by omega)).below (Qc C.o _)
    .refine .inl ?_;rw[<-R.o];exact Gd L.o
   .have i:¬(cap - cnt=0):=by omega
    go_enter func202,ntmps202;go_wp2_with fail;refine A.mono ?_;rintro e Z ⟨rfl,B⟩;have C:=zA B;clear A B;go_wp2
    go_quiet (fail)
    go_wp2
    go_ret2
    refine⟨_,_,_,_,by rw[X.o,r.o];rfl,?_,?_,Qc C.o _⟩
    .rw[<-U.o];exact(VI O.o cnt (by omega)).below (Qc C.o _)
    .rw[<-R.o];have hd:=gN O.o cnt;rw[Dc]at hd;exact hd.below (Qc C.o _)
theorem YM(l:List (Int×ByteArray))(b:Int):(TC l b).length<=l.length:=Pd _ _
theorem JQ(l:List (Int×ByteArray))(b:Int):(BC l b).length<=l.length:=Pd _ _
theorem sN(base:Nat)(v:E)(l:List (Int×ByteArray))(b:Int)(s:ByteArray)(w:K)(m:w.ownsRow base 99 2 v l.length (cellsC l))(hn:l.length<=100)(y:Up (·.1) l):
  Calls prog 163 #[v,H G b,.func (.func 164) #[] #[],F #[H G b,A s]] w λe h=>∃r,e=N r/\h.ownsRow w.heap.size 99 2 r (putAt (·.1) l b (b,s)).length (cellsC (putAt (·.1) l b (b,s)))/\Below w.heap.size w h:=by
 have Y:=zA m;clear m;go_enter func163,ntmps163;go_wp2_with fail;refine(yQ base v l b _ (dA Y.o (qA _ _)) (by omega) y).mono ?_;rintro e d ⟨p,c1,q,c2,rfl,D,I,C⟩;have A4:=zA D;have O:=zA I;have D:w.heap.size<d.heap.size:=by have:=C.size;simp at this;omega
 have y0:=xA C (b:=w.heap.size) (o:=0) (v:=H G b) (by simp) (by simp[go_sem]);have y1:=xA C (b:=w.heap.size) (o:=1) (v:=A s) (by simp) (by simp[go_sem]);have Q:=zA (vA (qA _ _) C);have q1:=YM l b;have q2:=JQ l b;have A0:=Q.o.size;clear D I C
 have A1:Hid (∀h,Below d.heap.size d h->h.cell? ⟨d.heap.size+1,0,Z⟩=J (M p (TC l b).length c1)->h.cell? ⟨d.heap.size+1,1,Z⟩=J (M (J ⟨d.heap.size,0,Z⟩) 1 1)->h.cell? ⟨d.heap.size+1,2,Z⟩=J (M q (BC l b).length c2)->SegW h (J ⟨d.heap.size,0,Z⟩) [(b,s)]->d.heap.size+1<h.heap.size->eL h (d.heap.size+1) [(p,c1,TC l b),(J ⟨d.heap.size,0,Z⟩,1,[(b,s)]),(q,c2,BC l b)]):=by
  intro h hb U c X A3 L;refine⟨L,λi x j=>?_⟩
  match i,j with
  |0,j=>cases j;exact⟨U,A4.o.below hb⟩
  |1,j=>cases j;exact⟨c,A3⟩
  |2,j=>cases j;exact⟨X,O.o.below hb⟩
  |n+3,j=>simp at j
 have a:Hid (flatC [(p,c1,TC l b),(J ⟨d.heap.size,0,Z⟩,1,[(b,s)]),(q,c2,BC l b)]=putAt (·.1) l b (b,s)):=by simp[Hid,flatC,TC,BC,putAt]
 go_wp2_with fail;refine(TM (d.heap.size+1) 3 3 [(p,c1,TC l b),(J ⟨d.heap.size,0,Z⟩,1,[(b,s)]),(q,c2,BC l b)] _ rfl (by omega) (A1.o _ (vA (qA _ _) (qA _ _)) (by simp[go_sem]) (by simp[go_sem]) (by simp[go_sem]) (.inr ⟨d.heap.size,0,rfl,by simp;omega,λi z=>?_⟩) (by simp)) (by simp[flatC];omega)).mono ?_
 .have:i=0:=by simpa using z
  subst this;exact⟨by simp[go_sem],by simp[go_sem]⟩
 .rintro e w2 ⟨v2,rfl,B,u⟩;rw[a.o]at B;have R:=zA B;have S:=vA (vA (qA _ _) (qA _ _)) u;have A2:=zA (vA Q.o S);clear B u;go_wp2;go_ret;refine⟨_,rfl,qB R.o ?_,A2.o⟩;simp;omega
theorem bO(base:Nat)(v:E)(l:List (Int×ByteArray))(b:Int)(w:K)(h:w.ownsRow base 99 2 v l.length (cellsC l))(hn:l.length<=100)(q:Up (·.1) l):
  Calls prog 169 #[v,H G b,.func (.func 164) #[] #[]] w λe c=>∃j,e=N j/\c.ownsRow w.heap.size 99 2 j (dropAt (·.1) l b).length (cellsC (dropAt (·.1) l b))/\Below w.heap.size w c:=by
 have U:=zA h;clear h;go_enter func169,ntmps169;go_wp2_with fail;refine(yQ base v l b _ U.o (by omega) q).mono ?_;rintro e B ⟨C,c1,D,c2,rfl,p,F,m⟩;have r:=zA p;have u:=zA F;have O:=zA m;have q1:=YM l b;have q2:=JQ l b;have A0:=O.o.size;clear p F m
 have X:Hid (∀c,Below B.heap.size B c->c.cell? ⟨B.heap.size,0,Z⟩=J (M C (TC l b).length c1)->c.cell? ⟨B.heap.size,1,Z⟩=J (M D (BC l b).length c2)->B.heap.size<c.heap.size->eL c B.heap.size [(C,c1,TC l b),(D,c2,BC l b)]):=by
  intro c hb S R s;refine⟨s,λi x d=>?_⟩
  match i,d with
  |0,d=>cases d;exact⟨S,r.o.below hb⟩
  |1,d=>cases d;exact⟨R,u.o.below hb⟩
  |n+2,d=>simp at d
 have Y:Hid (flatC [(C,c1,TC l b),(D,c2,BC l b)]=dropAt (·.1) l b):=by simp[Hid,flatC,TC,BC,dropAt]
 go_wp2_with fail;refine(TM B.heap.size 2 2 [(C,c1,TC l b),(D,c2,BC l b)] _ rfl (by omega) (X.o _ (qA _ _) (by simp[go_sem]) (by simp[go_sem]) (by simp)) (by simp[flatC];omega)).mono ?_;rintro e w2 ⟨v2,rfl,A,I⟩;rw[Y.o]at A;have Q:=zA A;have L:=zA (vA O.o (vA (qA _ _) I));clear A I;go_wp2;go_ret;refine⟨_,rfl,qB Q.o ?_,L.o⟩;simp;omega
theorem cV(a:Option Addr)(c:Nat)(l:List Int)(b:Int)(w:K)(h:SegI w a l)(hn:l.length<=1000)(hu:Up id l):
  Calls Tryz.prog 226 #[M a l.length c,H G b,.func (.func 166) #[] #[]] w λe w'=>e=N (S #[H G ((l.countP λx=>decide (x<b):Nat):Int),Y (l.any λx=>x==b)])/\Below w.heap.size w w':=by
 have HS:=zA h;have k:=zA hu;clear h hu;obtain⟨cnt,A8⟩:∃cnt,cnt=l.countP λx=>decide (x<b):=⟨_,rfl⟩;obtain⟨B0,L⟩:∃B0,B0=l.any λx=>x==b:=⟨_,rfl⟩;rw[<-A8,<-L];have d:=zA A8;have q:=zA L;have U:cnt<=l.length:=by rw[A8];exact Nf
 clear A8 L;go_enter Tryz.func226,Tryz.ntmps226;go_wp2
 go_loopw [9,10] (λi j wr=>∃E A:Nat,i=H G E/\j=H G A/\E<=cnt/\cnt<=A/\A<=l.length/\Below w.heap.size w wr) (λi j _=>(intOf j).toNat - (intOf i).toNat)
 case atStart=>exact⟨0,l.length,rfl,rfl,Vb _,U,Sb _,Ub _ _⟩
 case round=>
  obtain⟨E,A,rfl,rfl,B2,Z,u,A6⟩:=hrel;by_cases hlt:E<A
  .obtain⟨m,hm⟩:∃m,m=(E+A)/2:=⟨_,rfl⟩;have A9:m<l.length:=by omega
   have A4:((E:Int)+(A:Int))/2=(m:Int):=by omega
   have A2:E<=m:=by omega
   have A3:m<A:=by omega
   clear hm;obtain⟨b2,A0,rfl,hb,R⟩:=HS.o.resolve_left (by intro e;rw[e]at A9;simp at A9);obtain⟨x,A5⟩:∃x,x=l.getD m 0:=⟨_,rfl⟩;have F:=R m A9;rw[<-A5]at F;have g1:=xA A6 hb F;have n:Hid (l[m]?=J x):=by rw[A5];exact YA _ _ _ A9
   have D:x<b↔m<l.countP (λx=>decide (x<b)):=kQ k.o b n.o;rw[<-d.o]at D;clear A5 R F;have A1:(E:Int)<(A:Int):=by omega
   have X:(m:Int)<(l.length:Int):=by omega
   by_cases hk:x<b
   .have r:m<cnt:=D.1 hk;have B:cmpI (x) b= -1:=VL hk;go_wp2_with fail;refine(lK x b _).mono ?_;rintro e w' ⟨rfl,C⟩;rw[B];have A7:=vA A6 C;clear hk D B C;go_wp2
    go_roundw
    case rel=>exact⟨m+1,A,by go_num,rfl,by omega,Z,u,A7⟩
    case measure=>simp[intOf];omega
   .have r:cnt<=m:=by have:=mt D.2 hk;omega
    have B:¬cmpI (x) b<0:=KO hk;go_wp2_with fail;refine(lK x b _).mono ?_;rintro e w' ⟨rfl,C⟩;have A7:=vA A6 C;generalize cmpI (x) b=z at *;clear hk D C;go_wp2
    go_roundw
    case rel=>exact⟨E,m,rfl,rfl,B2,r,by omega,A7⟩
    case measure=>simp[intOf];omega
  .obtain rfl:E=cnt:=by omega
   obtain rfl:A=E:=by omega
   clear B2 Z U;by_cases hlast:A<l.length
   .obtain⟨b2,A0,rfl,hb,R⟩:=HS.o.resolve_left (by intro e;rw[e]at hlast;simp at hlast);obtain⟨x,A5⟩:∃x,x=l.getD A 0:=⟨_,rfl⟩;have F:=R A hlast;rw[<-A5]at F;have g1:=xA A6 hb F;have n:Hid (l[A]?=J x):=by rw[A5];exact YA _ _ _ hlast
    have B1:B0=(x==b):=by
     have Q:(l.any λx=>x==b)=I↔∃x,l[l.countP λx=>decide (x<b)]?=J x/\x=b:=TF k.o b;rw[q.o,Of,Q,<-d.o,n.o];constructor
     .rintro⟨y,e,hy⟩;cases e;simpa using hy
     .intro e;exact⟨x,rfl,by simpa using e⟩
    have p:=zA B1;clear A5 R F B1;have X:(A:Int)<(l.length:Int):=by omega
    have B:=eO (x) b;go_wp2_with fail;refine(lK x b _).mono ?_;rintro e w' ⟨rfl,C⟩;have A7:=vA A6 C;have s:=zA B;generalize cmpI (x) b=z at *;clear B C;go_wp2
    go_ret2
    exact⟨by rw[p.o,<-s.o];rfl,A7⟩
   .have B1:B0=O:=by
     have Q:(l.any λx=>x==b)=I↔∃x,l[l.countP λx=>decide (x<b)]?=J x/\x=b:=TF k.o b;rw[q.o,<-Bool.not_eq_true,Q,<-d.o,cd (by omega)];rintro⟨y,e,_⟩;cases e
    have X:¬(A:Int)<(l.length:Int):=by omega
    subst B1;go_wp2
    go_ret2
    exact⟨rfl,A6⟩
open Go.Proofs.Tryz
theorem kJ{l:List Int}(h:SegI w a l)(k:Nat)(hk:k<=l.length):SegI w a (l.take k):=by
 rcases h with h|⟨b,off,rfl,B,D⟩
 .exact .inl (by rw[h];simp)
 .refine .inr ⟨b,off,rfl,B,λi L=>?_⟩;have A:i<k:=by simp at L;omega
  have e:(l.take k).getD i 0=l.getD i 0:=by rw[List.getD,List.getD,be A]
  rw[e];exact D i (by omega)
theorem aQ{l:List Int}(h:SegI w (J ⟨b,off,Z⟩) l)(k:Nat):SegI w (J ⟨b,off+k*1,Z⟩) (l.drop k):=by
 rcases h with h|⟨b',A0,e,B,D⟩
 .exact .inl (by rw[h];simp)
 .cases e;refine .inr ⟨b,off+k*1,rfl,B,λi L=>?_⟩;have e:(l.drop k).getD i 0=l.getD (k+i) 0:=by rw[List.getD,List.getD,ze]
  rw[e];have:=D (k+i) (by simp at L;omega);rw[show off+k*1+i=off+(k+i) from by omega];exact this
def PC (l:List Int)(b:Int):List Int:=l.filter λx=>decide (x<b)
def AC (l:List Int)(b:Int):List Int:=l.filter λx=>decide (b<x)
theorem wP(base:Nat)(v:E)(l:List Int)(b:Int)(w:K)(m:w.ownsRow base 3 1 v l.length (cellsI l))(hn:l.length<=1000)(q:Up id l):
  Calls prog 204 #[v,H G b,.func (.func 166) #[] #[]] w λe w'=>∃a1 c1 a2 c2,e=N (S #[M a1 (PC l b).length c1,M a2 (AC l b).length c2])/\SegI w' a1 (PC l b)/\SegI w' a2 (AC l b)/\Below w.heap.size w w':=by
 have u:l.take (l.countP λx=>decide (x<b))=PC l b/\l.drop (l.countP λx=>decide (x<b))=l.filter (λx=>decide (b<=x)):=FL q b;have F:(l.any λx=>x==b)=I↔∃x,l[l.countP λx=>decide (x<b)]?=J x/\x=b:=TF q b;obtain⟨j,c0,y,s,_⟩:=SegI.of_owns m;have A:=cV j c0 l b w s hn q;rw[<-y]at A;obtain⟨cnt,D⟩:∃cnt,cnt=l.countP λx=>decide (x<b):=⟨_,rfl⟩;have h:cnt<=l.length:=by rw[D];exact Nf
 rw[<-D]at u F A;have Y:(PC l b).length=cnt:=by rw[<-u.1,Nc];omega
 have U:=zA u.1;have X:=zA Y
 cases hf:l.any λx=>x==b with
 |true=>
  obtain⟨x,Q,a⟩:=F.1 hf;have A0:cnt<l.length:=(gd.1 Q).1
  have n:l.drop (cnt+1)=AC l b:=by
   rw[D]at Q|-;exact lP q b x Q a
  have z:(AC l b).length=l.length - (cnt+1):=by rw[<-n,Uc]
  have R:=zA n;have r:=zA z;rw[hf]at A;clear Q a hf F u D n z Y;rcases m.2 with⟨rfl,h0⟩|⟨g,cap,A3,rfl,hb,hg,A1,p,_⟩
  .omega
  .unfold maxLen at p;simp only[Value.slice.injEq]at y;obtain⟨rfl,_,rfl⟩:=y;have O:=zA s;have c:(cnt:Int)<(l.length:Int):=by omega
   have A2:(l.length:Int)<=(cap:Int):=by omega
   clear m s hg;by_cases hz:cap=cnt+1
   .subst hz;have L:Hid (l.length<=cnt+1):=by unfold Hid;omega
    clear A1 A2;have A2:(l.length:Int)<=(cnt:Int)+1:=by have:=L.o;omega
    go_enter func204,ntmps204;go_wp2_with fail;refine A.mono ?_;rintro e Z ⟨rfl,B⟩;have C:=zA B;clear A B;go_wp2
    go_quiet (fail)
    go_wp2
    go_ret2
    refine⟨_,_,_,_,by rw[X.o,r.o];rfl,?_,?_,Qc C.o _⟩
    .rw[<-U.o];exact(kJ O.o cnt (by omega)).below (Qc C.o _)
    .refine .inl ?_;rw[<-R.o];exact Gd L.o
   .have i:¬(cap - (cnt+1)=0):=by omega
    go_enter func204,ntmps204;go_wp2_with fail;refine A.mono ?_;rintro e Z ⟨rfl,B⟩;have C:=zA B;clear A B;go_wp2
    go_quiet (fail)
    go_wp2
    go_ret2
    refine⟨_,_,_,_,by rw[X.o,r.o];rfl,?_,?_,Qc C.o _⟩
    .rw[<-U.o];exact(kJ O.o cnt (by omega)).below (Qc C.o _)
    .rw[<-R.o];have hd:=aQ O.o (cnt+1);rw[Dc,Pf]at hd;exact hd.below (Qc C.o _)
 |false=>
  have n:l.drop cnt=AC l b:=by
   rw[u.2];refine aP q b λx Q hk=>?_;rw[D]at F;rw[F.2 ⟨x,Q,hk⟩]at hf;cases hf
  have z:(AC l b).length=l.length - cnt:=by rw[<-n,Uc]
  have R:=zA n;have r:=zA z;rw[hf]at A;clear hf F u D n z Y;rcases m.2 with⟨rfl,h0⟩|⟨g,cap,A3,rfl,hb,hg,A1,p,_⟩
  .have d:l=[]:=Tc h0;subst d;obtain rfl:cnt=0:=by simpa using h
   clear m s y;go_enter func204,ntmps204;go_wp2_with fail;refine A.mono ?_;rintro e Z ⟨rfl,B⟩;have C:=zA B;clear A B;go_wp2
   go_quiet (fail)
   go_wp2
   go_ret2
   refine⟨_,_,_,_,by rw[X.o,r.o];rfl,.inl ?_,.inl ?_,Qc C.o _⟩
   .rw[<-U.o];rfl
   .rw[<-R.o];rfl
  .unfold maxLen at p;simp only[Value.slice.injEq]at y;obtain⟨rfl,_,rfl⟩:=y;have O:=zA s;have c:(cnt:Int)<=(l.length:Int):=by omega
   have A2:(l.length:Int)<=(cap:Int):=by omega
   clear m s hg;by_cases hz:cap=cnt
   .subst hz;have L:Hid (l.length<=cap):=by unfold Hid;omega
    go_enter func204,ntmps204;go_wp2_with fail;refine A.mono ?_;rintro e Z ⟨rfl,B⟩;have C:=zA B;clear A B;go_wp2
    go_quiet (fail)
    go_wp2
    go_ret2
    refine⟨_,_,_,_,by rw[X.o,r.o,show l.length - cap=0 from by have:=L.o;omega];rfl,?_,?_,Qc C.o _⟩
    .rw[<-U.o];exact(kJ O.o cap (by omega)).below (Qc C.o _)
    .refine .inl ?_;rw[<-R.o];exact Gd L.o
   .have i:¬(cap - cnt=0):=by omega
    go_enter func204,ntmps204;go_wp2_with fail;refine A.mono ?_;rintro e Z ⟨rfl,B⟩;have C:=zA B;clear A B;go_wp2
    go_quiet (fail)
    go_wp2
    go_ret2
    refine⟨_,_,_,_,by rw[X.o,r.o];rfl,?_,?_,Qc C.o _⟩
    .rw[<-U.o];exact(kJ O.o cnt (by omega)).below (Qc C.o _)
    .rw[<-R.o];have hd:=aQ O.o cnt;rw[Dc,Pf]at hd;exact hd.below (Qc C.o _)
theorem iN(l:List Int)(b:Int):(PC l b).length<=l.length:=Pd _ _
theorem rO(l:List Int)(b:Int):(AC l b).length<=l.length:=Pd _ _
theorem VR(base:Nat)(v:E)(l:List Int)(b:Int)(w:K)(j:w.ownsRow base 3 1 v l.length (cellsI l))(hn:l.length<=100)(r:Up id l):
  Calls prog 170 #[v,H G b,.func (.func 166) #[] #[],H G b] w λe d=>∃m,e=N m/\d.ownsRow w.heap.size 3 1 m (putAt id l b b).length (cellsI (putAt id l b b))/\Below w.heap.size w d:=by
 have Y:=zA j;clear j;go_enter func170,ntmps170;go_wp2_with fail;refine(wP base v l b _ Y.o (by omega) r).mono ?_;rintro e A ⟨C,c1,D,c2,rfl,q,F,p⟩;have A1:=zA q;have O:=zA F;have Q:=zA p;have q1:=iN l b;have q2:=rO l b;have A0:=Q.o.size;clear q F p
 have u:Hid (∀d,Below A.heap.size A d->d.cell? ⟨A.heap.size+1,0,Z⟩=J (M C (PC l b).length c1)->d.cell? ⟨A.heap.size+1,1,Z⟩=J (M (J ⟨A.heap.size,0,Z⟩) 1 1)->d.cell? ⟨A.heap.size+1,2,Z⟩=J (M D (AC l b).length c2)->SegI d (J ⟨A.heap.size,0,Z⟩) [b]->A.heap.size+1<d.heap.size->jH d (A.heap.size+1) [(C,c1,PC l b),(J ⟨A.heap.size,0,Z⟩,1,[b]),(D,c2,AC l b)]):=by
  intro d hb U c X z L;refine⟨L,λi x h=>?_⟩
  match i,h with
  |0,h=>cases h;exact⟨U,A1.o.below hb⟩
  |1,h=>cases h;exact⟨c,z⟩
  |2,h=>cases h;exact⟨X,O.o.below hb⟩
  |n+3,h=>simp at h
 have a:Hid (flatI [(C,c1,PC l b),(J ⟨A.heap.size,0,Z⟩,1,[b]),(D,c2,AC l b)]=putAt id l b b):=by simp[Hid,flatI,PC,AC,putAt]
 go_wp2_with fail;refine(zM (A.heap.size+1) 3 3 [(C,c1,PC l b),(J ⟨A.heap.size,0,Z⟩,1,[b]),(D,c2,AC l b)] _ rfl (by omega) (u.o _ (vA (qA _ _) (qA _ _)) (by simp[go_sem]) (by simp[go_sem]) (by simp[go_sem]) (.inr ⟨A.heap.size,0,rfl,by simp;omega,λi s=>?_⟩) (by simp)) (by simp[flatI];omega)).mono ?_
 .have:i=0:=by simpa using s
  subst this;simp[go_sem]
 .rintro e w2 ⟨v2,rfl,B,I⟩;rw[a.o]at B;have R:=zA B;have S:=vA (vA (qA _ _) (qA _ _)) I;have y:=zA (vA Q.o S);clear B I;go_wp2;go_ret;refine⟨_,rfl,qB R.o ?_,y.o⟩;simp;omega
theorem iV(base:Nat)(v:E)(l:List Int)(b:Int)(w:K)(h:w.ownsRow base 3 1 v l.length (cellsI l))(hn:l.length<=100)(q:Up id l):
  Calls prog 165 #[v,H G b,.func (.func 166) #[] #[]] w λe c=>∃j,e=N j/\c.ownsRow w.heap.size 3 1 j (dropAt id l b).length (cellsI (dropAt id l b))/\Below w.heap.size w c:=by
 have U:=zA h;clear h;go_enter func165,ntmps165;go_wp2_with fail;refine(wP base v l b _ U.o (by omega) q).mono ?_;rintro e B ⟨C,c1,D,c2,rfl,p,F,m⟩;have r:=zA p;have u:=zA F;have O:=zA m;have q1:=iN l b;have q2:=rO l b;have A0:=O.o.size;clear p F m
 have X:Hid (∀c,Below B.heap.size B c->c.cell? ⟨B.heap.size,0,Z⟩=J (M C (PC l b).length c1)->c.cell? ⟨B.heap.size,1,Z⟩=J (M D (AC l b).length c2)->B.heap.size<c.heap.size->jH c B.heap.size [(C,c1,PC l b),(D,c2,AC l b)]):=by
  intro c hb S R s;refine⟨s,λi x d=>?_⟩
  match i,d with
  |0,d=>cases d;exact⟨S,r.o.below hb⟩
  |1,d=>cases d;exact⟨R,u.o.below hb⟩
  |n+2,d=>simp at d
 have Y:Hid (flatI [(C,c1,PC l b),(D,c2,AC l b)]=dropAt id l b):=by simp[Hid,flatI,PC,AC,dropAt]
 go_wp2_with fail;refine(zM B.heap.size 2 2 [(C,c1,PC l b),(D,c2,AC l b)] _ rfl (by omega) (X.o _ (qA _ _) (by simp[go_sem]) (by simp[go_sem]) (by simp)) (by simp[flatI];omega)).mono ?_;rintro e w2 ⟨v2,rfl,A,I⟩;rw[Y.o]at A;have Q:=zA A;have L:=zA (vA O.o (vA (qA _ _) I));clear A I;go_wp2;go_ret;refine⟨_,rfl,qB Q.o ?_,L.o⟩;simp;omega
theorem xF(b:Int)(w:K):
  Calls prog 39 #[H G b] w λe B=>e=N (Y (sA b 0 11))/\w=B:=by
 by_cases h0:0<=b<;>by_cases h1:b<12
 all_goals
  have A:decide (b<=11)=decide (b<12):=by by_cases h:b<12<;>simp[h]<;>omega
  go_enter func39,ntmps39;go_wp2;go_ret;exact⟨by simp[sA,A,h0,h1],rfl⟩
theorem CR{x:Int×ByteArray}(h:l[k]?=J x)(b:Int):(l.take (k+1)).filter (λy=>decide (y.1≠b))=(l.take k).filter (λy=>decide (y.1≠b))++(if x.1=b then[] else[x]):=by
 rw[Oc,h,Qf];by_cases e:x.1=b<;>simp[e]
theorem LJ(a:Option Addr)(c:Nat)(l:List (Int×ByteArray))(b:Int)(w:K)(h:SegW w a l)(hn:l.length<=500):
  Calls prog 82 #[M a l.length c,H G b] w λe d=>∃j,e=N j/\d.ownsRow w.heap.size 99 2 j (l.filter (λy=>decide (y.1≠b))).length (cellsC (l.filter (λy=>decide (y.1≠b))))/\Below w.heap.size w d:=by
 have u:=zA h;clear h;go_enter func82,ntmps82;go_wp2
 go_loopw [5,10] (λs i wr=>∃k:Nat,k<=l.length/\i=H G k/\Hid (wr.ownsRow w.heap.size 99 2 s ((l.take k).filter (λy=>decide (y.1≠b))).length (cellsC ((l.take k).filter (λy=>decide (y.1≠b)))))/\Hid (Below w.heap.size w wr)) (λ_ i _=>l.length - (intOf i).toNat)
 case atStart=>exact⟨0,Vb _,rfl,Kc _ _ _ _,Ub _ _⟩
 case round=>
  obtain⟨k,hk,rfl,X,B⟩:=hrel;by_cases hlt:k<l.length
  .obtain⟨b2,A1,rfl,hb,L⟩:=u.o.resolve_left (by intro e;rw[e]at hlt;simp at hlt);obtain⟨x,m⟩:∃x,x=l.getD k (0,U):=⟨_,rfl⟩;obtain⟨E,C⟩:=L k hlt;rw[<-m]at E C;have R:Hid (l[k]?=J x):=by rw[m];exact YA _ _ _ hlt
   have r:=xA B.o hb E;have Q:=xA B.o hb C;clear m L E C;obtain⟨n,s⟩:=x;have A0:(k:Int)<(l.length:Int):=by omega
   have I:=zA (CR R.o b);have hq:((l.take k).filter (λy=>decide (y.1≠b))).length<=500:=ac (Pd _ _) (by rw[Nc];omega);generalize (l.take k).filter (λy=>decide (y.1≠b))=q at *;by_cases he:n=b
   .have D:Hid ((l.take (k+1)).filter (λy=>decide (y.1≠b))=q):=by rw[Hid,I.o,Rb he,yd]
    subst he;have A3:Hid ((wr.alloc (T #[H G n,A s] 99)).ownsRow w.heap.size 99 2 _ q.length (cellsC q)):=dA X.o (qA _ _);have S:=zA (vA B.o (qA wr (T #[H G n,A s] 99)));clear I X;go_wp2
    go_roundw
    case rel=>exact⟨k+1,by omega,by go_num,by rw[D.o];exact A3,S⟩
    case measure=>simp[intOf];omega
   .have A2:(n==b)=O:=by simpa using he
    have D:Hid ((l.take (k+1)).filter (λy=>decide (y.1≠b))=q++[(n,s)]):=by rw[Hid,I.o,Qb he]
    clear I;go_wp2_with (at_builtin;refine uG _ w w.heap.size rfl _ _ rfl _ q.length (cellsC q) rfl (dA X.o (vA (qA _ _) (qA _ _))) (J ⟨wr.heap.size+1,0,Z⟩) 1 [(n,s)] rfl (.inr ⟨wr.heap.size+1,0,rfl,by simp,λi p=>?_⟩) (by simp;omega) (ac B.o.size (by simp;omega)) (vA B.o (vA (qA _ _) (qA _ _))) ?_)
    .have:i=0:=by simpa using p
     subst this;exact⟨by simp[go_sem],by simp[go_sem]⟩
    .intro j d F z;clear X B r Q;go_wp2
     go_roundw
     case rel=>exact⟨k+1,by omega,by go_num,by rw[D.o,Yb,FE];exact F,z⟩
     case measure=>simp[intOf];omega
  .have e:k=l.length:=by omega
   subst e;rw[Lc]at X;go_wp2;go_ret;exact⟨_,rfl,X.o,B.o⟩
theorem gT(l:List (Int×ByteArray))(b:Int)(s:ByteArray)(j:Nat):(docW l b s j).length<=1:=by
 unfold docW;split
 .simp
 .cases uA j l<;>simp
theorem ZL{α:Type}(f:Nat->List α)(h:∀j,(f j).length<=1)(k:Nat):((List.range k).flatMap f).length<=k:=by
 induction k with
 |zero=>simp
 |succ k ih=>
  rw[ce,de,Yb];have:=h k;simp at ih|-;omega
theorem PL{α:Type}(f:Nat->List α)(k:Nat):(List.range (k+1)).flatMap f=(List.range k).flatMap f++f k:=by
 rw[ce,de];simp
theorem pK(a:Option Addr)(c:Nat)(l:List (Int×ByteArray))(b:Int)(s:ByteArray)(w:K)(h:SegW w a l)(p:l.length<=maxLen):
  Calls prog 83 #[M a l.length c,H G b,A s] w λe X=>∃d,e=N d/\X.ownsRow w.heap.size 99 2 d ((List.range 12).flatMap (docW l b s)).length (cellsC ((List.range 12).flatMap (docW l b s)))/\Below w.heap.size w X:=by
 have x:=zA h;have y:=zA p;clear h p;go_enter func83,ntmps83;go_wp2
 go_loopw [7,11] (λv i wr=>∃k:Nat,k<=12/\i=H G k/\Hid (wr.ownsRow w.heap.size 99 2 v ((List.range k).flatMap (docW l b s)).length (cellsC ((List.range k).flatMap (docW l b s))))/\Hid (Below w.heap.size w wr)) (λ_ i _=>12 - (intOf i).toNat)
 case atStart=>exact⟨0,Vb _,rfl,Kc _ _ _ _,Ub _ _⟩
 case round=>
  obtain⟨k,hk,rfl,E,F⟩:=hrel;by_cases hlt:k<12
  .have A0:(k:Int)<12:=by omega
   have hq:=ZL (docW l b s) (gT l b s) k;have R:=zA (PL (docW l b s) k);generalize (List.range k).flatMap (docW l b s)=q at *;go_wp2_with fail;refine(YK a c l (k:Int) wr (x.o.below F.o) y.o).mono ?_;rintro e L ⟨rfl,n⟩;have D:=zA (dA E.o n);have Q:=zA (vA F.o n);clear E F n;by_cases he:(k:Int)=b
   .have r:((k:Int)==b)=I:=by simpa using he
    have C:Hid ((List.range (k+1)).flatMap (docW l b s)=q++[(b,s)]):=by rw[Hid,R.o,docW,Rb he]
    clear R;go_wp2_with (at_builtin;refine uG _ w w.heap.size rfl _ _ rfl _ q.length (cellsC q) rfl (dA D.o (qA _ _)) (J ⟨L.heap.size,0,Z⟩) 1 [(b,s)] rfl (.inr ⟨L.heap.size,0,rfl,by simp,λi j=>?_⟩) (by simp;omega) (ac Q.o.size (by simp)) (vA Q.o (qA _ _)) ?_)
    .have:i=0:=by simpa using j
     subst this;exact⟨by simp[go_sem],by simp[go_sem]⟩
    .intro d X B m;clear D Q;go_wp2
     go_roundw
     case rel=>exact⟨k+1,by omega,by go_num,by rw[C.o,Yb,FE];exact B,m⟩
     case measure=>simp[intOf];omega
   .have r:((k:Int)==b)=O:=by simpa using he
    cases ht:uA (k:Int) l with
    |none=>
     have C:Hid ((List.range (k+1)).flatMap (docW l b s)=q):=by rw[Hid,R.o,docW,Qb he,ht];simp
     clear R;go_wp2
     go_roundw
     case rel=>exact⟨k+1,by omega,by go_num,by rw[C.o];exact D,Q⟩
     case measure=>simp[intOf];omega
    |some u=>
     have C:Hid ((List.range (k+1)).flatMap (docW l b s)=q++[((k:Int),u)]):=by rw[Hid,R.o,docW,Qb he,ht];rfl
     clear R;go_wp2_with (at_builtin;refine uG _ w w.heap.size rfl _ _ rfl _ q.length (cellsC q) rfl (dA D.o (qA _ _)) (J ⟨L.heap.size,0,Z⟩) 1 [((k:Int),u)] rfl (.inr ⟨L.heap.size,0,rfl,by simp,λi j=>?_⟩) (by simp;omega) (ac Q.o.size (by simp)) (vA Q.o (qA _ _)) ?_)
     .have:i=0:=by simpa using j
      subst this;exact⟨by simp[go_sem],by simp[go_sem]⟩
     .intro d X B m;clear D Q;go_wp2
      go_roundw
      case rel=>exact⟨k+1,by omega,by go_num,by rw[C.o,Yb,FE];exact B,m⟩
      case measure=>simp[intOf];omega
  .have e:k=12:=by omega
   subst e;go_wp2;go_ret;exact⟨_,rfl,E.o,F.o⟩
theorem TL(a:Option Addr)(c:Nat)(l:List Tx)(w:K)(h:SegTx w a l)(hn:l.length<=maxLen):
  Calls Tryz.prog 37 #[M a l.length c] w λe w'=>∃v',e=N v'/\w'.ownsRow w.heap.size 99 2 v' (asN (docF l) 12).length (cellsC (asN (docF l) 12))/\Below w.heap.size w w':=by
 unfold maxLen at hn;have HS:=zA h;clear h;go_enter Tryz.func37,Tryz.ntmps37;go_wp2
 go_loopw [3,12] (λv i wr=>∃k:Nat,k<=l.length/\i=H G k/\Hid (wr.ownsRow w.heap.size 99 2 v (asN (docF (l.take k)) 12).length (cellsC (asN (docF (l.take k)) 12)))/\Hid (Below w.heap.size w wr)) (λ_ i _=>l.length - (intOf i).toNat)
 case atStart=>exact⟨0,Vb _,rfl,Kc _ _ _ _,Ub _ _⟩
 case round=>
  obtain⟨B7,A7⟩:∃B7,B7=wr:=⟨_,rfl⟩;subst A7;obtain⟨k,hk,rfl,C2,C⟩:=hrel;by_cases hlt:k<l.length
  .obtain⟨b2,B3,rfl,hb,hc⟩:=HS.o.resolve_left (by intro e;rw[e]at hlt;simp at hlt);obtain⟨t,ht⟩:∃t,t=l.getD k txz:=⟨_,rfl⟩;have HX:Hid (l[k]?=J t):=by rw[ht];exact PH hlt
   have z:=hc k hlt;rw[<-ht]at z;obtain⟨a0,c0,a1,c1,r,d,⟨x0,x1,x2,x3,x4,x5,x6,x7,x8,x9⟩,hT⟩:=z;obtain⟨s1,_,s3,n1,_,n3⟩:=hT.rows
   replace x0:=xA C.o hb x0
   replace x1:=xA C.o hb x1
   replace x2:=xA C.o hb x2
   replace x3:=xA C.o hb x3
   replace x4:=xA C.o hb x4
   replace x5:=xA C.o hb x5
   replace x6:=xA C.o hb x6
   replace x7:=xA C.o hb x7
   replace x8:=xA C.o hb x8
   replace x9:=xA C.o hb x9
   unfold maxLen at n1 n3;have HM:=zA s1;have HR:=zA s3;have HD:=zA (uV HX.o);have B2:(k:Int)<(l.length:Int):=by omega
   clear ht hc hT s1 s3;generalize docF (l.take k)=f at *;go_wp2;clear x0 x1 x2 x3 x4 x5 x6 x7 x8 x9
   go_loopw [3,19] (λv i B6=>∃q:Nat,q<=t.rev.length/\i=H G q/\Hid (B6.ownsRow w.heap.size 99 2 v (asN (dropF (t.rev.take q) f) 12).length (cellsC (asN (dropF (t.rev.take q) f) 12)))/\Hid (B6.heap[B7.heap.size]?=J (T #[H G t.seq,M a0 t.info.length c0,M a1 t.data.length c1,M r t.rev.length d,Y t.h0.on,H G t.h0.left,Y t.h1.on,H G t.h1.left,Y t.h2.on,H G t.h2.left] 52 (0,0)))/\B7.heap.size<B6.heap.size/\Hid (Below w.heap.size w B6)) (λ_ i _=>t.rev.length - (intOf i).toNat)
   case atStart=>exact⟨0,Vb _,rfl,by rw[Ee,MS];exact dA C2.o (qA _ _),Cc B7 _,by simp,vA C.o (qA _ _)⟩
   case round=>
    obtain⟨B6,A9⟩:∃B6,B6=wr:=⟨_,rfl⟩;subst A9;obtain⟨q,hq,rfl,B,B5,D,B4⟩:=hrel;by_cases hq2:q<t.rev.length
    .obtain⟨b3,A1,rfl,S,L⟩:=HR.o.resolve_left (by intro e;rw[e]at hq2;simp at hq2);obtain⟨x,B8⟩:∃x,x=t.rev.getD q 0:=⟨_,rfl⟩;have g3:=xA B4.o S (L q hq2);rw[<-B8]at g3;have E:Hid (t.rev[q]?=J x):=by rw[B8];exact YA _ _ _ hq2
     have B9:Hid ((asN (dropF (t.rev.take q) f) 12).filter (λy=>decide (y.1≠x))=asN (dropF (t.rev.take (q+1)) f) 12):=by rw[Hid,FV,FY E.o]
     have A0:=QG (dropF (t.rev.take q) f) 12;have A5:(q:Int)<(t.rev.length:Int):=by omega
     clear B8 L E;generalize asN (dropF (t.rev.take q) f) 12=Q at *;obtain⟨va,vc,hv,u,_⟩:=SegC.of_owns B.o;have Z:=zA u;subst hv;clear u B;go_wp2_with fail;refine(LJ va vc Q x B6 Z.o (by omega)).mono ?_;rintro e w2 ⟨v2,rfl,m,C0⟩;rw[B9.o]at m;have A8:=zA (qB m B4.o.size);have B0:=zA (vA B4.o C0);have b:=zA (yA C0 D B5.o);have A4:=Xb D C0.size;clear m C0 g3 B9 Z B5 B4;go_wp2
     go_roundw
     case rel=>exact⟨q+1,by omega,by go_num,A8,b,A4,B0⟩
     case measure=>simp[intOf];omega
    .have e:q=t.rev.length:=by omega
     subst e;rw[Lc]at B;have A5:¬((t.rev.length:Int)<(t.rev.length:Int)):=by omega
     obtain⟨⟨y0,y1,y2,y3,y4,y5,y6,y7,y8,y9⟩,_⟩:=BA B5.o;go_wp2;clear y0 y1 y2 y3 y4 y5 y6 y7 y8 y9
     go_loopw [3,30] (λv i wp=>∃p:Nat,p<=t.info.length/\i=H G p/\Hid (wp.ownsRow w.heap.size 99 2 v (asN ((t.info.take p).foldl (putF t.rev) (dropF t.rev f)) 12).length (cellsC (asN ((t.info.take p).foldl (putF t.rev) (dropF t.rev f)) 12)))/\Hid (wp.heap[B7.heap.size]?=J (T #[H G t.seq,M a0 t.info.length c0,M a1 t.data.length c1,M r t.rev.length d,Y t.h0.on,H G t.h0.left,Y t.h1.on,H G t.h1.left,Y t.h2.on,H G t.h2.left] 52 (0,0)))/\B7.heap.size<wp.heap.size/\Hid (Below w.heap.size w wp)) (λ_ i _=>t.info.length - (intOf i).toNat)
     case atStart=>exact⟨0,Vb _,rfl,B,B5,D,B4⟩
     case round=>
      clear B B5 D B4;obtain⟨p,hp,rfl,B,B5,D,B4⟩:=hrel;by_cases hp2:p<t.info.length
      .obtain⟨b3,A1,rfl,S,L⟩:=HM.o.resolve_left (by intro e;rw[e]at hp2;simp at hp2);obtain⟨x,B8⟩:∃x,x=t.info.getD p (0,U):=⟨_,rfl⟩;obtain⟨g1,g2⟩:=L p hp2
       replace g1:=xA B4.o S g1
       replace g2:=xA B4.o S g2
       rw[<-B8]at g1 g2;have E:Hid (t.info[p]?=J x):=by rw[B8];exact YA _ _ _ hp2
       have B9:=zA (mY E.o t.rev (dropF t.rev f));have A2:(p:Int)<(t.info.length:Int):=by omega
       clear B8 L E;obtain⟨n,s⟩:=x;generalize (t.info.take p).foldl (putF t.rev) (dropF t.rev f)=F at *;obtain⟨⟨y0,y1,y2,y3,y4,y5,y6,y7,y8,y9⟩,_⟩:=BA B5.o;have b:=zA (yA (qA wr (T #[H G n,A s] 99 (0,0))) D B5.o);go_wp2_with fail;refine(xF n _).mono ?_;rintro e w2 ⟨rfl,rfl⟩;by_cases hwb:sA n 0 11=I
       .rw[hwb];go_wp2_with fail;refine(kE r d t.rev n _ (HR.o.below (vA B4.o (qA _ _))) n3).mono ?_;rintro e w3 ⟨rfl,rfl⟩
        cases hr:tA t.rev n with
        |true=>
         have X:Hid (putF t.rev F (n,s)=F):=by rw[Hid,putF,Qb];simp[hr]
         clear HM HR;go_wp2
         go_roundw
         case rel=>exact⟨p+1,by omega,by go_num,by rw[B9.o,X.o];exact dA B.o (qA _ _),b,by simp;omega,vA B4.o (qA _ _)⟩
         case measure=>simp[intOf];omega
        |false=>
         have X:Hid ((List.range 12).flatMap (docW (asN F 12) n s)=asN (putF t.rev F (n,s)) 12):=by rw[Hid,wW,putF,Rb ⟨hwb,hr⟩]
         have A0:=QG F 12;obtain⟨va,vc,hv,u,_⟩:=SegC.of_owns B.o;have Z:=zA (u.below (qA wr (T #[H G n,A s] 99 (0,0))));subst hv;clear u B HM;generalize asN F 12=Q at *;go_wp2_with fail;refine(pK va vc Q n s _ Z.o (by unfold maxLen;omega)).mono ?_;rintro e w4 ⟨v4,rfl,C1,R⟩;rw[X.o]at C1;have B1:=zA (qB C1 (ac B4.o.size (by simp)));have A6:=zA (vA (vA B4.o (qA _ _)) R);have K4:=zA (yA R (Xb D (by simp)) b.o);have A3:B7.heap.size<w4.heap.size:=Xb (Xb D (by simp)) R.size;clear C1 R Z X;go_wp2
         go_roundw
         case rel=>exact⟨p+1,by omega,by go_num,by rw[B9.o];exact B1,K4,A3,A6⟩
         case measure=>simp[intOf];omega
       .have j:sA n 0 11=O:=by simpa using hwb
        have X:Hid (putF t.rev F (n,s)=F):=by rw[Hid,putF,Qb];simp[j]
        rw[j];go_wp2
        go_roundw
        case rel=>exact⟨p+1,by omega,by go_num,by rw[B9.o,X.o];exact dA B.o (qA _ _),b,by simp;omega,vA B4.o (qA _ _)⟩
        case measure=>simp[intOf];omega
      .have e:p=t.info.length:=by omega
       subst e;rw[Lc]at B;have A2:¬((t.info.length:Int)<(t.info.length:Int)):=by omega
       go_wp2
       go_roundw
       case rel=>exact⟨k+1,by omega,by go_num,by rw[HD.o];exact B,B4⟩
       case measure=>simp[intOf];omega
  .have e:k=l.length:=by omega
   subst e;rw[Lc]at C2;go_wp2;go_ret;exact⟨_,rfl,C2.o,C.o⟩
