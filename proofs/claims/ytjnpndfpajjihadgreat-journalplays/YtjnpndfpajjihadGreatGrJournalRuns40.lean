import Derived.Test.YtjnpndfpajjihadGreatGrJournalRuns18
import Derived.Lib.AppendZerosOnto
set_option maxRecDepth 100000
set_option maxHeartbeats 40000000
namespace Go.Proofs.YtjnpndfpajjihadGreat
open Go.Proofs.Tryz
open Go.RowKit
open Value renaming int -> H,slice -> M,bool -> Y,agg -> F
open IntKind renaming i64 -> G
open Option renaming none -> Z,some -> J
open Bool renaming false -> O,true -> I
open Go renaming World -> K,Value -> E
open Obj renaming cells -> T
open Ending renaming returned -> N
variable{a:Option Addr}{w:World}
structure RZ where
 a:Option Addr
 c:Nat
 a':Option Addr
 c':Nat
 r:Option Addr
 d:Nat
 t:Tx
def RZ.cells (x:RZ):List E:=[H G x.t.seq,M x.a x.t.info.length x.c,M x.a' x.t.data.length x.c',M x.r x.t.rev.length x.d,Y x.t.h0.on,H G x.t.h0.left,Y x.t.h1.on,H G x.t.h1.left,Y x.t.h2.on,H G x.t.h2.left]
def RZ.val (x:RZ):E:=F #[H G x.t.seq,M x.a x.t.info.length x.c,M x.a' x.t.data.length x.c',M x.r x.t.rev.length x.d,Y x.t.h0.on,H G x.t.h0.left,Y x.t.h1.on,H G x.t.h1.left,Y x.t.h2.on,H G x.t.h2.left]
def cellsZ (l:List RZ):List E:=l.flatMap RZ.cells
theorem EJ(l:List RZ):(cellsZ l).length=l.length*10:=by
 induction l with
 |nil=>rfl
 |cons x r ih=>
  show(x.cells++cellsZ r).length=_;rw[Yb,ih];simp[RZ.cells];omega
theorem FQ(l r:List RZ):cellsZ (l++r)=cellsZ l++cellsZ r:=de
theorem LQ(l:List RZ):∀u∈cellsZ l,u.oneCell'=I:=by
 intro u B;obtain⟨x,_,A⟩:=ag.1 B;simp only[RZ.cells,List.mem_cons,List.not_mem_nil,or_false]at A;rcases A with rfl|rfl|rfl|rfl|rfl|rfl|rfl|rfl|rfl|rfl<;>rfl
theorem JO(l:List RZ)(i:Nat)(x:RZ)(h:l[i]?=J x)(j:Nat)(hj:j<10):(cellsZ l)[i*10+j]?=x.cells[j]?:=by
 induction l generalizing i with
 |nil=>simp at h
 |cons y r ih=>
  have e:cellsZ (y::r)=y.cells++cellsZ r:=rfl;have A:y.cells.length=10:=rfl
  cases i with
  |zero=>
   simp at h;subst h;rw[e,ve (by omega),Ye,Dc]
  |succ i=>
   rw[e,ke (by omega),A];have B:(i+1)*10+j - 10=i*10+j:=by omega
   rw[B];exact ih i (by simpa using h)
def SegZ (w:K)(a:Option Addr)(l:List RZ):Prop:=l=[]\/∃b B,a=J ⟨b,B,Z⟩/\b<w.heap.size/\∀j u,(cellsZ l)[j]?=J u->w.cell? ⟨b,B+j,Z⟩=J u
theorem SegZ.below{w':K}{l:List RZ}(h:SegZ w a l)(hb:Below w.heap.size w w'):SegZ w' a l:=by
 rcases h with h|⟨b,D,e,B,Q⟩
 .exact .inl h
 .exact .inr ⟨b,D,e,Xb B hb.size,λj u L=>xA hb B (Q j u L)⟩
theorem SegTx.rz_list{b off:Nat}:∀(l:List Tx),(∀i,i<l.length->TxAt w b (off+i*10) (l.getD i txz))->∃q:List RZ,q.map (·.t)=l/\(∀x∈q,IsTx w x.val x.t)/\∀i x,q[i]?=J x->∀j u,x.cells[j]?=J u->w.cell? ⟨b,off+i*10+j,Z⟩=J u:=by
 intro l
 induction l generalizing off with
 |nil=>intro _;exact⟨[],rfl,(λx hx=>by cases hx),(λi x hx=>by simp at hx)⟩
 |cons t l ih=>
  intro h
  obtain⟨q,U,O,R⟩:=ih (off:=off+10) (λi hi=>by
   have:=h (i+1) (by simp;omega);rw[show off+(i+1)*10=off+10+i*10 by omega]at this
   simpa using this)
  obtain⟨a,c,S,Q,r,d,⟨N,D,B,C,F,M,e,I,E,K⟩,L⟩:=h 0 (by simp);simp only[List.getD_cons_zero,Nat.zero_mul,Nat.add_zero]at N D B C F M e I E K L;refine⟨⟨a,c,S,Q,r,d,t⟩::q,by simp[U],λx hx=>?_,λi x hx j u X=>?_⟩
  .rcases Xc.1 hx with rfl|hx
   .exact L
   .exact O x hx
  .cases i with
   |zero=>
    simp only[List.getElem?_cons_zero,Option.some.injEq]at hx;subst hx;rw[Ye,pe];have A:j<10:=(gd.1 X).1
    match j,A with
    |0,_=>cases X;exact N
    |1,_=>cases X;exact D
    |2,_=>cases X;exact B
    |3,_=>cases X;exact C
    |4,_=>cases X;exact F
    |5,_=>cases X;exact M
    |6,_=>cases X;exact e
    |7,_=>cases X;exact I
    |8,_=>cases X;exact E
    |9,_=>cases X;exact K
   |succ i=>
    have:=R i x (by simpa using hx) j u X;rw[show off+(i+1)*10+j=off+10+i*10+j by omega];exact this
theorem SegTx.rz{l:List Tx}(h:SegTx w a l):∃q:List RZ,q.map (·.t)=l/\SegZ w a q/\∀x∈q,IsTx w x.val x.t:=by
 rcases h with rfl|⟨b,L,rfl,Q,X⟩
 .exact⟨[],rfl,.inl rfl,λx A=>by cases A⟩
 .obtain⟨q,C,E,D⟩:=SegTx.rz_list l X;refine⟨q,C,.inr ⟨b,L,rfl,Q,λj u R=>?_⟩,E⟩;have B:=(gd.1 R).1;rw[EJ]at B;obtain⟨x,A⟩:∃x,q[j/10]?=J x:=⟨_,Ic (by omega)⟩;have e:=JO q (j/10) x A (j%10) (by omega);rw[show j/10*10+j%10=j by omega,R]at e;have:=D _ x A (j%10) u e.symm;rw[show L+j=L+j/10*10+j%10 by omega];exact this
theorem SegTx.of_rz{base n:Nat}{v:E}{q:List RZ}(h:w.ownsRow base 52 10 v n (cellsZ q))(X:∀x∈q,IsTx w x.val x.t):∃a c,v=M a q.length c/\SegTx w a (q.map (·.t))/\∀b D,a=J ⟨b,D,Z⟩->base<=b:=by
 have C:q.length=n:=by have:=h.1;rw[EJ]at this;omega
 subst C;rcases h.2 with⟨rfl,L⟩|⟨g,cap,A0,rfl,hb,R,rest⟩
 .exact⟨Z,0,by rw[L],.inl (by rw[Tc L];rfl),λ_ _ h=>by cases h⟩
 .refine⟨_,cap,rfl,.inr ⟨g,0,rfl,(Wb.1 R).1,λi Q=>?_⟩,λ_ _ h=>by cases h;exact hb⟩;rw[xd]at Q;obtain⟨x,B⟩:∃x,q[i]?=J x:=⟨_,Ic Q⟩;have ex:(q.map (·.t)).getD i txz=x.t:=by rw[List.getD,Ld,B];rfl
  rw[ex]
  have cell:∀j,j<10->w.cell? ⟨g,0+i*10+j,Z⟩=x.cells[j]?:=by
   intro j A;rw[Dc,h.cellAt (i*10+j) (by omega)];exact JO q i x B j A
  exact⟨x.a,x.c,x.a',x.c',x.r,x.d,⟨cell 0 (by decide),cell 1 (by decide),cell 2 (by decide),cell 3 (by decide),cell 4 (by decide),cell 5 (by decide),cell 6 (by decide),cell 7 (by decide),cell 8 (by decide),cell 9 (by decide)⟩,X x (Yc B)⟩
theorem mT(n:Nat)(w:K)(hn:n<=1000):
  Calls prog 190 #[M Z 0 0,H .i64 n] w λe R=>∃X,e=N X/\R.ownsRow w.heap.size 52 10 X 0 []/\Below w.heap.size w R:=by
 obtain⟨I,k,j,L,D⟩:=Gc YF;rcases jf n with rfl|hpos
 .go_enter func190,ntmps190;go_wp2;go_ret;exact⟨_,rfl,Kc _ _ _ _,Ub _ _⟩
 .obtain⟨G,C⟩:∃G,G=grownCap w n 0 52:=⟨_,rfl⟩;have A0:n<=G:=by rw[C];exact grownCap_ge w _ _ _
  have b:G<=maxLen:=by rw[C];exact pg w n 0 _ (by unfold maxLen;omega)
  obtain⟨A,B⟩:∃A,A=#[]++Builtin.zeroCells (F #[H .i64 0,M Z 0 0,M Z 0 0,M Z 0 0,Y O,H .i64 0,Y O,H .i64 0,Y O,H .i64 0]:E).cells n++Builtin.zeroCells (F #[H .i64 0,M Z 0 0,M Z 0 0,M Z 0 0,Y O,H .i64 0,Y O,H .i64 0,Y O,H .i64 0]:E).cells (G - n):=⟨_,rfl⟩
  have c:A.size=G*10:=by
   rw[B,Re,Re,Se,Se];show 0+n*10+(G - n)*10=G*10;omega
  have i:∀Q,(Builtin.append_ #[53,3] Q #[M Z 0 0,H .i64 (n:Int)]).run prog w=.ok (M (J ⟨w.heap.size,0,Z⟩) n G) (w.drew.alloc (T A 52)):=λQ=>by
   have h:=Lib.run_append_grow_zeros (P:=prog) w 53 3 Q 52 I (F #[H .i64 0,M Z 0 0,M Z 0 0,M Z 0 0,Y O,H .i64 0,Y O,H .i64 0,Y O,H .i64 0]) .i64 .i64 underlying53 underlying3 k j Z 0 0 [] (sg w.drew I.size 0 0 0) n hpos (by rw[L];decide) (by omega) (by omega) (by rw[D];omega) (by rw[Dc,D];exact tg (by omega) (by omega));rw[Dc,<-C]at h;rw[h,B]
  have d:Hid ((w.drew.alloc (T A 52)).ownsRow w.heap.size 52 10 (M (J ⟨w.heap.size,0,Z⟩) 0 G) 0 []):=De w.drew A G (Sb _) b c;clear C B c;unfold maxLen at b;have h1:¬((n:Int)<0):=by omega
  have h2:(n:Int)>0:=by omega
  go_enter func190,ntmps190;go_wp2_with (at_builtin;refine Lib.wpList_append_run _ rfl _ _ _ _ rfl _ _ rfl rfl _ _ (i _) ?_);go_ret;exact⟨_,rfl,d.o,(Ub _ _).drew.alloc (by simp) _⟩
theorem fV(w:K)(base:Nat)(Q:TypeId)(v:E)(n c:Nat)(L:List E)(h:w.ownsRow base 52 10 v n L):
  (Builtin.append_ #[53,53] Q #[v,M Z 0 c]).run prog w=.ok v w:=by
 obtain⟨B,A,A1,A2,A0⟩:=Gc YF;rcases h.2 with⟨rfl,rfl⟩|⟨g,cap,A4,rfl,hb,hg,D,A5,A3⟩
 .exact iG w _ _ _ B c underlying53 A
 .simp[Builtin.append_,run_underlying underlying53,sizeOf,typeInfo,A,Builtin.lenOf,Builtin.firstCells,D,storeCells]
theorem vW(w W:K)(base:Nat){m:Array Oper}{rest:List Oper}{o:Oper}{a:Act}{Q:Exit->Act->K->Prop}(i:o.guard=Z)(s x:Operand)
  (r:o.op=.call {callee:=.builtin .append,args:=#[s,x],argTypes:=#[53,53]})
  (v:E) (n:Nat) (d:List E) (z:a.eval s=v) (L:w.ownsRow base 52 10 v n d) (p:Option Addr) (c:Nat) (l:List RZ) (hx:a.eval x=M p l.length c) (hS:SegZ w p l)
  (hn:n+l.length<=1000) (R:base<=w.heap.size) (hB:Below base W w)
  (h:∀e X,Hid (X.ownsRow base 52 10 e (n+l.length) (d++cellsZ l))->Hid (Below base W X)->wpList prog m Q rest (a.put o.dst e) X):wpList prog m Q (o::rest) a w:=by
 obtain⟨I,A0,A1,A2,D⟩:=Gc YF
 cases p with
 |none=>
  have J:l=[]:=by rcases hS with h|⟨b,y,q,_⟩;exact h;cases q
  subst J;refine Lib.wpList_append_run w i s x _ _ r _ _ z hx v w (fV w base o.type v n c d L) (h v w ?_ hB);show w.ownsRow base 52 10 v (n+0) (d++[]);rw[yd];exact L
 |some ad=>
  refine wd w i s x 53 r base 52 I (F #[H G 0,M Z 0 0,M Z 0 0,M Z 0 0,Y O,H G 0,Y O,H G 0,Y O,H G 0]) 10 128 underlying53 A0 A1 A2 D rfl (by decide) v n d z L ad l.length c (cellsZ l) hx (EJ l) ?_ (LQ l) (by unfold maxLen;omega) (by omega) R ?_
  .intro j u C;rcases hS with h|⟨b,y,q,A3,hc⟩
   .rw[h]at C;simp[cellsZ]at C
   .cases q;rw[qd];exact hc j u C
  .intro e X B A _;exact h e X B (hB.grown A R (λk hk=>(L.lt k hk).1))
def flatZ (L:List (Option Addr×Nat×List RZ)):List RZ:=(L.map (·.2.2)).flatten
theorem lM{L:List (Option Addr×Nat×List RZ)}{k:Nat}{x:Option Addr×Nat×List RZ}(h:L[k]?=J x):flatZ (L.take (k+1))=flatZ (L.take k)++x.2.2:=by
 rw[Oc,h];simp[flatZ]
theorem GI(L:List (Option Addr×Nat×List RZ))(k:Nat):(flatZ (L.take k)).length<=(flatZ L).length:=by
 have:flatZ L=flatZ (L.take k)++flatZ (L.drop k):=by rw[flatZ,flatZ,flatZ,<-og,<-Ed,Mf]
 rw[this,Yb];omega
def xO (w:K)(B:Nat)(L:List (Option Addr×Nat×List RZ)):Prop:=
 B<w.heap.size/\∀i x,L[i]?=J x->w.cell? ⟨B,i,Z⟩=J (M x.1 x.2.2.length x.2.1)/\SegZ w x.1 x.2.2
theorem La(B m c:Nat)(L:List (Option Addr×Nat×List RZ))(w:K)(hm:L.length=m)(A1:m<=1000)(h:xO w B L)(hn:(flatZ L).length<=1000):
  Calls prog 141 #[M (J ⟨B,0,Z⟩) m c] w λe n=>∃p,e=N p/\n.ownsRow w.heap.size 52 10 p (flatZ L).length (cellsZ (flatZ L))/\Below w.heap.size w n:=by
 subst hm;have y:=zA h;clear h;go_enter func141,ntmps141;go_wp2
 go_loop [3,11] (λs i=>∃k:Nat,k<=L.length/\i=H G k/\s=H G ((flatZ (L.take k)).length:Int)) (λ_ i=>L.length - (intOf i).toNat)
 case atStart=>exact⟨0,Vb _,rfl,rfl⟩
 case round=>
  obtain⟨k,l,rfl,rfl⟩:=hrel;have u:=GI L k;by_cases hlt:k<L.length
  .obtain⟨x,E⟩:∃x,L[k]?=J x:=⟨_,Ic hlt⟩;have Q:=(y.o.2 k x E).1;have F:Hid ((flatZ (L.take (k+1))).length=(flatZ (L.take k)).length+x.2.2.length):=by rw[Hid,lM E,Yb]
   have A:=GI L (k+1);rw[F.o]at A;have S:(k:Int)<(L.length:Int):=by omega
   clear E;generalize (flatZ (L.take k)).length=q at *;obtain⟨X,j,d⟩:=x;dsimp only at A Q F;go_wp2
   go_round
   case rel=>exact⟨k+1,by omega,by go_num,by rw[F.o];go_num⟩
   case measure=>simp[intOf];omega
  .have e:k=L.length:=by omega
   subst e;rw[Lc];clear u;obtain⟨z,r⟩:∃z,z=(flatZ L).length:=⟨_,rfl⟩;rw[<-r]at hn;rw[<-r];have A0:=zA r;clear r;go_wp2_with fail;refine(mT z w hn).mono ?_;rintro e w1 ⟨v1,rfl,I,R⟩;have a:=zA I;have b:=zA R;clear I R;go_wp2
   go_loopw [6,27] (λs i wr=>∃(k:Nat),k<=L.length/\i=H G k/\Hid (wr.ownsRow w.heap.size 52 10 s (flatZ (L.take k)).length (cellsZ (flatZ (L.take k))))/\Hid (Below w.heap.size w wr)) (λ_ i _=>L.length - (intOf i).toNat)
   case atStart=>exact⟨0,Vb _,rfl,a,b⟩
   case round=>
    obtain⟨k,l,rfl,D,C⟩:=hrel;have u:=GI L k;rw[<-A0.o]at u;by_cases hlt:k<L.length
    .obtain⟨x,E⟩:∃x,L[k]?=J x:=⟨_,Ic hlt⟩;have Q:=xA C.o y.o.1 (y.o.2 k x E).1;have U:Hid (SegZ wr x.1 x.2.2):=(y.o.2 k x E).2.below C.o;have F:Hid (flatZ (L.take (k+1))=flatZ (L.take k)++x.2.2):=lM E;have A:=GI L (k+1);rw[F.o,Yb,<-A0.o]at A;have S:(k:Int)<(L.length:Int):=by omega
     clear E;generalize flatZ (L.take k)=q at *;obtain⟨X,j,d⟩:=x;dsimp only at A Q F U;go_wp2_with (at_builtin;refine vW _ w w.heap.size rfl _ _ rfl _ q.length (cellsZ q) rfl D.o X j d rfl U.o (by omega) C.o.size C.o ?_);intro p n O Y;clear D C U Q;go_wp2
     go_roundw
     case rel=>exact⟨k+1,by omega,by go_num,by rw[F.o,Yb,FQ];exact O,Y⟩
     case measure=>simp[intOf];omega
    .have e:k=L.length:=by omega
     subst e;rw[Lc]at D;clear u;go_wp2;go_ret;exact⟨_,rfl,D.o,C.o⟩
theorem qO(b:TypeId)(base:Nat)(v:E)(q l:List RZ)(w:K)(R:w.ownsRow base 52 10 v q.length (cellsZ q))(X:Addr)(c:Nat)(d:∀j u,(cellsZ l)[j]?=J u->w.cell? (X.add j)=J u)(hl:q.length+l.length<=1000)(hb:base<=w.heap.size):
  ∃Q L,(Builtin.append_ #[53,53] b #[v,M (J X) l.length c]).run prog w=.ok Q L/\L.ownsRow base 52 10 Q (q++l).length (cellsZ (q++l))/\w.grownBy L v.ownBlock:=by
 obtain⟨D,I,B,C,A⟩:=Gc YF;obtain⟨Q,L,hrun,F,e,_⟩:=bf (P:=prog) w base 53 b 52 D _ 10 128 underlying53 I B C A rfl (by decide) v q.length (cellsZ q) R X l.length c (cellsZ l) (EJ l) d (LQ l) (by unfold maxLen;omega) (by omega) hb;exact⟨Q,L,hrun,by rw[FQ,Yb];exact F,e⟩
theorem MY(R:TypeId)(base:Nat)(a:Option Addr)(c:Nat)(l:List RZ)(w:K)(i:SegZ w a l)(m:l.length<=1000)(hb:base<=w.heap.size):
  ∃Q L,(Builtin.append_ #[53,53] R #[M Z 0 0,M a l.length c]).run prog w=.ok Q L/\L.ownsRow base 52 10 Q l.length (cellsZ l)/\Below w.heap.size w L:=by
 cases a with
 |none=>
  obtain⟨A,F,A1,A2,A0⟩:=Gc YF
  have E:l=[]:=by
   rcases i with h|⟨b,e,X,_⟩
   .exact h
   .cases X
  subst E;exact⟨_,w,iG w 53 R 52 A c underlying53 F,Kc _ _ _ _,Ub _ _⟩
 |some ad=>
  obtain⟨Q,L,hrun,D,B⟩:=qO R base (M Z 0 0) [] l w (Kc _ _ _ _) ad c (λj u d=>by
   rcases i with h|⟨b,e,X,A3,n⟩
   .rw[h]at d;simp[cellsZ]at d
   .cases X;rw[qd]
    exact n j u d) (by simpa using m) hb
  exact⟨Q,L,hrun,D,(Ub _ _).grown B (Sb _) (by intro k C;simp[Value.ownBlock]at C)⟩
