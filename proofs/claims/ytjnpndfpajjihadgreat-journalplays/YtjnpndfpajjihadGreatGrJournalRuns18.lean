import Derived.Test.YtjnpndfpajjihadGreatGrJournalRuns3
import Derived.Deep.DeepAppendWide
set_option maxRecDepth 100000
set_option maxHeartbeats 40000000
namespace Go.Proofs.YtjnpndfpajjihadGreat
open Go.RowKit
open Value renaming int -> H,slice -> M,string -> A,bool -> Y,agg -> F
open IntKind renaming i64 -> G
open Option renaming none -> Z,some -> J
open Bool renaming false -> O,true -> I
open Go renaming World -> K,Value -> E
open Ending renaming returned -> N
variable{Q:Exit->Act->World->Prop}{a:Act}{base base2 n n2 size:Nat}{e:TypeId}{o:Oper}{ops:Array Oper}{v v2:Value}{w w':World}{xs xs2:List Value}
structure RX where
 m:Value
 d:Value
 r:Value
 t:Tx
def cellsX:List RX->List E
 |[]=>[]
 |x::q=>H G x.t.seq::x.m::x.d::x.r:: Y x.t.h0.on:: H G x.t.h0.left:: Y x.t.h1.on:: H G x.t.h1.left:: Y x.t.h2.on:: H G x.t.h2.left::cellsX q
theorem OV(q:List RX):(cellsX q).length=q.length*10:=by
 induction q with
 |nil=>rfl
 |cons x r ih=>simp[cellsX,ih];omega
theorem mb(q r:List RX):cellsX (q++r)=cellsX q++cellsX r:=by
 induction q with
 |nil=>rfl
 |cons x r ih=>simp[cellsX,ih]
theorem dV(q:List RX)(i:Nat)(x:RX)(h:q[i]?=J x)(j:Nat)(u:E)(B:(cellsX [x])[j]?=J u):(cellsX q)[i*10+j]?=J u:=by
 have A0:j<10:=by have:=(gd.1 B).1;simpa[cellsX] using this
 induction q generalizing i with
 |nil=>simp at h
 |cons y r ih=>
  have e:cellsX (y::r)=cellsX [y]++cellsX r:=rfl
  cases i with
  |zero=>
   simp at h;subst h;rw[e,ve (by simp[cellsX];omega),Ye,Dc];exact B
  |succ i=>
   rw[e,ke (by simp[cellsX];omega)];have A:(i+1)*10+j - (cellsX [y]).length=i*10+j:=by simp[cellsX];omega
   rw[A];exact ih i (by simpa using h)
def OwnR (w:K)(base:Nat)(x:RX):Prop:=
 w.ownsRow base 99 2 x.m x.t.info.length (cellsC x.t.info)/\w.ownsRow base 99 2 x.d x.t.data.length (cellsC x.t.data)/\w.ownsRow base 3 1 x.r x.t.rev.length (cellsI x.t.rev)
theorem OwnR.below{x:RX}(h:OwnR w base x)(hb:Below w.heap.size w w'):OwnR w' base x:=⟨dA h.1 hb,dA h.2.1 hb,dA h.2.2 hb⟩
theorem EF{b:TypeId}{D:Nat}(h:w.ownsRow base e size v n xs)(h2:w.ownsRow base2 b D v2 n2 xs2)(X:e≠b)(c:w.grownBy w' v2.ownBlock):w'.ownsRow base e size v n xs:=by
 refine⟨h.1,?_⟩;rcases h.2 with h0|⟨g,cap,R,d,hb,L,r⟩
 .exact .inl h0
 .refine .inr ⟨g,cap,R,d,hb,?_,r⟩;rw[c.block g (Wb.1 L).1 ?_]
  .exact L
  .intro A;rcases h2.2 with⟨rfl,_⟩|⟨g2,A1,A0,rfl,_,B,_⟩
   .simp[Value.ownBlock]at A
   .simp only[Value.ownBlock,Option.some.injEq]at A;subst A;rw[L]at B;simp only[Option.some.injEq,Obj.cells.injEq]at B;exact X B.2.1
theorem OwnR.grown{x:RX}(h:OwnR w base x)(h2:w.ownsRow base2 52 10 v2 n2 xs2)(B:w.grownBy w' v2.ownBlock):OwnR w' base x:=
 ⟨EF h.1 h2 (by decide) B,EF h.2.1 h2 (by decide) B,EF h.2.2 h2 (by decide) B⟩
theorem IJ(h:w.ownsRow base e size v n xs):v.oneCell'=I:=by
 rcases h.2 with⟨rfl,_⟩|⟨g,cap,A0,rfl,_⟩<;>rfl
theorem OwnR.one{x:RX}(h:OwnR w base x):∀u∈cellsX [x],u.oneCell'=I:=by
 intro u A;simp only[cellsX,List.mem_cons,List.not_mem_nil,or_false]at A;rcases A with rfl|rfl|rfl|rfl|rfl|rfl|rfl|rfl|rfl|rfl
 .rfl
 .exact IJ h.1
 .exact IJ h.2.1
 .exact IJ h.2.2
 all_goals rfl
theorem OwnR.tx{x:RX}(h:OwnR w base x):∃a c X R r d,x.m=M a x.t.info.length c/\x.d=M X x.t.data.length R/\x.r=M r x.t.rev.length d/\SegW w a x.t.info/\SegW w X x.t.data/\SegI w r x.t.rev/\x.t.info.length<=c/\x.t.data.length<=R/\x.t.rev.length<=d/\c<=maxLen/\R<=maxLen/\d<=maxLen:=by
 have cap:∀{e:TypeId} {size n:Nat} {a:Option Addr} {m c:Nat} {D:List E},w.ownsRow base e size (M a m c) n D->m<=c/\c<=maxLen:=by
  intro e size n a m c D h;rcases h.2 with⟨e,_⟩|⟨g,cap,A0,e,_,_,B,A,_⟩
  .simp only[Value.slice.injEq]at e;unfold maxLen;omega
  .simp only[Value.slice.injEq]at e;omega
 obtain⟨B,A,C⟩:=h;obtain⟨a,c,b,J,_⟩:=SegC.of_owns B;obtain⟨X,R,I,L,_⟩:=SegC.of_owns A;obtain⟨r,d,F,K,_⟩:=SegI.of_owns C;rw[b]at B;rw[I]at A;rw[F]at C;exact⟨a,c,X,R,r,d,b,I,F,J,L,K,(cap B).1,(cap A).1,(cap C).1,(cap B).2,(cap A).2,(cap C).2⟩
theorem OwnR.is{x:RX}(h:OwnR w base x):IsTx w (F #[H G x.t.seq,x.m,x.d,x.r,Y x.t.h0.on,H G x.t.h0.left,Y x.t.h1.on,H G x.t.h1.left,Y x.t.h2.on,H G x.t.h2.left]) x.t:=by
 obtain⟨a,c,I,A,r,d,D,J,E,B,L,C,n1,n2,n3,k1,k2,k3⟩:=h.tx;exact⟨a,c,I,A,r,d,by rw[D,J,E],B,L,C,by omega,by omega,by omega⟩
theorem SegTx.of_owns{q:List RX}(h:w.ownsRow base 52 10 v n (cellsX q))(m:∀x∈q,OwnR w base2 x):∃a c,v=M a (q.map (·.t)).length c/\SegTx w a (q.map (·.t))/\∀b X,a=J ⟨b,X,Z⟩->base<=b:=by
 have E:q.length=n:=by have:=h.1;rw[OV]at this;omega
 subst E;rw[xd];rcases h.2 with⟨rfl,R⟩|⟨g,cap,A1,rfl,hb,l,rest⟩
 .exact⟨Z,0,by rw[R],.inl (by rw[Tc R];rfl),λ_ _ h=>by cases h⟩
 .refine⟨_,cap,rfl,.inr ⟨g,0,rfl,(Wb.1 l).1,λi k=>?_⟩,λ_ _ h=>by cases h;exact hb⟩;rw[xd]at k;obtain⟨x,A⟩:∃x,q[i]?=J x:=⟨_,Ic k⟩;have ex:(q.map (·.t)).getD i txz=x.t:=by rw[List.getD,Ld,A];rfl
  rw[ex];have p:=m x (Yc A);obtain⟨a,c,C,B,r,d,I,N,s,D,K,F,n1,n2,n3,k1,k2,k3⟩:=p.tx
  have cell:∀j u,(cellsX [x])[j]?=J u->j<10->w.cell? ⟨g,0+i*10+j,Z⟩=J u:=by
   intro j u L A0;rw[Dc,h.cellAt (i*10+j) (by omega)];exact dV q i x A j u L
  refine⟨a,c,C,B,r,d,⟨cell 0 _ rfl (by omega),cell 1 _ ?_ (by omega),cell 2 _ ?_ (by omega),cell 3 _ ?_ (by omega),cell 4 _ rfl (by omega),cell 5 _ rfl (by omega),cell 6 _ rfl (by omega),cell 7 _ rfl (by omega),cell 8 _ rfl (by omega),cell 9 _ rfl (by omega)⟩,⟨a,c,C,B,r,d,rfl,D,K,F,by omega,by omega,by omega⟩⟩
  .rw[<-I];rfl
  .rw[<-N];rfl
  .rw[<-s];rfl
theorem YF:(Tryz.prog.info? 52).map (λi=>(i.zero,i.size,i.bytes))=J (J (F #[H G 0,M Z 0 0,M Z 0 0,M Z 0 0,Y O,H G 0,Y O,H G 0,Y O,H G 0]),10,128):=by kernel_rfl
theorem wK{b:Nat}{x:RX}(h0:w.cell? ⟨b,0,Z⟩=J (H G x.t.seq))(h1:w.cell? ⟨b,1,Z⟩=J x.m)(h2:w.cell? ⟨b,2,Z⟩=J x.d)(h:w.cell? ⟨b,3,Z⟩=J x.r)
  (R:w.cell? ⟨b,4,Z⟩=J (Y x.t.h0.on)) (c:w.cell? ⟨b,5,Z⟩=J (H G x.t.h0.left)) (B:w.cell? ⟨b,6,Z⟩=J (Y x.t.h1.on)) (X:w.cell? ⟨b,7,Z⟩=J (H G x.t.h1.left)) (L:w.cell? ⟨b,8,Z⟩=J (Y x.t.h2.on)) (D:w.cell? ⟨b,9,Z⟩=J (H G x.t.h2.left)):
  ∀j u,(cellsX [x])[j]?=J u->w.cell? (Addr.add ⟨b,0,Z⟩ j)=J u:=by
 intro j u A;rw[qd,Dc]
 match j,A with
 |0,A=>simp[cellsX]at A;subst A;exact h0
 |1,A=>simp[cellsX]at A;subst A;exact h1
 |2,A=>simp[cellsX]at A;subst A;exact h2
 |3,A=>simp[cellsX]at A;subst A;exact h
 |4,A=>simp[cellsX]at A;subst A;exact R
 |5,A=>simp[cellsX]at A;subst A;exact c
 |6,A=>simp[cellsX]at A;subst A;exact B
 |7,A=>simp[cellsX]at A;subst A;exact X
 |8,A=>simp[cellsX]at A;subst A;exact L
 |9,A=>simp[cellsX]at A;subst A;exact D
 |j+10,A=>simp[cellsX]at A
theorem jK{rest:List Oper}(i:o.guard=Z)(s x:Operand)
  (k:o.op=.call {callee:=.builtin .append,args:=#[s,x],argTypes:=#[53,53]})
  (base:Nat) (v:E) (q:List RX) (l:a.eval s=v) (c:w.ownsRow base 52 10 v q.length (cellsX q)) (b:Nat) (y:RX) (m:a.eval x=M (J ⟨b,0,Z⟩) 1 1)
  (L:∀j u,(cellsX [y])[j]?=J u->w.cell? (Addr.add ⟨b,0,Z⟩ j)=J u) (d:∀u∈cellsX [y],u.oneCell'=I) (A0:q.length*128<=140737488360000) (X:base<=w.heap.size)
  (h:∀R w',w'.ownsRow base 52 10 R (q++[y]).length (cellsX (q++[y]))->w.grownBy w' v.ownBlock->wpList Tryz.prog ops Q rest (a.put o.dst R) w'):wpList Tryz.prog ops Q (o::rest) a w:=by
 obtain⟨D,p,B,C,A⟩:=Gc YF;refine wpList_append_own_wide w i s x 53 k base 52 D _ 10 128 Tryz.underlying53 p B C A rfl (by decide) v q.length (cellsX q) l c ⟨b,0,Z⟩ 1 1 (cellsX [y]) m rfl L d (by unfold maxLen;omega) (by omega) X ?_;intro R w' r F _;refine h R w' ?_ F;rw[mb,Yb];exact r
theorem gC(h:w.ownsRow base e size v n xs){p:Addr}(hb:∀k,v.ownBlock=J k->k≠p.block)(u:E):(w.setCell p u).ownsRow base e size v n xs:=by
 refine⟨h.1,?_⟩;rcases h.2 with h0|⟨g,cap,B,D,R,L,r⟩
 .exact .inl h0
 .refine .inr ⟨g,cap,B,D,R,?_,r⟩;have A:g≠p.block:=hb g (by rw[D];rfl);rw[World.setCell];simp only[Array.getElem?_modify];rw[Qb (λx=>A x.symm)];exact L
theorem nP{r:Act->K->Prop}{E:Prop}(k:o.guard=Z)(s x:Operand)
  (z:o.op=.call {callee:=.builtin .append,args:=#[s,x],argTypes:=#[46,46]})
  (hs:a.eval s=M Z 0 0) (i:Option Addr) (c:Nat) (l:List (Int×ByteArray)) (hx:a.eval x=M i l.length c) (q:SegW w i l) (m:l.length<=maxLen) (X:l.length*24<=140737488355328)
  (h:∀d c2 w',Hid (w'.ownsRow w.heap.size 99 2 (M d l.length c2) l.length (cellsC l))->Below w.heap.size w w'->r (a.put o.dst (M d l.length c2)) w'):
  if Region.wanted o (yielded ops a.tmps)=I then Oper.wp Tryz.prog o a w r Q else E:=by
 obtain⟨J,L,A1,A0,D⟩:=Gc fF;refine vJ k s x 46 z 99 J (F #[H G 0,A ⟨#[]⟩]) 2 24 Tryz.underlying46 L A1 A0 D rfl (by decide) hs i l.length c (cellsC l) hx (nG l) ?_ ?_ (sG l) m X ?_
 .intro C;rcases q with h|⟨b,p,R,_⟩
  .rw[h];rfl
  .rw[C]at R;cases R
 .intro ad C j u B;rcases q with h|⟨b,p,R,A2,hc⟩
  .rw[h]at B;simp[cellsC]at B
  .rw[C]at R;cases R;rw[qd];exact SegC.news hc j u B
 .intro v' w' y hb;obtain⟨d,c2,rfl,_,_⟩:=SegC.of_owns y;exact h d c2 w' y hb
theorem Lb{r:Act->K->Prop}{E:Prop}(k:o.guard=Z)(s x:Operand)
  (y:o.op=.call {callee:=.builtin .append,args:=#[s,x],argTypes:=#[47,47]})
  (z:a.eval s=M Z 0 0) (i:Option Addr) (c:Nat) (l:List Int) (hx:a.eval x=M i l.length c) (q:SegI w i l) (m:l.length<=maxLen) (X:l.length*8<=140737488355328)
  (h:∀d c2 w',Hid (w'.ownsRow w.heap.size 3 1 (M d l.length c2) l.length (cellsI l))->Below w.heap.size w w'->r (a.put o.dst (M d l.length c2)) w'):
  if Region.wanted o (yielded ops a.tmps)=I then Oper.wp Tryz.prog o a w r Q else E:=by
 obtain⟨J,L,F,A0,D⟩:=Gc zE;refine vJ k s x 47 y 3 J (H G 0) 1 8 Tryz.underlying47 L F A0 D rfl (by decide) z i l.length c (cellsI l) hx (sF l) ?_ ?_ CG m X ?_
 .intro C;rcases q with h|⟨b,p,R,_⟩
  .rw[h];rfl
  .rw[C]at R;cases R
 .intro ad C j u B;rcases q with h|⟨b,p,R,A1,hc⟩
  .rw[h]at B;simp[cellsI]at B
  .rw[C]at R;cases R;rw[qd];exact SegI.news hc j u B
 .intro v' w' A hb;obtain⟨d,c2,rfl,_,_⟩:=SegI.of_owns A;exact h d c2 w' A hb
theorem pL(v:E)(t:Tx)(w:K)(h:IsTx w v t)(r1:t.info.length*24<=140737488355328)(r2:t.data.length*24<=140737488355328)(r3:t.rev.length*8<=140737488355328):
  Calls Tryz.prog 132 #[v] w λe w'=>∃m d r,e=N (F #[H G t.seq,m,d,r,Y t.h0.on,H G t.h0.left,Y t.h1.on,H G t.h1.left,Y t.h2.on,H G t.h2.left])/\OwnR w' w.heap.size ⟨m,d,r,t⟩/\Below w.heap.size w w':=by
 obtain⟨a,c,s,c',b,d,rfl,B0,B1,U,n1,n2,n⟩:=h;have j:=zA B0;have HD:=zA B1;have HR:=zA U;clear B0 B1 U;go_enter Tryz.func132,Tryz.ntmps132;go_wp2
 go_region_law (first
  |(refine nP rfl _ (.tmp 4) rfl (by simp[Act.eval,Act.put]) a c t.info (by simp[Act.eval,Act.put]) (j.o.below (vA (qA _ _) (qA _ _)).drew) n1 r1 ?_;intro Q c2 X A6 A;have A5:w.heap.size+1<X.heap.size:=(by have:=A.size;simp at this;omega);have A2:w.heap.size<X.heap.size:=(by omega);have I:=(vA ((Ub _ _).drew) A);obtain⟨⟨x0,x1,x2,l,x4,x5,x6,x7,x8,x9⟩,Z⟩:=BA (sB I))
  |(refine nP rfl _ (.tmp 7) rfl (by simp[Act.eval,Act.put]) s c' t.data (by simp[Act.eval,Act.put]) (HD.o.below (vA (vA (qA _ _) (qA _ _)).drew A)) n2 r2 ?_;intro S c3 R A7 C;have A3:w.heap.size+1<R.heap.size:=(by have:=C.size;omega);have A1:w.heap.size<R.heap.size:=(by omega);have A9:=vA I C;obtain⟨⟨z0,u,z2,z3,p,z5,z6,z7,z8,z9⟩,df⟩:=BA (sB A9))
  |(refine Lb rfl _ (.tmp 10) rfl (by simp[Act.eval]) b d t.rev (by simp[Act.eval,Act.put]) (HR.o.below (vA (vA (vA (qA _ _) (qA _ _)).drew A) C)) n r3 ?_;intro O c4 L A8 B;have A4:w.heap.size+1<L.heap.size:=(by have:=B.size;omega);have A0:w.heap.size<L.heap.size:=(by omega);have D:=vA A9 B;obtain⟨⟨u0,u1,u2,u3,u4,u5,u6,u7,u8,u9⟩,gf⟩:=BA (sB D)))
 all_goals
  obtain⟨⟨y0,y1,y2,q,y4,y5,y6,i,y,y9⟩,ff⟩:=BA (JB D);have HK:=zA D
  have B2:Hid (∀k,(M Q t.info.length c2).ownBlock=J k->w.heap.size+2<=k):=λk e=>by have:=(A6.o.lt k e).1;first|omega|(simp at this;omega)
  have N3:Hid (∀k,(M S t.data.length c3).ownBlock=J k->w.heap.size+2<=k):=λk e=>by have:=(A7.o.lt k e).1;first|omega|(simp at this;omega)
  have N4:Hid (∀k,(M O t.rev.length c4).ownBlock=J k->w.heap.size+2<=k):=λk e=>by have:=(A8.o.lt k e).1;first|omega|(simp at this;omega)
  have T2:=zA (qB (dA A6.o (vA C B)) (show w.heap.size<=_ by simp;omega));have x:=zA (qB (dA A7.o B) (show w.heap.size<=_ by omega));have z:=zA (qB A8.o (show w.heap.size<=_ by omega));clear A C B I A9 D A6 A7 A8 x0 x1 x2 l x4 x5 x6 x7 x8 x9 z0 u z2 z3 p z5 z6 z7 z8 z9 Z df;go_wp2;refine Tb (v:=F #[H G t.seq,M Q t.info.length c2,M S t.data.length c3,M O t.rev.length c4,Y t.h0.on,H G t.h0.left,Y t.h1.on,H G t.h1.left,Y t.h2.on,H G t.h2.left]) (by simp[results,Tryz.results132,go_sem,y0,y1,y2,q,y4,y5,y6,i,y,y9]) rfl ⟨_,_,_,rfl,⟨?_,?_,?_⟩,?_⟩
  .repeat refine gC ?_ (λk e=>by have:=B2.o k e;simp;omega) _
   exact T2.o
  .repeat refine gC ?_ (λk e=>by have:=N3.o k e;simp;omega) _
   exact x.o
  .repeat refine gC ?_ (λk e=>by have:=N4.o k e;simp;omega) _
   exact z.o
  .have hB:Below w.heap.size w L:=vA (vA (qA _ _) (qA _ _)) HK.o
   repeat refine Zb ?_ (by simp) _
   exact hB
