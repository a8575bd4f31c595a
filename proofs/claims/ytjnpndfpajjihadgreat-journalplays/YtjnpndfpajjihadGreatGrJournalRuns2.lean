import Derived.Test.YtjnpndfpajjihadGreatGrJournalRuns0
import Derived.Deep.RegionLaw
namespace Go.Proofs.YtjnpndfpajjihadGreat
open Go.Proofs.Tryz
open Go.RowKit
open Value renaming int -> H,slice -> M,bool -> Y,agg -> F
open IntKind renaming i64 -> G
open Option renaming none -> Z,some -> J
open Bool renaming false -> O,true -> I
open Go renaming World -> K,Value -> E
variable{Q:Exit->Act->World->Prop}{a:Act}{b off:Nat}{l:List (Int×Bool)}{o:Oper}{ops:Array Oper}{p:Addr}{w:World}
theorem iG(w:K)(t D e:TypeId)(i:TypeInfo)(c:Nat)(B:prog.underlying t=J (.slice e))(L:prog.info? e=J i):
  (Builtin.append_ #[t,t] D #[M Z 0 0,M Z 0 c]).run prog w=.ok (M Z 0 0) w:=by
 simp[Builtin.append_,run_underlying B,sizeOf,typeInfo,L,Builtin.lenOf,Builtin.firstCells]
theorem vJ{A4:Act->K->Prop}{A5:Prop}(A0:o.guard=Z)(s x:Operand)(t:TypeId)
  (ho:o.op=.call {callee:=.builtin .append,args:=#[s,x],argTypes:=#[t,t]})
  (e:TypeId) (i:TypeInfo) (z:E) (size bytes:Nat) (ht:prog.underlying t=J (.slice e)) (hi:prog.info? e=J i) (hz:i.zero=J z)
  (d:i.size=size) (A2:i.bytes=bytes) (A3:z.cells.size=size) (A1:0<size)
  (hs:a.eval s=M Z 0 0) (q:Option Addr) (m c:Nat) (news:List E) (hx:a.eval x=M q m c) (hl:news.length=m*size) (y:q=Z->m=0)
  (r:∀R,q=J R->∀j u,news[j]?=J u->w.cell? (R.add j)=J u) (h1:∀u∈news,u.oneCell'=I)
  (A6:m<=maxLen) (X:m*bytes<=140737488355328)
  (h:∀n L,L.ownsRow w.heap.size e size n m news->Below w.heap.size w L->A4 (a.put o.dst n) L):
  if Region.wanted o (yielded ops a.tmps)=I then Oper.wp prog o a w A4 Q else A5:=by
 have B:Region.wanted o (yielded ops a.tmps)=I:=by simp[Region.wanted,A0]
 rw[Rb B]
 cases q with
 |none=>
  obtain rfl:=y rfl;obtain rfl:news=[]:=Tc (by simpa using hl);have hrun:=iG w t o.type e i c ht hi;unfold Oper.wp;simp[execOp,ho,resolve,invoke,builtin,hs,hx,hrun,Result.andThen];exact h _ _ (Kc w _ e size) (Ub _ _)
 |some R=>
  obtain⟨n,L,hrun,D,A,_⟩:=bf (P:=prog) w w.heap.size t o.type e i z size bytes ht hi hz d A2 A3 A1 (M Z 0 0) 0 [] (Kc w _ e size) R m c news hl (r R rfl) h1 (by omega) (by rw[Dc];exact X) (Sb _);unfold Oper.wp;simp[execOp,ho,resolve,invoke,builtin,hs,hx,hrun,Result.andThen];refine h n L (by simpa using D) ?_;exact(Ub _ _).grown A (Sb _) (by intro k C;simp[Value.ownBlock]at C)
theorem CJ{A3:Act->K->Prop}{A4:Prop}(r:o.guard=Z)(s x:Operand)(t:TypeId)
  (ho:o.op=.call {callee:=.builtin .append,args:=#[s,x],argTypes:=#[t,t]})
  (e:TypeId) (i:TypeInfo) (z:E) (size bytes:Nat) (ht:prog.underlying t=J (.slice e)) (hi:prog.info? e=J i) (hz:i.zero=J z)
  (R:i.size=size) (A1:i.bytes=bytes) (A2:z.cells.size=size) (y:0<size)
  (base:Nat) (v:E) (n:Nat) (q:List E) (hs:a.eval s=v) (k:w.ownsRow base e size v n q) (m:Addr) (news:List E) (hx:a.eval x=M (J m) 1 1) (hl:news.length=1*size)
  (d:∀j u,news[j]?=J u->w.cell? (m.add j)=J u) (h1:∀u∈news,u.oneCell'=I)
  (A5:n<=1000) (L:bytes<=64) (c:base<=w.heap.size)
  (h:∀X D,D.ownsRow base e size X (n+1) (q++news)->w.grownBy D v.ownBlock->A3 (a.put o.dst X) D):
  if Region.wanted o (yielded ops a.tmps)=I then Oper.wp prog o a w A3 Q else A4:=by
 have B:Region.wanted o (yielded ops a.tmps)=I:=by simp[Region.wanted,r]
 rw[Rb B];have A0:(n+1)*bytes<=1001*64:=Nat.mul_le_mul (by omega) L;obtain⟨X,D,hrun,C,A,_⟩:=bf (P:=prog) w base t o.type e i z size bytes ht hi hz R A1 A2 y v n q k m 1 1 news hl d h1 (by unfold maxLen;omega) (by omega) c;unfold Oper.wp;simp[execOp,ho,resolve,invoke,builtin,hs,hx,hrun,Result.andThen];exact h X D C A
theorem SegI.setNe{a:Option Addr}{l:List Int}(h:SegI w a l)(hb:∀b off,a=J ⟨b,off,Z⟩->b≠p.block)(u:E):SegI (w.setCell p u) a l:=by
 rcases h with h|⟨b,off,rfl,B,D⟩
 .exact .inl h
 .have:=hb b off rfl;exact .inr ⟨b,off,rfl,by simpa[World.setCell] using B,λi L=>lC (D i L) this⟩
theorem SegI.news{l:List Int}(D:∀i,i<l.length->w.cell? ⟨b,off+i,Z⟩=J (H G (l.getD i 0)))(j:Nat)(u:E)(B:(cellsI l)[j]?=J u):w.cell? ⟨b,off+j,Z⟩=J u:=by
 have A:j<l.length:=by
  have:=(gd.1 B).1;rw[sF]at this;omega
 rw[dH l j A]at B;cases B;exact D j A
theorem SegT.setNe{a:Option Addr}(h:SegT w a l)(hb:∀b off,a=J ⟨b,off,Z⟩->b≠p.block)(u:E):SegT (w.setCell p u) a l:=by
 rcases h with h|⟨b,off,rfl,B,D⟩
 .exact .inl h
 .have:=hb b off rfl;exact .inr ⟨b,off,rfl,by simpa[World.setCell] using B,λi L=>⟨lC (D i L).1 this,lC (D i L).2 this⟩⟩
def AB:List (Int×Bool)->List E
 |[]=>[]
 |x::r=>H G x.1:: Y x.2::AB r
theorem YI(l:List (Int×Bool)):(AB l).length=l.length*2:=by
 induction l with
 |nil=>rfl
 |cons x r ih=>simp[AB,ih];omega
theorem RU(l r:List (Int×Bool)):AB (l++r)=AB l++AB r:=by
 induction l with
 |nil=>rfl
 |cons x r ih=>simp[AB,ih]
theorem SF(l:List (Int×Bool))(i:Nat)(h:i<l.length):(AB l)[i*2]?=J (H G (l.getD i (0,O)).1)/\(AB l)[i*2+1]?=J (Y (l.getD i (0,O)).2):=by
 induction l generalizing i with
 |nil=>simp at h
 |cons x r ih=>
  cases i with
  |zero=>exact⟨rfl,rfl⟩
  |succ i=>
   have A:(i+1)*2=i*2+1+1:=by omega
   have e2:(i+1)*2+1=i*2+1+1+1:=by omega
   rw[AB,A,fe,fe,fe,fe]
   simpa using ih i (by simpa using h)
theorem SegT.of_owns{base n:Nat}{v:E}(h:w.ownsRow base 123 2 v n (AB l)):∃a c,v=M a l.length c/\SegT w a l/\∀b off,a=J ⟨b,off,Z⟩->base<=b:=by
 have A:l.length=n:=by have:=h.1;rw[YI]at this;omega
 subst A;rcases h.2 with⟨rfl,B⟩|⟨g,cap,A0,rfl,hb,D,rest⟩
 .exact⟨Z,0,by rw[B],.inl (Tc B),λ_ _ h=>by cases h⟩
 .refine⟨_,cap,rfl,.inr ⟨g,0,rfl,(Wb.1 D).1,λi L=>?_⟩,λ_ _ h=>by cases h;exact hb⟩;have e:=SF l i L;rw[Dc,h.cellAt (i*2) (by omega),h.cellAt (i*2+1) (by omega)];exact e
theorem DO:(Tryz.prog.info? 123).map (λi=>(i.zero,i.size,i.bytes))=J (J (F #[H G 0,Y O]),2,16):=by kernel_rfl
theorem SegT.news(L:∀i,i<l.length->w.cell? ⟨b,off+i*2,Z⟩=J (H G (l.getD i (0,O)).1)/\w.cell? ⟨b,off+i*2+1,Z⟩=J (Y (l.getD i (0,O)).2))(j:Nat)(u:E)(D:(AB l)[j]?=J u):w.cell? ⟨b,off+j,Z⟩=J u:=by
 have A0:j<l.length*2:=by
  have:=(gd.1 D).1;rw[YI]at this;omega
 obtain⟨i,hi⟩:∃i,i=j/2:=⟨_,rfl⟩;have B:i<l.length:=by omega
 have e:=SF l i B;have g:=L i B;by_cases h0:j%2=0
 .have A:j=i*2:=by omega
  rw[A]at D|-;rw[e.1]at D;cases D;exact g.1
 .have A:j=i*2+1:=by omega
  rw[A]at D|-;rw[e.2]at D;cases D;have:off+(i*2+1)=off+i*2+1:=by omega
  rw[this];exact g.2
theorem jZ{w':K}{o B:Obj}(hb:Below ((w.alloc o).alloc B).heap.size ((w.alloc o).alloc B) w'):w'.heap[w.heap.size+1]?=J B:=by
 have:=Cc (w.alloc o) B;simp at this;exact(hb.block _ (by simp)).trans (by simpa using this)
