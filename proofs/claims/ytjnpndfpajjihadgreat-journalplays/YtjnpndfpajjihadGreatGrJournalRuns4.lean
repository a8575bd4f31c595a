import Derived.Test.YtjnpndfpajjihadGreatGrJournalRuns3
import Derived.RangeFuncBox
import Derived.RangeFuncLeaves
import Derived.Deep.DeepAppendWide
set_option maxRecDepth 100000
set_option maxHeartbeats 40000000
namespace Go.Proofs.YtjnpndfpajjihadGreat
open Go.Proofs.Tryz
open Go.RowKit
open Value renaming int -> H,slice -> M,pointer -> C,string -> A,bool -> Y,agg -> F
open IntKind renaming i64 -> G
open Option renaming none -> Z,some -> J
open Bool renaming false -> O,true -> I
open Go renaming World -> K,Value -> E
open Obj renaming cells -> T
open Ending renaming returned -> N
open _root_.ByteArray renaming empty -> U
variable{B Bp Bs b base k n o:Nat}{Q:Exit->Act->World->Prop}{X:List Nat}{a:Option Addr}{d:Dk}{l:List Int}{ops:Array Oper}{t:TypeId}{v:Value}{w w' w1 w2:World}{xs:List Value}
def St:Type:=Int×Int×ByteArray
def st0:St:=(0,0,U)
def AA (p:Int)(s:ByteArray):St:=(1,p,s)
def flushS:St:=(2,0,⟨#[]⟩)
def cellsSt:List St->List E
 |[]=>[]
 |x::r=>H G x.1:: H G x.2.1:: A x.2.2::cellsSt r
theorem kV(l:List St):(cellsSt l).length=l.length*3:=by
 induction l with
 |nil=>rfl
 |cons x r ih=>simp[cellsSt,ih];omega
theorem iK(l r:List St):cellsSt (l++r)=cellsSt l++cellsSt r:=by
 induction l with
 |nil=>rfl
 |cons x r ih=>simp[cellsSt,ih]
theorem ML(l:List St):∀u∈cellsSt l,u.oneCell'=I:=by
 induction l with
 |nil=>intro u A;simp[cellsSt]at A
 |cons x r ih=>
  intro u A;simp only[cellsSt,List.mem_cons]at A;rcases A with rfl|rfl|rfl|A
  .rfl
  .rfl
  .rfl
  .exact ih u A
theorem wX(l:List St)(i:Nat)(h:i<l.length):(cellsSt l)[i*3]?=J (H G (l.getD i st0).1)/\(cellsSt l)[i*3+1]?=J (H G (l.getD i st0).2.1)/\(cellsSt l)[i*3+2]?=J (A (l.getD i st0).2.2):=by
 induction l generalizing i with
 |nil=>simp at h
 |cons x r ih=>
  cases i with
  |zero=>exact⟨rfl,rfl,rfl⟩
  |succ i=>
   have D:(i+1)*3=i*3+1+1+1:=by omega
   rw[cellsSt,D]
   simpa using ih i (by simpa using h)
def SegSt (w:K)(a:Option Addr)(l:List St):Prop:=
 l=[]\/∃b D,a=J ⟨b,D,Z⟩/\b<w.heap.size/\∀i,i<l.length->
  w.cell? ⟨b,D+i*3,Z⟩=J (H G (l.getD i st0).1)/\w.cell? ⟨b,D+i*3+1,Z⟩=J (H G (l.getD i st0).2.1)/\w.cell? ⟨b,D+i*3+2,Z⟩=J (A (l.getD i st0).2.2)
theorem SegSt.below{l:List St}(h:SegSt w a l)(hb:Below w.heap.size w w'):SegSt w' a l:=by
 rcases h with h|⟨b,c,rfl,D,L⟩
 .exact .inl h
 .exact .inr ⟨b,c,rfl,Xb D hb.size,λi R=>⟨xA hb D (L i R).1,xA hb D (L i R).2.1,xA hb D (L i R).2.2⟩⟩
theorem SegSt.of_owns{l:List St}(h:w.ownsRow base 108 3 v n (cellsSt l)):∃a c,v=M a l.length c/\SegSt w a l/\∀b D,a=J ⟨b,D,Z⟩->base<=b:=by
 have A:l.length=n:=by have:=h.1;rw[kV]at this;omega
 subst A;rcases h.2 with⟨rfl,L⟩|⟨g,cap,A0,rfl,hb,R,rest⟩
 .exact⟨Z,0,by rw[L],.inl (Tc L),λ_ _ h=>by cases h⟩
 .refine⟨_,cap,rfl,.inr ⟨g,0,rfl,(Wb.1 R).1,λi m=>?_⟩,λ_ _ h=>by cases h;exact hb⟩;have e:=wX l i m;rw[Dc,h.cellAt (i*3) (by omega),h.cellAt (i*3+1) (by omega),h.cellAt (i*3+2) (by omega)];exact e
theorem OG{e:TypeId}{size:Nat}(h:w.ownsRow base e size v n xs){c:Nat}(D:v=M a k c):k<=c:=by
 rcases h.2 with⟨rfl,_⟩|⟨g,cap,A0,rfl,_,_,L,_⟩
 .cases D;exact Sb _
 .cases D;exact L
theorem rK:(prog.info? 108).map (λi=>(i.zero,i.size,i.bytes))=J (J (F #[H G 0,H G 0,A ⟨#[]⟩]),3,32):=by kernel_rfl
theorem uQ{x:St}(h0:w.cell? ⟨b,0,Z⟩=J (H G x.1))(h1:w.cell? ⟨b,1,Z⟩=J (H G x.2.1))(h2:w.cell? ⟨b,2,Z⟩=J (A x.2.2)):
  ∀j u,(cellsSt [x])[j]?=J u->w.cell? (Addr.add ⟨b,0,Z⟩ j)=J u:=by
 intro j u D;rw[qd,Dc]
 match j,D with
 |0,D=>simp[cellsSt]at D;subst D;exact h0
 |1,D=>simp[cellsSt]at D;subst D;exact h1
 |2,D=>simp[cellsSt]at D;subst D;exact h2
 |j+3,D=>simp[cellsSt]at D
def LD (w:K)(base:Nat)(v:E)(l:List St):Prop:=w.ownsRow base 108 3 v l.length (cellsSt l)
theorem dE{rest:List Oper}{o:Oper}{a:Act}(e:o.guard=Z)(s x:Operand)
  (i:o.op=.call {callee:=.builtin .append,args:=#[s,x],argTypes:=#[55,55]})
  (base:Nat) (v:E) (l:List St) (m:a.eval s=v) (c:w.ownsRow base 108 3 v l.length (cellsSt l)) (b:Nat) (y:St) (p:a.eval x=M (J ⟨b,0,Z⟩) 1 1)
  (h0:w.cell? ⟨b,0,Z⟩=J (H G y.1)) (h1:w.cell? ⟨b,1,Z⟩=J (H G y.2.1)) (h2:w.cell? ⟨b,2,Z⟩=J (A y.2.2)) (A0:l.length*24<=140737488380000) (R:base<=w.heap.size)
  (h:∀L w',LD w' base L (l++[y])->w.grownBy w' v.ownBlock->wpList prog ops Q rest (a.put o.dst L) w'):wpList prog ops Q (o::rest) a w:=by
 obtain⟨D,I,B,C,q⟩:=Gc rK;refine wpList_append_own_wide w e s x 55 i base 108 D (F #[H G 0,H G 0,A ⟨#[]⟩]) 3 32 underlying55 I B C q rfl (by decide) v l.length (cellsSt l) m c ⟨b,0,Z⟩ 1 1 (cellsSt [y]) p rfl (uQ h0 h1 h2) (ML _) (by unfold maxLen;omega) (by omega) R ?_;intro L w' r u _;refine h L w' ?_ u;rw[LD,iK,Yb];exact r
theorem WK{o:Oper}{a:Act}{m:Act->K->Prop}{A1:Prop}(e:o.guard=Z)(s x:Operand)
  (p:o.op=.call {callee:=.builtin .append,args:=#[s,x],argTypes:=#[55,55]})
  (base:Nat) (v:E) (l:List St) (q:a.eval s=v) (c:w.ownsRow base 108 3 v l.length (cellsSt l)) (b:Nat) (y:St) (r:a.eval x=M (J ⟨b,0,Z⟩) 1 1)
  (h0:w.cell? ⟨b,0,Z⟩=J (H G y.1)) (h1:w.cell? ⟨b,1,Z⟩=J (H G y.2.1)) (h2:w.cell? ⟨b,2,Z⟩=J (A y.2.2)) (i:l.length<=1000) (R:base<=w.heap.size)
  (h:∀L w',LD w' base L (l++[y])->w.grownBy w' v.ownBlock->m (a.put o.dst L) w'):if Region.wanted o (yielded ops a.tmps)=I then Oper.wp prog o a w m Q else A1:=by
 obtain⟨D,u,B,C,A0⟩:=Gc rK;refine CJ e s x 55 p 108 D (F #[H G 0,H G 0,A ⟨#[]⟩]) 3 32 underlying55 u B C A0 rfl (by decide) base v l.length (cellsSt l) q c ⟨b,0,Z⟩ (cellsSt [y]) r rfl (uQ h0 h1 h2) (ML _) i (by omega) R ?_;intro L w' A2 z;refine h L w' ?_ z;rw[LD,iK,Yb];exact A2
structure Fr (Bs Bp base:Nat)(w w':World):Prop where
 os:w'.os=w.os
 tape:w'.tape=w.tape
 output:w'.output=w.output
 size:w.heap.size<=w'.heap.size
 low:∀k,k<base->k≠Bp->k≠Bs->w'.heap[k]?=w.heap[k]?
 box:∀k o,w.heap[k]?=some o->(∀cs fr,o≠.cells cs 108 fr)->k≠Bs->k≠Bp->w'.heap[k]?=some o
theorem Fr.of_below(hb:Below w.heap.size w w')(A0:base<=w.heap.size):Fr Bs Bp base w w':=
 ⟨hb.os,hb.tape,hb.output,hb.size,λk hk _ _=>hb.block k (by omega),λk o D _ _ _=>(hb.block k (Wb.1 D).1).trans D⟩
theorem Fr.trans(h:Fr Bs Bp base w w1)(k:Fr Bs Bp base w1 w2):Fr Bs Bp base w w2:=
 ⟨k.os.trans h.os,k.tape.trans h.tape,k.output.trans h.output,ac h.size k.size,λj R D L=>(k.low j R D L).trans (h.low j R D L),λj o e c D L=>k.box j o (h.box j o e c D L) c D L⟩
theorem Fr.grown(L:w.ownsRow base 108 3 v n xs)(D:w.grownBy w' v.ownBlock)(A0:base<=w.heap.size):Fr Bs Bp base w w':=by
 have B:∀k,k<base->J k≠v.ownBlock:=by
  intro k A e;have:=L.lt k e.symm;omega
 refine⟨D.os,D.tape,D.output,D.size,λk A _ _=>D.block k (by omega) (B k A),λk o R h _ _=>(D.block k (Wb.1 R).1 ?_).trans R⟩;intro e;rcases L.2 with⟨rfl,_⟩|⟨g,cap,A1,rfl,hb,c,_⟩
 .simp[Value.ownBlock]at e
 .simp[Value.ownBlock]at e;subst e;rw[c]at R;simp only[Option.some.injEq]at R;exact h _ _ R.symm
theorem Fr.setS(w:K)(u:E):Fr Bs Bp base w (w.setCell ⟨Bs,0,Z⟩ u):=
 ⟨rfl,rfl,rfl,by simp[World.setCell],λk _ _ h=>Sc _ _ _ _ h,λk o D _ h _=>(Sc _ _ _ _ h).trans D⟩
theorem Fr.setP(w:K)(u:E):Fr Bs Bp base w (w.setCell ⟨Bp,0,Z⟩ u):=
 ⟨rfl,rfl,rfl,by simp[World.setCell],λk _ h _=>Sc _ _ _ _ h,λk o D _ _ h=>(Sc _ _ _ _ h).trans D⟩
theorem Fr.below(h:Fr Bs Bp base w w')(h1:n<=base)(h2:n<=Bp)(h3:n<=Bs):Below n w w':=
 ⟨h.os,h.tape,h.output,h.size,λk hk=>h.low k (by omega) (by omega) (by omega)⟩
theorem Fr.boxed(h:Fr Bs Bp base w w')(hb:Boxed w B t v)(D:t≠108)(h1:B≠Bs)(h2:B≠Bp):Boxed w' B t v:=
 h.box B _ hb (λcs fr e=>by simp only[Obj.cells.injEq]at e;exact D e.2.1) h1 h2
theorem Fr.others(h:Fr Bs Bp base w w')(h1:∃t v,Boxed w Bs t v)(h2:∃t v,Boxed w Bp t v):KeepsOthers w w':=by
 obtain⟨t1,v1,B⟩:=h1;obtain⟨t2,v2,A⟩:=h2;refine⟨h.size,λk o D L=>h.box k o D (λcs fr e=>by rw[e]at L;cases L) ?_ ?_⟩
 .intro e;subst e;rw[B]at D;cases D;cases L
 .intro e;subst e;rw[A]at D;cases D;cases L
def StepsAt (w:K)(base Bs:Nat)(l:List St):Prop:=∃v,Boxed w Bs 55 v/\w.ownsRow base 108 3 v l.length (cellsSt l)
def PlacesAt (w:K)(base Bp:Nat)(l:List Int):Prop:=
 ∃a c,Boxed w Bp 47 (M a l.length c)/\SegI w a l/\(∀b D,a=J ⟨b,D,Z⟩->b<base/\b≠Bp)/\l.length<=c/\(a=Z->l=[])
theorem StepsAt.below{l:List St}(h:StepsAt w base Bs l)(hb:Below w.heap.size w w'):StepsAt w' base Bs l:=by
 obtain⟨v,A,B⟩:=h;exact⟨v,yA hb A.lt A,dA B hb⟩
theorem PlacesAt.below(h:PlacesAt w base Bp l)(hb:Below w.heap.size w w'):PlacesAt w' base Bp l:=by
 obtain⟨a,c,A,C,B⟩:=h;exact⟨a,c,yA hb A.lt A,C.below hb,B⟩
theorem StepsAt.boxed{l:List St}(h:StepsAt w base Bs l):∃t v,Boxed w Bs t v:=by obtain⟨v,h,_⟩:=h;exact⟨_,v,h⟩
theorem PlacesAt.boxed(h:PlacesAt w base Bp l):∃t v,Boxed w Bp t v:=by obtain⟨a,c,h,_⟩:=h;exact⟨_,_,h⟩
theorem SegI.low(h:SegI w a l)(L:Fr Bs Bp base w w')(hb:∀b D,a=J ⟨b,D,Z⟩->b<base/\b≠Bp)(hs:base<=Bs):SegI w' a l:=by
 rcases h with h|⟨b,D,rfl,R,c⟩
 .exact .inl h
 .obtain⟨A,B⟩:=hb b D rfl;refine .inr ⟨b,D,rfl,Xb R L.size,λi e=>?_⟩;exact(Cd (w:=w) (a:=⟨b,D+i,Z⟩) (L.low b A B (by omega))).trans (c i e)
structure Ext (w w':World):Prop where
 size:w.heap.size<=w'.heap.size
 cell:∀b o v,w.cell? ⟨b,o,none⟩=some v->w'.cell? ⟨b,o,none⟩=some v
theorem Ext.refl(w:K):Ext w w:=⟨Sb _,λ_ _ _ h=>h⟩
theorem Ext.trans{a b c:K}(h:Ext a b)(k:Ext b c):Ext a c:=⟨ac h.size k.size,λx o v D=>k.cell x o v (h.cell x o v D)⟩
theorem DG(h:w.cell? ⟨b,o,Z⟩=J v):b<w.heap.size:=by
 unfold World.cell? at h;split at h
 .rename_i c t f A;exact(Wb.1 A).1
 .cases h
theorem Ext.of_below(h:Below w.heap.size w w'):Ext w w':=⟨h.size,λ_ _ _ D=>xA h (DG D) D⟩
theorem SegS.ext{l:List ByteArray}(h:SegS w a l)(e:Ext w w'):SegS w' a l:=by
 rcases h with h|⟨b,L,rfl,D,R⟩
 .exact .inl h
 .exact .inr ⟨b,L,rfl,Xb D e.size,λi c=>e.cell _ _ _ (R i c)⟩
theorem SegW.ext{l:List (Int×ByteArray)}(h:SegW w a l)(e:Ext w w'):SegW w' a l:=by
 rcases h with h|⟨b,L,rfl,D,R⟩
 .exact .inl h
 .exact .inr ⟨b,L,rfl,Xb D e.size,λi c=>⟨e.cell _ _ _ (R i c).1,e.cell _ _ _ (R i c).2⟩⟩
theorem SegI.ext(h:SegI w a l)(e:Ext w w'):SegI w' a l:=by
 rcases h with h|⟨b,L,rfl,D,R⟩
 .exact .inl h
 .exact .inr ⟨b,L,rfl,Xb D e.size,λi c=>e.cell _ _ _ (R i c)⟩
theorem SegSt.ext{l:List St}(h:SegSt w a l)(e:Ext w w'):SegSt w' a l:=by
 rcases h with h|⟨b,c,rfl,R,D⟩
 .exact .inl h
 .exact .inr ⟨b,c,rfl,Xb R e.size,λi L=>⟨e.cell _ _ _ (D i L).1,e.cell _ _ _ (D i L).2.1,e.cell _ _ _ (D i L).2.2⟩⟩
theorem IsDk.ext(h:IsDk w v d)(e:Ext w w'):IsDk w' v d:=by
 obtain⟨a,c,B,D,rfl,E,A,F,C⟩:=h;exact⟨a,c,B,D,rfl,E.ext e,A.ext e,F,C⟩
theorem IsTx.ext{t:Tx}(h:IsTx w v t)(e:Ext w w'):IsTx w' v t:=by
 obtain⟨a,c,B,D,r,d,rfl,E,A,F,C,I,J⟩:=h;exact⟨a,c,B,D,r,d,rfl,E.ext e,A.ext e,F.ext e,C,I,J⟩
theorem TxAt.ext{t:Tx}(h:TxAt w b o t)(e:Ext w w'):TxAt w' b o t:=by
 obtain⟨a,c,J,C,r,d,⟨D,M,B,E,K,O,F,N,A,I⟩,L⟩:=h;exact⟨a,c,J,C,r,d,⟨e.cell _ _ _ D,e.cell _ _ _ M,e.cell _ _ _ B,e.cell _ _ _ E,e.cell _ _ _ K,e.cell _ _ _ O,e.cell _ _ _ F,e.cell _ _ _ N,e.cell _ _ _ A,e.cell _ _ _ I⟩,L.ext e⟩
theorem SegTx.ext{l:List Tx}(h:SegTx w a l)(e:Ext w w'):SegTx w' a l:=by
 rcases h with h|⟨b,L,rfl,D,R⟩
 .exact .inl h
 .exact .inr ⟨b,L,rfl,Xb D e.size,λi c=>(R i c).ext e⟩
def UD (w:K)(B:Nat):K:=w.putObj B (.deferred Z)
theorem PF(w:K)(B:Nat):(UD w B).heap.size=w.heap.size:=by simp[UD,World.putObj]
theorem FI(w:K)(h:k≠B):(UD w B).heap[k]?=w.heap[k]?:=World.putObj_heap_other h
theorem II(h:(UD w B).cell? ⟨b,o,Z⟩=J v):b≠B/\w.cell? ⟨b,o,Z⟩=J v:=by
 have A:b≠B:=by
  intro e;subst e;have C:=DG h;rw[PF]at C;have D:(UD w b).heap[b]?=J (.deferred Z):=World.putObj_heap_same C;unfold World.cell? at h;rw[D]at h;cases h
 exact⟨A,by rw[<-Cd (w:=w) (a:=⟨b,o,Z⟩) (FI w A)];exact h⟩
theorem Ext.seen(w:K)(B:Nat):Ext (UD w B) w:=⟨by rw[PF];exact Sb _,λ_ _ _ h=>(II h).2⟩
theorem Ext.but(h:But B w.heap.size w w'):Ext (UD w B) (UD w' B):=by
 refine⟨by rw[PF,PF];exact h.size,λb o v D=>?_⟩;obtain⟨A,C⟩:=II D;have:=h.cell (DG C) A C;rw[Cd (w:=w') (a:=⟨b,o,Z⟩) (FI w' A)];exact this
theorem Ext.set(w:K)(B k:Nat)(u:E):Ext (UD w B) (UD (w.setCell ⟨B,k,Z⟩ u) B):=by
 refine⟨by rw[PF,PF];simp[World.setCell],λb o v D=>?_⟩;obtain⟨A,C⟩:=II D;rw[Cd (w:=w.setCell ⟨B,k,Z⟩ u) (a:=⟨b,o,Z⟩) (FI _ A)];exact lC C (by simpa using A)
def aA (w:K):List Nat->K
 |[]=>w
 |b::X=>UD (aA w X) b
theorem tC(w:K)(X:List Nat):(aA w X).heap.size=w.heap.size:=by
 induction X with
 |nil=>rfl
 |cons b X ih=>rw[aA,PF,ih]
theorem qC(h:(aA w X).cell? ⟨b,o,Z⟩=J v):b∉X/\w.cell? ⟨b,o,Z⟩=J v:=by
 induction X with
 |nil=>exact⟨by simp,h⟩
 |cons x X ih=>
  obtain⟨A,B⟩:=II h;obtain⟨D,C⟩:=ih B;exact⟨by simp[A,D],C⟩
theorem VQ(h:b∉X):(aA w X).heap[b]?=w.heap[b]?:=by
 induction X with
 |nil=>rfl
 |cons x X ih=>
  simp only[List.mem_cons,not_or]at h;rw[aA,FI _ h.1,ih h.2]
theorem oC(h:b∉X)(D:w.cell? ⟨b,o,Z⟩=J v):(aA w X).cell? ⟨b,o,Z⟩=J v:=
 (Cd (VQ h)).trans D
theorem Ext.seenL(w:K)(X:List Nat):Ext (aA w X) w:=⟨by rw[tC];exact Sb _,λ_ _ _ h=>(qC h).2⟩
structure ButL (X:List Nat)(base:Nat)(w w':World):Prop where
 os:w'.os=w.os
 tape:w'.tape=w.tape
 output:w'.output=w.output
 size:w.heap.size<=w'.heap.size
 block:∀k,k<base->k∉X->w'.heap[k]?=w.heap[k]?
theorem ButL.refl(X:List Nat)(n:Nat)(w:K):ButL X n w w:=⟨rfl,rfl,rfl,Sb _,λ_ _ _=>rfl⟩
theorem ButL.of_below(h:Below base w w'):ButL X base w w':=⟨h.os,h.tape,h.output,h.size,λk D _=>h.block k D⟩
theorem ButL.trans{Y:List Nat}{D:Nat}(h:ButL X base w w1)(k:ButL Y D w1 w2)(hb:base<=D)(e:∀y∈Y,y∈X\/base<=y):ButL X base w w2:=
 ⟨k.os.trans h.os,k.tape.trans h.tape,k.output.trans h.output,ac h.size k.size,λj R L=>(k.block j (by omega) (λc=>by rcases e j c with h1|h1;exact L h1;omega)).trans (h.block j R L)⟩
theorem ButL.set(h:ButL X base w w1)(hb:b∈X\/base<=b)(k:Nat)(u:E):ButL X base w (w1.setCell ⟨b,k,Z⟩ u):=
 ⟨h.os,h.tape,h.output,by simpa[World.setCell] using h.size,λj L D=>(Sc _ _ _ _ (by intro e;simp only at e;subst e;rcases hb with h1|h1;exact D h1;omega)).trans (h.block j L D)⟩
theorem ButL.wider{Y:List Nat}(h:ButL X base w w')(L:∀x∈X,x∈Y):ButL Y base w w':=⟨h.os,h.tape,h.output,h.size,λk D c=>h.block k D (λR=>c (L k R))⟩
theorem ButL.below(h:ButL [] base w w'):Below base w w':=⟨h.os,h.tape,h.output,h.size,λk D=>h.block k D (by simp)⟩
theorem ButL.cell(h:ButL X base w w')(hb:b<base)(L:b∉X)(D:w.cell? ⟨b,o,Z⟩=J v):w'.cell? ⟨b,o,Z⟩=J v:=
 (Cd (h.block b hb L)).trans D
theorem Ext.butL(h:ButL X w.heap.size w w'):Ext (aA w X) (aA w' X):=by
 refine⟨by rw[tC,tC];exact h.size,λb o v D=>?_⟩;obtain⟨B,A⟩:=qC D;exact oC B (h.cell (DG A) B A)
theorem Ext.freshL(h:Below w.heap.size w w'):Ext (aA w X) (aA w' X):=Ext.butL (ButL.of_below h)
theorem Ext.setL(hb:b∈X)(k:Nat)(u:E):Ext (aA w X) (aA (w.setCell ⟨b,k,Z⟩ u) X):=Ext.butL ((ButL.refl X _ w).set (.inl hb) k u)
theorem Ext.newL(h:Below w.heap.size w w')(hb:w.heap.size<=b):Ext (aA w X) (aA w' (b::X)):=by
 refine⟨by rw[tC,tC];exact h.size,λc o v D=>?_⟩;obtain⟨C,A⟩:=qC D;have B:=DG A;exact oC (by simp[C];omega) (xA h B A)
theorem Ext.lessL(b:Nat):Ext (aA w (b::X)) (aA w X):=Ext.seen _ b
def From (n:Nat)(a:Option Addr):Prop:=∀b D,a=J ⟨b,D,Z⟩->n<=b
theorem From.none(n:Nat):From n Z:=λ_ _ h=>by cases h
theorem From.mono{m:Nat}(h:From n a)(L:m<=n):From m a:=λb D e=>ac L (h b D e)
section
variable {w:World} {X:List Nat} {a:Option Addr} {n:Nat}
theorem jF(D:∀x∈X,x<n)(hb:n<=b):b∉X:=λh=>by have:=D b h;omega
theorem SegS.hideF{l:List ByteArray}(h:SegS w a l)(m:From n a)(R:∀x∈X,x<n):SegS (aA w X) a l:=by
 rcases h with h|⟨b,L,rfl,D,c⟩
 .exact .inl h
 .exact .inr ⟨b,L,rfl,by rw[tC];exact D,λi e=>oC (jF R (m _ _ rfl)) (c i e)⟩
theorem SegW.hideF{l:List (Int×ByteArray)}(h:SegW w a l)(m:From n a)(R:∀x∈X,x<n):SegW (aA w X) a l:=by
 rcases h with h|⟨b,L,rfl,D,c⟩
 .exact .inl h
 .exact .inr ⟨b,L,rfl,by rw[tC];exact D,λi e=>⟨oC (jF R (m _ _ rfl)) (c i e).1,oC (jF R (m _ _ rfl)) (c i e).2⟩⟩
theorem SegI.hideF(h:SegI w a l)(m:From n a)(R:∀x∈X,x<n):SegI (aA w X) a l:=by
 rcases h with h|⟨b,L,rfl,D,c⟩
 .exact .inl h
 .exact .inr ⟨b,L,rfl,by rw[tC];exact D,λi e=>oC (jF R (m _ _ rfl)) (c i e)⟩
theorem SegSt.hideF{l:List St}(h:SegSt w a l)(c:From n a)(D:∀x∈X,x<n):SegSt (aA w X) a l:=by
 rcases h with h|⟨b,m,rfl,e,L⟩
 .exact .inl h
 .exact .inr ⟨b,m,rfl,by rw[tC];exact e,λi R=>⟨oC (jF D (c _ _ rfl)) (L i R).1,oC (jF D (c _ _ rfl)) (L i R).2.1,oC (jF D (c _ _ rfl)) (L i R).2.2⟩⟩
theorem IsDk.hideF(h:IsDk w v d)(R:VC n v)(L:∀x∈X,x<n):IsDk (aA w X) v d:=by
 obtain⟨a,c,E,B,rfl,I,A,C,F⟩:=h;obtain⟨b,l,k,b',l',k',e,f1,D⟩:=R;simp only[Value.agg.injEq,Array.mk.injEq,List.cons.injEq,Value.slice.injEq,and_true]at e;obtain⟨⟨rfl,_,rfl⟩,rfl,_,rfl⟩:=e;exact⟨a,c,E,B,rfl,I.hideF f1 L,A.hideF D L,C,F⟩
theorem IsDk.asDisk{q:Dk}(h:IsDk (aA w X) v d)(h2:IsDk w v q):IsDk (aA w X) v q:=by
 obtain⟨a,c,M,I,rfl,J,L,s3,s4⟩:=h;obtain⟨b,k,b',k',e,F,D,E,K⟩:=h2;simp only[Value.agg.injEq,Array.mk.injEq,List.cons.injEq,Value.slice.injEq,and_true]at e;obtain⟨⟨rfl,B,rfl⟩,rfl,C,rfl⟩:=e;refine⟨a,c,M,I,by rw[B,C],?_,?_,E,K⟩
 .rcases F with t|⟨x,p,rfl,R,u⟩
  .exact .inl t
  .rcases J with s|⟨y,z,he,A0,m⟩
   .exact .inl (Tc (by rw[<-B,s];rfl))
   .cases he;by_cases h0:q.safe.length=0
    .exact .inl (Tc h0)
    .have A:=(qC (m 0 (by omega))).1;exact .inr ⟨x,p,rfl,by rw[tC];exact R,λi r=>oC A (u i r)⟩
 .rcases D with t|⟨x,p,rfl,R,u⟩
  .exact .inl t
  .rcases L with s|⟨y,z,he,A0,m⟩
   .exact .inl (Tc (by rw[<-C,s];rfl))
   .cases he;by_cases h0:q.wr.length=0
    .exact .inl (Tc h0)
    .have A:=(qC (m 0 (by omega)).1).1;exact .inr ⟨x,p,rfl,by rw[tC];exact R,λi r=>⟨oC A (u i r).1,oC A (u i r).2⟩⟩
end
open Go.Proofs.Tryz
structure Jn where
 acts:Int
 disk:Dk
 rh:Int
 ru:Int
 last:Int
 down:Bool
 role:Nat->Int
 freed:Nat->Int
 now:Tx
 sealed:Tx
 done:List Tx
 fL:List Tx
 fN:Int
 fP:Int
 work:Int
 steps:List St
theorem kA{D:Array E}(h:w.heap[B]?=J (T D t (0,0))):(∀k,w.cell? ⟨B,k,Z⟩=D[k]?)/\∀k,w.frozen? ⟨B,k,Z⟩=O:=
 ⟨λ_=>Hc w _ _ _ _ _ h,λ_=>jd w _ _ _ _ h⟩
structure Sl where
 da:Option Addr
 dc:Nat
 db:Option Addr
 dd:Nat
 na:Option Addr
 nc:Nat
 nb:Option Addr
 nd:Nat
 ne:Option Addr
 nf:Nat
 sa:Option Addr
 sc:Nat
 sb:Option Addr
 sd:Nat
 se:Option Addr
 sf:Nat
 ca:Option Addr
 cc:Nat
 fa:Option Addr
 fc:Nat
 ta:Option Addr
 tc:Nat
def dkR (j:Jn)(V:Sl):E:=F #[M V.da j.disk.safe.length V.dc,M V.db j.disk.wr.length V.dd]
def uB (j:Jn)(V:Sl):E:=F #[H G j.now.seq,M V.na j.now.info.length V.nc,M V.nb j.now.data.length V.nd,M V.ne j.now.rev.length V.nf,Y j.now.h0.on,H G j.now.h0.left,Y j.now.h1.on,H G j.now.h1.left,Y j.now.h2.on,H G j.now.h2.left]
def EK (j:Jn)(V:Sl):E:=F #[H G j.sealed.seq,M V.sa j.sealed.info.length V.sc,M V.sb j.sealed.data.length V.sd,M V.se j.sealed.rev.length V.sf,Y j.sealed.h0.on,H G j.sealed.h0.left,Y j.sealed.h1.on,H G j.sealed.h1.left,Y j.sealed.h2.on,H G j.sealed.h2.left]
structure RowsR (w:World)(j:Jn)(V:Sl):Prop where
 disk:IsDk w (dkR j V) j.disk
 now:IsTx w (uB j V) j.now
 sealed:IsTx w (EK j V) j.sealed
 done:SegTx w V.ca j.done
 found:SegTx w V.fa j.fL
 steps:SegSt w V.ta j.steps
 cap:j.steps.length<=V.tc
 room:RoomTx (uB j V)
theorem RowsR.ext{j:Jn}{V:Sl}(h:RowsR w j V)(e:Ext w w'):RowsR w' j V:=
 ⟨h.disk.ext e,h.now.ext e,h.sealed.ext e,h.done.ext e,h.found.ext e,h.steps.ext e,h.cap,h.room⟩
def rA (j:Jn)(V:Sl):Array E:=#[H G j.acts,M V.da j.disk.safe.length V.dc,M V.db j.disk.wr.length V.dd,H G j.rh,H G j.ru,H G j.last,Y j.down,H G (j.role 0),H G (j.freed 0),H G (j.role 1),H G (j.freed 1),H G (j.role 2),H G (j.freed 2),H G (j.role 3),H G (j.freed 3),H G (j.role 4),H G (j.freed 4),H G (j.role 5),H G (j.freed 5),H G (j.role 6),H G (j.freed 6),H G (j.role 7),H G (j.freed 7),H G (j.role 8),H G (j.freed 8),H G (j.role 9),H G (j.freed 9),H G (j.role 10),H G (j.freed 10),H G (j.role 11),H G (j.freed 11),H G j.now.seq,M V.na j.now.info.length V.nc,M V.nb j.now.data.length V.nd,M V.ne j.now.rev.length V.nf,Y j.now.h0.on,H G j.now.h0.left,Y j.now.h1.on,H G j.now.h1.left,Y j.now.h2.on,H G j.now.h2.left,H G j.sealed.seq,M V.sa j.sealed.info.length V.sc,M V.sb j.sealed.data.length V.sd,M V.se j.sealed.rev.length V.sf,Y j.sealed.h0.on,H G j.sealed.h0.left,Y j.sealed.h1.on,H G j.sealed.h1.left,Y j.sealed.h2.on,H G j.sealed.h2.left,M V.ca j.done.length V.cc,M V.fa j.fL.length V.fc,H G j.fN,H G j.fP,H G j.work,M V.ta j.steps.length V.tc]
def JAt (w:K)(B:Nat)(X:List Nat)(j:Jn):Prop:=B∈X/\∃V,w.heap[B]?=J (T (rA j V) 74 (0,0))/\RowsR (aA w X) j V
section
variable {w w':World} {B b:Nat} {X:List Nat} {j:Jn}
theorem JAt.lt(h:JAt w B X j):B<w.heap.size:=by
 obtain⟨_,V,A,_⟩:=h;exact(Wb.1 A).1
theorem JAt.below(h:JAt w B X j)(hb:Below w.heap.size w w'):JAt w' B X j:=by
 have D:=h.lt;obtain⟨C,V,A,E⟩:=h;exact⟨C,V,yA hb D A,E.ext (Ext.freshL hb)⟩
theorem JAt.more(h:JAt w B X j)(hb:Below w.heap.size w w')(L:w.heap.size<=b):JAt w' B (b::X) j:=by
 have D:=h.lt;obtain⟨C,V,A,E⟩:=h;exact⟨by simp[C],V,yA hb D A,E.ext (Ext.newL hb L)⟩
theorem JAt.less(h:JAt w B (b::X) j)(D:B∈X):JAt w B X j:=by
 obtain⟨_,V,A,C⟩:=h;exact⟨D,V,A,C.ext (Ext.lessL b)⟩
theorem JAt.set(h:JAt w B X j)(hb:b∈X)(L:b≠B)(k:Nat)(u:E):JAt (w.setCell ⟨b,k,Z⟩ u) B X j:=by
 obtain⟨C,V,A,D⟩:=h;exact⟨C,V,(Sc _ _ _ _ (qe L)).trans A,D.ext (Ext.setL hb k u)⟩
end
theorem gH(B:Nat)(X:List Nat)(j:Jn)(w:K)(h:JAt w B X j):
  Calls prog 49 #[C (J ⟨B,0,Z⟩)] w λe w'=>e=N (Y (decide (0<j.steps.length)))/\w'=w:=by
 obtain⟨_,V,A,_⟩:=h;obtain⟨x,_⟩:=kA A;unfold rA at x;clear A;by_cases hs:0<j.steps.length
 .have D:(0:Int)<(j.steps.length:Int):=by omega
  rw[show decide (0<j.steps.length)=I by simpa using hs];go_enter func49,ntmps49;go_wp2;go_ret;exact⟨rfl,rfl⟩
 .have D:¬((0:Int)<(j.steps.length:Int)):=by omega
  rw[show decide (0<j.steps.length)=O by simpa using hs];go_enter func49,ntmps49;go_wp2;go_ret;exact⟨rfl,rfl⟩
theorem GL(p:Int)(s:ByteArray)(w:K):
  Calls prog 150 #[H G p,A s] w λe w'=>e=N (F #[H G 1,H G p,A s])/\Below w.heap.size w w':=by
 go_enter func150,ntmps150;go_wp2;exact Tb (v:=F #[H G 1,H G p,A s]) (by simp[results,results150,go_sem]) rfl ⟨rfl,qA _ _⟩
theorem BL(w:K):
  Calls prog 151 #[] w λe w'=>e=N (F #[H G 2,H G 0,A ⟨#[]⟩])/\Below w.heap.size w w':=by
 go_enter func151,ntmps151;go_wp2;exact Tb (v:=F #[H G 2,H G 0,A ⟨#[]⟩]) (by simp[results,results151,go_sem]) rfl ⟨rfl,qA _ _⟩
def homeM (l:List (Int×ByteArray)):List St:=l.map λc=>AA (25+c.1) c.2
def homeS (l:List (Int×ByteArray)):List St:=homeM l++(if l.length=0 then[] else[flushS])
theorem yD(l:List (Int×ByteArray)):(homeM l).length=l.length:=by simp[homeM]
theorem oL{l:List (Int×ByteArray)}{x:Int×ByteArray}(h:l[k]?=J x):homeM (l.take (k+1))=homeM (l.take k)++[AA (25+x.1) x.2]:=by
 rw[Oc,h,homeM,homeM,Ed];rfl
theorem nQ(a:Option Addr)(c:Nat)(l:List (Int×ByteArray))(w:K)(h:SegW w a l)(hn:l.length*24<=140737488355328)(hb:∀x∈l,0<=x.1/\x.1<=11):
  Calls prog 149 #[M a l.length c] w λe w'=>∃p,e=N p/\w'.ownsRow w.heap.size 108 3 p (homeS l).length (cellsSt (homeS l))/\Below w.heap.size w w':=by
 have m:=zA h;have R:=zA hb;clear h hb;go_enter func149,ntmps149;go_wp2
 go_loopw [3,8] (λs i wr=>∃k:Nat,k<=l.length/\i=H G k/\Hid (wr.ownsRow w.heap.size 108 3 s (homeM (l.take k)).length (cellsSt (homeM (l.take k))))/\Hid (Below w.heap.size w wr)) (λ_ i _=>l.length - (intOf i).toNat)
 case atStart=>exact⟨0,Vb _,rfl,Kc _ _ _ _,Ub _ _⟩
 case round=>
  obtain⟨k,hk,rfl,B,C⟩:=hrel;by_cases hlt:k<l.length
  .obtain⟨b2,A2,rfl,hb,A5⟩:=m.o.resolve_left (by intro e;rw[e]at hlt;simp at hlt);obtain⟨x,A4⟩:∃x,x=l.getD k (0,U):=⟨_,rfl⟩;obtain⟨L,z⟩:=A5 k hlt;rw[<-A4]at L z;have O:l[k]?=J x:=by rw[A4];exact YA _ _ _ hlt
   have S:=R.o x (Yc O);have d:=xA C.o hb L;have Z:=xA C.o hb z;have Y:=zA (oL O);have b:(homeM (l.take k)).length<=k:=by rw[yD,Nc];omega
   have A0:(k:Int)<(l.length:Int):=by omega
   clear A4 A5 L z O;obtain⟨n,s⟩:=x;obtain⟨A1,A3⟩:0<=n/\n<=11:=S;generalize homeM (l.take k)=q at *;go_wp2_with fail;refine(GL (25+n) s _).mono ?_;rintro e u ⟨rfl,D⟩;have A:=zA (vA (vA C.o (qA _ _)) D);have F:=zA (dA (dA B.o (qA _ _)) D);clear D B C d Z;go_wp2_with (at_builtin;refine dE rfl _ _ rfl w.heap.size _ q rfl (dA F.o (qA _ _)) u.heap.size (AA (25+n) s) rfl (by simp[go_sem,AA]) (by simp[go_sem,AA]) (by simp[go_sem,AA]) (by omega) (ac A.o.size (by simp)) ?_);intro p w' E I;have y:Below w.heap.size w w':=(A.o.alloc A.o.size _).grown I (ac A.o.size (by simp)) (λj r=>(F.o.lt j r).1);go_wp2
   go_roundw
   case rel=>exact⟨k+1,by omega,by go_num,by rw[Y.o];exact E,y⟩
   case measure=>simp[intOf];omega
  .have e:k=l.length:=by omega
   subst e;rw[Lc]at B;by_cases h0:l.length=0
   .have Q:Hid (homeS l=homeM l):=by rw[Hid,homeS,Rb h0,yd]
    have X:¬((0:Int)<(l.length:Int)):=by omega
    go_wp2;go_ret;exact⟨_,rfl,by rw[Q.o];exact B.o,C.o⟩
   .have Q:Hid (homeS l=homeM l++[flushS]):=by rw[Hid,homeS,Qb h0]
    have X:(0:Int)<(l.length:Int):=by omega
    have b:(homeM l).length<=l.length:=by rw[yD];omega
    generalize homeM l=q at *;go_wp2_with fail;refine(BL _).mono ?_;rintro e u ⟨rfl,D⟩;have A:=zA (vA C.o D);have F:=zA (dA B.o D);clear D B C;go_wp2_with (at_builtin;refine dE rfl _ _ rfl w.heap.size _ q rfl (dA F.o (qA _ _)) u.heap.size flushS rfl (by simp[go_sem,flushS]) (by simp[go_sem,flushS]) (by simp[go_sem,flushS]) (by omega) (ac A.o.size (by simp)) ?_);intro p w' E I;have y:Below w.heap.size w w':=(A.o.alloc A.o.size _).grown I (ac A.o.size (by simp)) (λj r=>(F.o.lt j r).1);go_wp2;go_ret;exact⟨_,rfl,by rw[Q.o];exact E,y⟩
