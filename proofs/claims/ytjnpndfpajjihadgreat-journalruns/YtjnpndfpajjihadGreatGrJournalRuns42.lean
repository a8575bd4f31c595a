import Derived.Test.YtjnpndfpajjihadGreatGrJournalRuns39
set_option maxRecDepth 100000
set_option maxHeartbeats 40000000
namespace Go.Proofs.YtjnpndfpajjihadGreat
open Go.Proofs.Tryz
open Go.RowKit
open Value renaming int -> H,slice -> M,string -> A,agg -> F,tuple -> S
open IntKind renaming i64 -> G
open Option renaming none -> Z,some -> J
open Bool renaming false -> O,true -> I
open Go renaming World -> K,Value -> E
open Obj renaming cells -> T
open Ending renaming returned -> N
variable{a:Option Addr}{l:List Ac}{w:World}
theorem uR:(prog.info? 31).map (λi=>(i.zero,i.size,i.bytes))=J (J (F #[H G 0,H G 0,A ⟨#[]⟩]),3,32):=by kernel_rfl
def fI (n:Nat):Array E:=madeCells #[H G 0,H G 0,A ⟨#[]⟩] (n*3)
theorem ea(n:Nat)(h:n<=1000)(w:K):(Instr.makeSlice 65 (H G (n:Int)) (H G (n:Int))).run prog w=.ok (M (J ⟨w.heap.size,0,Z⟩) n n) (w.alloc (T (fI n) 31)):=by
 obtain⟨D,E,B,C,L⟩:=Gc uR;have:=run_make (P:=prog) w 65 31 D (F #[H G 0,H G 0,A ⟨#[]⟩]) underlying65 E B G G n n (by omega) (by omega) (by rw[L];omega) (by omega);rw[this,C,pd];rfl
def RepA (l:List Ac)(k:Nat)(arr:Array E):Prop:=
 arr.size=l.length*3/\∀i,i<k->arr[i*3]?=J (H G (rOf l i).code)/\arr[i*3+1]?=J (H G (rOf l i).n)/\arr[i*3+2]?=J (A (rOf l i).text)
theorem RepA.put{k:Nat}{arr:Array E}(h:RepA l k arr)(hk:k<l.length):
  RepA l (k+1) (((arr.setIfInBounds (k*3) (H G (rOf l k).code)).setIfInBounds (k*3+1) (H G (rOf l k).n)).setIfInBounds (k*3+2) (A (rOf l k).text)):=by
 obtain⟨C,D⟩:=h;refine⟨by simp[C],λi hi=>?_⟩;by_cases e:i=k
 .subst e;refine⟨?_,?_,?_⟩
  .rw[Wd (by omega),Wd (by omega),Sg (by omega)]
  .rw[Wd (by omega),Sg (by simp;omega)]
  .rw[Sg (by simp;omega)]
 .obtain⟨B,L,Q⟩:=D i (by omega);refine⟨?_,?_,?_⟩
  .rw[Wd (by omega),Wd (by omega),Wd (by omega)];exact B
  .rw[Wd (by omega),Wd (by omega),Wd (by omega)];exact L
  .rw[Wd (by omega),Wd (by omega),Wd (by omega)];exact Q
theorem nL(a:Option Addr)(c:Nat)(l:List Ac)(w:K)(hA:SegA w a l)(D5:l.length<=400)(D1:∀x∈l,OkA x):
  Calls prog 18 #[M a l.length c] w λe w'=>∃G arr,e=N (S #[M (J ⟨G,0,Z⟩) l.length l.length,H .i64 0])/\w.heap.size<=G/\w'.heap[G]?=J (T arr 31 (0,0))/\RepA l l.length arr/\Below w.heap.size w w':=by
 have HA:=zA hA;have A8:=zA D1;clear hA D1;have B3:∀w:K,(Instr.makeSlice 65 (H .i64 (l.length:Int)) (H .i64 (l.length:Int))).run prog w=.ok (M (J ⟨w.heap.size,0,Z⟩) l.length l.length) (w.alloc (T (fI l.length) 31)):=ea l.length (by omega);have hn:¬(400:Int)<(l.length:Int):=by omega
 go_enter func18,ntmps18;go_wp2_with fail;refine(OM _).mono ?_;rintro e R ⟨B,rfl,B7,hJ,d⟩;have U:=zA (hJ [] (by simp));have s:=zA d;have B0:B<R.heap.size:=U.o.lt;have A9:w.heap.size<=R.heap.size:=d.size;clear hJ d;go_wp2;obtain⟨G,hG⟩:∃G,G=R.heap.size:=⟨_,rfl⟩;obtain⟨C9,D2⟩:∃C9,C9=R.alloc (T (fI l.length) 31):=⟨_,rfl⟩;rw[<-D2,<-hG];have Y:Below R.heap.size R C9:=by rw[D2];exact qA _ _
 have A1:Hid (JAt C9 B [G,B] XE):=U.o.more Y (by omega);have A2:=zA (vA s.o Y);have u:Hid (C9.heap[G]?=J (T (fI l.length) 31 (0,0))):=by rw[D2,hG];exact Cc _ _
 have C6:w.heap.size<=G:=by omega
 have D4:G≠B:=by omega
 clear D2 hG Y U s B3 A9 B0
 go_loopw [17] (λi wr=>∃(k:Nat) (arr:Array E),k<=l.length/\i=H .i64 k/\Hid (JAt wr B [G,B] (jOf l k))/\Hid (wr.heap[G]?=J (T arr 31 (0,0)))/\Hid (RepA l k arr)/\Hid (Below w.heap.size w wr)) (λi _=>l.length - (intOf i).toNat)
 case atStart=>exact⟨0,_,Vb _,rfl,by rw[BJ];exact A1,u,⟨size_madeCells _ _,λi hi=>absurd hi (cg _)⟩,A2⟩
 case round=>
  obtain⟨k,arr,hk,rfl,j,L,C7,C3⟩:=hrel;clear A1 A2 u;by_cases hk1:k<l.length
  .have i1:(k:Int)<(l.length:Int):=by omega
   have i0:(0:Int)<=(k:Int):=by omega
   obtain⟨b,C2,rfl,hb,hc⟩:=HA.o.resolve_left (λe=>by rw[e]at hk1;simp at hk1);obtain⟨x,I⟩:∃x,x=l.getD k ac0:=⟨_,rfl⟩;have C5:=hc k hk1;rw[<-I]at C5;have e0:=xA C3.o hb C5.1;have e1:=xA C3.o hb C5.2.1;have e2:=xA C3.o hb C5.2.2.1;have e3:=xA C3.o hb C5.2.2.2.1;have e4:=xA C3.o hb C5.2.2.2.2;have HX:=zA I;have A4:OkA x:=A8.o x (by rw[I,List.getD,Ic hk1];exact xe hk1);have A5:=zA A4;have C1:w.heap.size<=wr.heap.size:=C3.o.size;have A7:G<wr.heap.size:=(Wb.1 L.o).1;have B8:B<wr.heap.size:=j.o.lt;clear hc C5 I hb A4;go_wp2_with fail;obtain⟨C8,D3⟩:∃C8,C8=wr.alloc (T #[H .i64 x.kind,H .i64 x.h,H .i64 x.b,H .i64 x.n,A x.text] 24):=⟨_,rfl⟩;rw[<-D3];have Q:Below wr.heap.size wr C8:=by rw[D3];exact qA _ _
   have B9:C8.heap.size=wr.heap.size+1:=by rw[D3];simp
   have A3:=zA (j.o.below Q);have A6:=zA (yA Q A7 L.o);have m:=zA (vA C3.o Q);clear D3 Q e0 e1 e2 e3 e4 j L C3;refine(KQ B [G,B] (jOf l k) C8 A3.o (λy hy=>?_) (zH l k) x A5.o.n A5.o.text).mono ?_
   .simp at hy;omega
   rintro e C ⟨rfl,X,D⟩;have A0:(doJ (jOf l k) x).2=rOf l k:=by rw[rOf,HX.o]
   have z:(doJ (jOf l k) x).1=jOf l (k+1):=by rw[AI hk1,HX.o]
   rw[z]at X;rw[A0];have p:=zA (C7.o.put hk1);obtain⟨r,hr⟩:∃r,r=rOf l k:=⟨_,rfl⟩;rw[<-hr]at p|-;rw[show vRp r=F #[H .i64 r.code,H .i64 r.n,A r.text] from rfl];have C4:Hid (C.heap[G]?=J (T arr 31 (0,0))):=(D.block _ (by omega) (by simp;exact D4)).trans A6.o;have B2:=zA X
   have B4:Hid (Below w.heap.size w C):=by
    have I:=m.o;exact⟨D.os.trans I.os,D.tape.trans I.tape,D.output.trans I.output,ac I.size D.size,λq hq=>(D.block q (by have:=I.size;omega) (by simp;omega)).trans (I.block q hq)⟩
   have C0:C8.heap.size<=C.heap.size:=D.size;have B6:G<C.heap.size:=by omega
   have B5:=C7.o.1;have c0:C.cell? ⟨G,k*3,Z⟩=J (arr[k*3]'(by omega)):=by rw[Hc C _ _ _ _ _ C4.o];exact Df _
   have c1:C.cell? ⟨G,k*3+1,Z⟩=J (arr[k*3+1]'(by omega)):=by rw[Hc C _ _ _ _ _ C4.o];exact Df _
   have c2:C.cell? ⟨G,k*3+2,Z⟩=J (arr[k*3+2]'(by omega)):=by rw[Hc C _ _ _ _ _ C4.o];exact Df _
   generalize arr[k*3]'(by omega)=z0 at c0;generalize arr[k*3+1]'(by omega)=z1 at c1;generalize arr[k*3+2]'(by omega)=z2 at c2;have f0:C.frozen? ⟨G,k*3,Z⟩=O:=jd C _ _ _ _ C4.o;have f1:C.frozen? ⟨G,k*3+1,Z⟩=O:=jd C _ _ _ _ C4.o;have f2:C.frozen? ⟨G,k*3+2,Z⟩=O:=jd C _ _ _ _ C4.o;clear A0 z hr D X A3 A6 m B5 C7;go_wp2
   go_roundw
   case rel=>
    refine⟨k+1,_,by omega,by go_num,((B2.o.set (by simp) D4 _ _).set (by simp) D4 _ _).set (by simp) D4 _ _,zc _ _ _ _ _ _ (zc _ _ _ _ _ _ (zc _ _ _ _ _ _ C4.o)),p,?_⟩;exact Zb (Zb (Zb B4.o C6 _) C6 _) C6 _
   case measure=>first|(simp[intOf];omega)|simp[intOf]
  .have B1:k=l.length:=by omega
   subst B1;have ni:¬(l.length:Int)<(l.length:Int):=by omega
   go_wp2
   go_ret2
   first|exact⟨G,arr,rfl,C6,L.o,C7.o,C3.o⟩|exact⟨G,rfl,C6,⟨arr,L.o,C7.o⟩,C3.o⟩|exact⟨G,rfl,C6,arr,L.o,C7.o,C3.o⟩
def cellsA:List Ac->List E
 |[]=>[]
 |x::q=>H G x.kind:: H G x.h:: H G x.b:: H G x.n:: A x.text::cellsA q
theorem gQ(q:List Ac):(cellsA q).length=q.length*5:=by
 induction q with
 |nil=>rfl
 |cons x r ih=>simp[cellsA,ih];omega
theorem AN(q:List Ac)(i:Nat)(B:i<q.length)(j:Nat)(hj:j<5):(cellsA q)[i*5+j]?=(cellsA [q.getD i ac0])[j]?:=by
 induction q generalizing i with
 |nil=>simp at B
 |cons y r ih=>
  have e:cellsA (y::r)=cellsA [y]++cellsA r:=rfl
  cases i with
  |zero=>rw[e,ve (by simp[cellsA];omega),Ye,Dc];rfl
  |succ i=>
   rw[e,ke (by simp[cellsA];omega)];have A:(i+1)*5+j - (cellsA [y]).length=i*5+j:=by simp[cellsA];omega
   rw[A];exact ih i (by simpa using B)
theorem Ma(q:List Ac):∀u∈cellsA q,u.oneCell'=I:=by
 induction q with
 |nil=>intro u h;cases h
 |cons x r ih=>
  intro u h;simp only[cellsA,List.mem_cons]at h;rcases h with rfl|rfl|rfl|rfl|rfl|h
  .rfl
  .rfl
  .rfl
  .rfl
  .rfl
  .exact ih u h
theorem jT:(Tryz.prog.info? 24).map (λi=>(i.zero,i.size,i.bytes))=J (J (F #[H G 0,H G 0,H G 0,H G 0,A ⟨#[]⟩]),5,48):=by kernel_rfl
theorem SegA.news{b off:Nat}(Q:∀i,i<l.length->ActAt w b (off+i*5) (l.getD i ac0))(j:Nat)(u:E)(L:(cellsA l)[j]?=J u):w.cell? ⟨b,off+j,Z⟩=J u:=by
 have A0:j<l.length*5:=by
  have:=(gd.1 L).1
  rwa [gQ]at this
 have B:j/5<l.length:=by omega
 have A:=AN l (j/5) B (j%5) (cf _ (by decide));rw[show j/5*5+j%5=j from by omega,L]at A;obtain⟨I,X,C,R,D⟩:=Q (j/5) B;rw[show off+j=off+j/5*5+j%5 from by omega];have F:j%5<5:=cf _ (by decide);generalize j%5=m at *
 match m,F with
 |0,_=>rw[pe,I];exact A.symm
 |1,_=>rw[X];exact A.symm
 |2,_=>rw[C];exact A.symm
 |3,_=>rw[R];exact A.symm
 |4,_=>rw[D];exact A.symm
theorem SegA.of_owns{base:Nat}{v:E}(h:w.ownsRow base 24 5 v l.length (cellsA l)):∃a c,v=M a l.length c/\SegA w a l:=by
 rcases h.2 with⟨rfl,B⟩|⟨g,cap,A0,rfl,hb,D,rest⟩
 .exact⟨Z,0,by rw[B],.inl (Tc B)⟩
 .refine⟨_,_,rfl,.inr ⟨g,0,rfl,(Wb.1 D).1,λi L=>?_⟩⟩
  have key:∀j,j<5->w.cell? ⟨g,0+i*5+j,Z⟩=(cellsA [l.getD i ac0])[j]?:=by
   intro j A;rw[Dc,Kg h (i*5+j) (by omega)];exact AN l i L j A
  exact⟨(key 0 (by decide)).trans rfl,(key 1 (by decide)).trans rfl,(key 2 (by decide)).trans rfl,(key 3 (by decide)).trans rfl,(key 4 (by decide)).trans rfl⟩
theorem SegA.belowA{w':K}(h:SegA w a l)(hb:Below w.heap.size w w'):SegA w' a l:=by
 rcases h with h0|⟨b,Q,rfl,L,X⟩
 .exact .inl h0
 .refine .inr ⟨b,Q,rfl,Xb L hb.size,λi R=>?_⟩;obtain⟨E,D,B,C,A⟩:=X i R;exact⟨xA hb L E,xA hb L D,xA hb L B,xA hb L C,xA hb L A⟩
theorem SegA.take(h:SegA w a l)(q:Nat):SegA w a (l.take q):=by
 rcases h with h0|⟨b,D,rfl,B,L⟩
 .left;rw[h0];exact List.take_nil
 .refine .inr ⟨b,D,rfl,B,λi Q=>?_⟩;rw[Nc]at Q;have:=L i (by omega)
  rwa [show(l.take q).getD i ac0=l.getD i ac0 from by rw[List.getD,List.getD,Ig,Rb (by omega)]]
open Go.Proofs.Tryz
theorem PZ(X:TypeId)(a:Option Addr)(c:Nat)(l:List Ac)(w:K)(e:SegA w a l)(hl:l.length*48<=140737488355328)(hm:l.length<=maxLen):
  ∃R c2 Q,(Builtin.append_ #[22,22] X #[M Z 0 0,M a l.length c]).run prog w=.ok (M R l.length c2) Q/\SegA Q R l/\Below w.heap.size w Q:=by
 obtain⟨C,I,F,p,D⟩:=Gc jT
 cases a with
 |none=>
  have L:l=[]:=by
   rcases e with h|⟨b,i,d,_⟩
   .exact h
   .cases d
  subst L;exact⟨Z,0,w,iG w 22 X 24 C c underlying22 I,.inl rfl,Ub _ _⟩
 |some ad=>
  have A:∀j u,(cellsA l)[j]?=J u->w.cell? (ad.add j)=J u:=by
   intro j u B;rcases e with h|⟨b,i,d,A0,m⟩
   .rw[h]at B;simp[cellsA]at B
   .cases d;rw[qd];exact SegA.news m j u B
  obtain⟨v',Q,hrun,E,n,_⟩:=bf (P:=prog) w w.heap.size 22 X 24 C _ 5 48 underlying22 I F p D rfl (by decide) (M Z 0 0) 0 [] (Kc w _ 24 5) ad l.length c (cellsA l) (gQ l) A (Ma l) (by omega) (by omega) (Sb _);rw[Dc,List.nil_append]at E;obtain⟨R,c2,rfl,q⟩:=SegA.of_owns E;exact⟨R,c2,Q,hrun,q,(Ub _ _).grown n (Sb _) (by intro k N;simp[Value.ownBlock]at N)⟩
theorem cb{R:Array Oper}{rest:List Oper}{o:Oper}{L:Act}{Q:Exit->Act->K->Prop}(X:o.guard=Z)(s x:Operand)
  (b:o.op=.call {callee:=.builtin .append,args:=#[s,x],argTypes:=#[22,22]})
  (e:L.eval s=M Z 0 0) (a:Option Addr) (c:Nat) (l:List Ac) (i:L.eval x=M a l.length c) (m:SegA w a l) (d:l.length*48<=140737488355328) (j:l.length<=maxLen)
  (h:∀D c2 B,SegA B D l->Below w.heap.size w B->wpList prog R Q rest (L.put o.dst (M D l.length c2)) B):wpList prog R Q (o::rest) L w:=by
 obtain⟨D,c2,B,hrun,A,hb⟩:=PZ o.type a c l w m d j;refine wpList_plain X λn k=>?_;unfold Oper.wp;simp[execOp,b,resolve,invoke,builtin,e,i,hrun,Result.andThen];exact k _ _ (h D c2 B A hb)
theorem mZ(a:Option Addr)(n c:Nat)(w:K)(hn:400<n)(B:n<=maxLen):
  Calls prog 18 #[M a n c] w λe D=>e=N (S #[M Z 0 0,H G 11])/\Below w.heap.size w D:=by
 unfold maxLen at B;have h1:(400:Int)<(n:Int):=by omega
 go_enter func18,ntmps18;go_wp2;exact Tb (by simp[results,results18,go_sem]) rfl ⟨rfl,Ub _ _⟩
