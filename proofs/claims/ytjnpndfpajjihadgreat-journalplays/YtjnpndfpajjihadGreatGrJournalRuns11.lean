import Derived.Test.YtjnpndfpajjihadGreatSGood
import Derived.Test.YtjnpndfpajjihadGreatGrJournalRuns3
set_option maxRecDepth 100000
set_option maxHeartbeats 40000000
namespace Go.Proofs.YtjnpndfpajjihadGreat
open Go.Proofs.Tryz
open Go.RowKit
open Value renaming int -> H,slice -> M,string -> A,bool -> Y,agg -> F,tuple -> S
open IntKind renaming i64 -> G
open Option renaming none -> Z,some -> J
open Bool renaming false -> O,true -> I
open Go renaming World -> K,Value -> E
open Obj renaming cells -> T
open Ending renaming returned -> N
variable{Q:Exit->Act->World->Prop}{a:Act}{most:Nat}{o:Oper}{ops:Array Oper}{s:ByteArray}{w:World}
def WB (s:ByteArray)(most:Nat):Nat:=min (at8 s 9).toNat most
def vB (s:ByteArray):List Int:=(List.range (WB s 20)).map λi=>at8 s (10+i)
def SA (s:ByteArray):List (Int×Bool):=(List.range (WB s 10)).map λi=>(at8 s (10+2*i),at8 s (11+2*i) !=0)
theorem VE(s:ByteArray):(vB s).length=WB s 20:=by simp[vB]
theorem TE(s:ByteArray):(SA s).length=WB s 10:=by simp[SA]
theorem vH(s:ByteArray)(k:Nat)(h:k<WB s 20):(vB s)[k]?=J (at8 s (10+k)):=by simp[vB,h]
theorem JF(s:ByteArray)(k:Nat)(h:k<WB s 10):(SA s)[k]?=J (at8 s (10+2*k),at8 s (11+2*k) !=0):=by simp[SA,h]
theorem YD{n:Nat}(h:at8 s 9=(n:Int))(hn:n<=most):WB s most=n:=by rw[WB,h,pd];omega
theorem mG(h:(most:Int)<at8 s 9):WB s most=most:=by rw[WB];omega
theorem wT(s:ByteArray)(n:Nat)(w:K)(hs:s.size=32)(m:n<=20)(p:at8 s 9=(n:Int)):
  Calls prog 219 #[A s] w λe d=>∃c c2,e=N (M c n c2)/\(SegI d c (vB s)/\∀b X,c=J ⟨b,X,Z⟩->w.heap.size<=b)/\Below w.heap.size w d:=by
 have hB:∀k (hk:k<s.size),((s[k]'hk).toNat:Int)=at8 s k:=SC s;have hW:=ZD s;have A3:∀k,IntKind.i64.wrap (at8 s k)=at8 s k:=λk=>by have:=oB s k;rw[Bc];omega
 have I:Hid (WB s 20=n):=YD p m;have A4:∀w:K,(Instr.makeSlice 47 (H G (n:Int)) (H G (n:Int))).run prog w=.ok (M (J ⟨w.heap.size,0,Z⟩) n n) (w.alloc (T (cellsI (List.replicate n 0)).toArray 3)):=XL n (by omega);have A2:(n:Int)<=20:=by omega
 obtain⟨l,E⟩:∃l,l=vB s:=⟨_,rfl⟩;have B:Hid (l.length=n):=by rw[Hid,E,VE,I.o]
 have h:=zA E;clear E;go_enter func219,ntmps219;go_wp2
 go_loopw [12] (λi wr=>∃k:Nat,k<=n/\i=H G k/\Hid (wr.heap[w.heap.size]?=J (T (cellsI (tB 0 l k)).toArray 3 (0,0)))/\Below w.heap.size w wr) (λi _=>n - (intOf i).toNat)
 case atStart=>exact⟨0,Vb _,rfl,by rw[AH,B.o];exact Cc w _,qA _ _⟩
 case round=>
  obtain⟨k,hk,rfl,R,C⟩:=hrel;have r:w.heap.size<wr.heap.size:=(Wb.1 R.o).1;by_cases hlt:k<n
  .have A0:(k:Int)<(n:Int):=by omega
   have A1:10+k<s.size:=by omega
   have hT:((10:Int)+(k:Int)).toNat=10+k:=by omega
   obtain⟨y,hy⟩:∃y,wr.cell? ⟨w.heap.size,k,Z⟩=J (H G y):=by
    have F:k<(tB 0 l k).length:=by rw[XH _ _ _ (by rw[B.o];omega),B.o];exact hlt
    refine⟨(tB 0 l k)[k],?_⟩;rw[Hc wr _ _ _ _ _ R.o];simp[cellsI,F]
   have fz:=jd wr _ k _ _ R.o;have q:Hid (l[k]?=J (at8 s (10+k))):=by rw[Hid,h.o];exact vH s k (by rw[I.o];exact hlt)
   go_wp2
   go_roundw
   case rel=>
    refine⟨k+1,by omega,by go_num,?_,C.setCell (by simp) _⟩;rw[Hid,zc _ _ _ _ _ _ R.o,<-nH 0 l k _ q.o,<-SL];simp
   case measure=>simp[intOf];omega
  .have e:n=k:=by omega
   subst e;have D:=R.o;rw[<-B.o,CH]at D;have L:=zA D;clear D R;go_wp2;go_ret;refine⟨_,_,rfl,⟨?_,λb X e=>by cases e;exact Sb _⟩,C⟩;rw[<-h.o];by_cases h0:l=[]
   .exact .inl h0
   .refine .inr ⟨w.heap.size,0,rfl,r,λi j=>?_⟩;rw[Hc wr _ _ _ _ _ L.o,Dc];have:=dH l i j
    simpa using this
theorem qZ(s:ByteArray)(w:K)(hs:s.size=32)(m:20<at8 s 9):
  Calls prog 219 #[A s] w λe d=>∃c c2,e=N (M c 20 c2)/\(SegI d c (vB s)/\∀b X,c=J ⟨b,X,Z⟩->w.heap.size<=b)/\Below w.heap.size w d:=by
 have hB:∀k (hk:k<s.size),((s[k]'hk).toNat:Int)=at8 s k:=SC s;have hW:=ZD s;have A3:∀k,IntKind.i64.wrap (at8 s k)=at8 s k:=λk=>by have:=oB s k;rw[Bc];omega
 have I:Hid (WB s 20=20):=mG m;have A2:¬at8 s 9<20:=by omega
 have A4:∀w:K,(Instr.makeSlice 47 (H G 20) (H G 20)).run prog w=.ok (M (J ⟨w.heap.size,0,Z⟩) 20 20) (w.alloc (T (cellsI (List.replicate 20 0)).toArray 3)):=XL 20 (by omega);obtain⟨l,E⟩:∃l,l=vB s:=⟨_,rfl⟩;have B:Hid (l.length=20):=by rw[Hid,E,VE,I.o]
 have h:=zA E;clear E;go_enter func219,ntmps219;go_wp2
 go_loopw [12] (λi wr=>∃k:Nat,k<=20/\i=H G k/\Hid (wr.heap[w.heap.size]?=J (T (cellsI (tB 0 l k)).toArray 3 (0,0)))/\Below w.heap.size w wr) (λi _=>20 - (intOf i).toNat)
 case atStart=>exact⟨0,Vb _,rfl,by rw[AH,B.o];exact Cc w _,qA _ _⟩
 case round=>
  obtain⟨k,hk,rfl,R,C⟩:=hrel;have p:w.heap.size<wr.heap.size:=(Wb.1 R.o).1;by_cases hlt:k<20
  .have A0:(k:Int)<20:=by omega
   have A1:10+k<s.size:=by omega
   have hT:((10:Int)+(k:Int)).toNat=10+k:=by omega
   obtain⟨y,hy⟩:∃y,wr.cell? ⟨w.heap.size,k,Z⟩=J (H G y):=by
    have F:k<(tB 0 l k).length:=by rw[XH _ _ _ (by rw[B.o];omega),B.o];exact hlt
    refine⟨(tB 0 l k)[k],?_⟩;rw[Hc wr _ _ _ _ _ R.o];simp[cellsI,F]
   have fz:=jd wr _ k _ _ R.o;have n:Hid (l[k]?=J (at8 s (10+k))):=by rw[Hid,h.o];exact vH s k (by rw[I.o];exact hlt)
   go_wp2
   go_roundw
   case rel=>
    refine⟨k+1,by omega,by go_num,?_,C.setCell (by simp) _⟩;rw[Hid,zc _ _ _ _ _ _ R.o,<-nH 0 l k _ n.o,<-SL];simp
   case measure=>simp[intOf];omega
  .have e:k=20:=by omega
   subst e;have D:=R.o;rw[<-B.o,CH]at D;have L:=zA D;clear D R;go_wp2;go_ret;refine⟨_,_,rfl,⟨?_,λb X e=>by cases e;exact Sb _⟩,C⟩;rw[<-h.o];by_cases h0:l=[]
   .exact .inl h0
   .refine .inr ⟨w.heap.size,0,rfl,p,λi j=>?_⟩;rw[Hc wr _ _ _ _ _ L.o,Dc];have:=dH l i j
    simpa using this
theorem UW(s:ByteArray)(w:K)(R:s.size=32):
  Calls prog 219 #[A s] w λe D=>∃B c2,e=N (M B (vB s).length c2)/\(SegI D B (vB s)/\∀b L,B=J ⟨b,L,Z⟩->w.heap.size<=b)/\Below w.heap.size w D:=by
 rw[VE];by_cases h:at8 s 9<=20
 .obtain⟨n,X⟩:=Jd (oB s 9).1;rw[YD X (by omega)];exact wT s n w R (by omega) X
 .rw[mG (show((20:Nat):Int)<at8 s 9 by omega)];exact qZ s w R (by omega)
theorem NN(l:List (Int×Bool))(k:Nat)(x:Int)(f:Bool):((AB l).set (k*2) (H G x)).set (k*2+1) (Y f)=AB (l.set k (x,f)):=by
 induction l generalizing k with
 |nil=>rfl
 |cons y r ih=>
  cases k with
  |zero=>rfl
  |succ k=>
   have A:(k+1)*2=k*2+1+1:=by omega
   rw[List.set_cons_succ,AB,AB,A];simp only[List.set_cons_succ];rw[ih]
theorem gS(n i:Nat)(h:i<n*2):(AB (List.replicate n (0,O)))[i]?=J (#[H G 0,Y O][i%2]!):=by
 have A:i/2<(List.replicate n ((0:Int),O)).length:=by rw[ef];omega
 have:=SF (List.replicate n (0,O)) (i/2) A
 have hd:(List.replicate n ((0:Int),O)).getD (i/2) (0,O)=(0,O):=by
  rw[ef]at A;rw[List.getD,jg,Rb A];rfl
 rw[hd]at this;by_cases h0:i%2=0
 .rw[show i=i/2*2 from by omega,this.1,show i/2*2%2=0 from by omega];rfl
 .rw[show i=i/2*2+1 from by omega,this.2,show(i/2*2+1)%2=1 from by omega];rfl
theorem rN(n:Nat)(h:n<=1000)(w:K):(Instr.makeSlice 79 (H G (n:Int)) (H G (n:Int))).run prog w=.ok (M (J ⟨w.heap.size,0,Z⟩) n n) (w.alloc (T (AB (List.replicate n (0,O))).toArray 123)):=by
 obtain⟨D,E,B,C,A⟩:=Gc DO;have:=run_make (P:=prog) w 79 123 D (F #[H G 0,Y O]) underlying79 E B G G n n (by omega) (by omega) (by rw[A];omega) (by omega);rw[this,C,pd]
 congr 3
 apply Ce;apply Vf;intro i;by_cases h2:i<n*2
 .rw[gS n i h2];simp[madeCells,h2,Value.cells]
 .rw[cd (by simp[madeCells];omega),cd (by rw[YI,ef];omega)]
theorem AS(s:ByteArray)(n:Nat)(w:K)(hs:s.size=32)(m:n<=10)(p:at8 s 9=(n:Int)):
  Calls prog 218 #[A s] w λe d=>∃c c2,e=N (M c n c2)/\(SegT d c (SA s)/\∀b X,c=J ⟨b,X,Z⟩->w.heap.size<=b)/\Below w.heap.size w d:=by
 have hB:∀k (hk:k<s.size),((s[k]'hk).toNat:Int)=at8 s k:=SC s;have hW:=ZD s;have A6:∀k,IntKind.i64.wrap (at8 s k)=at8 s k:=λk=>by have:=oB s k;rw[Bc];omega
 have I:Hid (WB s 10=n):=YD p m;have A7:∀w:K,(Instr.makeSlice 79 (H G (n:Int)) (H G (n:Int))).run prog w=.ok (M (J ⟨w.heap.size,0,Z⟩) n n) (w.alloc (T (AB (List.replicate n (0,O))).toArray 123)):=rN n (by omega);have A5:(n:Int)<=10:=by omega
 obtain⟨l,F⟩:∃l,l=SA s:=⟨_,rfl⟩;have B:Hid (l.length=n):=by rw[Hid,F,TE,I.o]
 have L:=zA F;clear F;go_enter func218,ntmps218;go_wp2
 go_loopw [13] (λi wr=>∃k:Nat,k<=n/\i=H G k/\Hid (wr.heap[w.heap.size]?=J (T (AB (tB (0,O) l k)).toArray 123 (0,0)))/\Below w.heap.size w wr) (λi _=>n - (intOf i).toNat)
 case atStart=>exact⟨0,Vb _,rfl,by rw[AH,B.o];exact Cc w _,qA _ _⟩
 case round=>
  obtain⟨k,hk,rfl,R,C⟩:=hrel;have r:w.heap.size<wr.heap.size:=(Wb.1 R.o).1;by_cases hlt:k<n
  .have A0:(k:Int)<(n:Int):=by omega
   have A2:10+2*k<s.size:=by omega
   have A1:11+2*k<s.size:=by omega
   have hT:((10:Int)+2*(k:Int)).toNat=10+2*k:=by omega
   have A4:((10:Int)+2*(k:Int)+1).toNat=11+2*k:=by omega
   have u1:IntKind.i64.wrap (2*(k:Int))=2*(k:Int):=by rw[Bc];omega
   have u2:IntKind.i64.wrap (10+2*(k:Int))=10+2*(k:Int):=by rw[Bc];omega
   have u3:IntKind.i64.wrap (10+2*(k:Int)+1)=10+2*(k:Int)+1:=by rw[Bc];omega
   obtain⟨y,f,hy,A3⟩:∃y f,wr.cell? ⟨w.heap.size,k*2,Z⟩=J (H G y)/\wr.cell? ⟨w.heap.size,k*2+1,Z⟩=J (Y f):=by
    have D:k<(tB (0,O) l k).length:=by rw[XH _ _ _ (by rw[B.o];omega),B.o];exact hlt
    have:=SF (tB (0,O) l k) k D;refine⟨((tB (0,O) l k).getD k (0,O)).1,((tB (0,O) l k).getD k (0,O)).2,?_,?_⟩
    .rw[Hc wr _ _ _ _ _ R.o,Be];exact this.1
    .rw[Hc wr _ _ _ _ _ R.o,Be];exact this.2
   have fz:=jd wr _ (k*2) _ _ R.o;have A8:=jd wr _ (k*2+1) _ _ R.o;have u:Hid (l[k]?=J (at8 s (10+2*k),at8 s (11+2*k) !=0)):=by rw[Hid,L.o];exact JF s k (by rw[I.o];exact hlt)
   go_wp2
   go_region
   all_goals
    go_wp2
    go_roundw
    case rel=>
     refine⟨k+1,by omega,by go_num,?_,((C.setCell (by simp) _).setCell (by simp) _).drew⟩;have q:=zc wr w.heap.size (k*2) _ _ (H G (at8 s (10+2*k))) R.o;refine(zc _ w.heap.size (k*2+1) _ _ _ q).trans ?_;rw[<-nH (0,O) l k _ u.o,<-NN];simp
    case measure=>simp[intOf];omega
  .have e:n=k:=by omega
   subst e;have E:=R.o;rw[<-B.o,CH]at E;have h:=zA E;clear E R;go_wp2;go_ret;refine⟨_,_,rfl,⟨?_,λb X e=>by cases e;exact Sb _⟩,C⟩;rw[<-L.o];by_cases h0:l=[]
   .exact .inl h0
   .refine .inr ⟨w.heap.size,0,rfl,r,λi j=>?_⟩;rw[Hc wr _ _ _ _ _ h.o,Hc wr _ _ _ _ _ h.o,Dc,Be,Be];exact SF l i j
theorem CW(s:ByteArray)(w:K)(hs:s.size=32)(m:10<at8 s 9):
  Calls prog 218 #[A s] w λe d=>∃c c2,e=N (M c 10 c2)/\(SegT d c (SA s)/\∀b X,c=J ⟨b,X,Z⟩->w.heap.size<=b)/\Below w.heap.size w d:=by
 have hB:∀k (hk:k<s.size),((s[k]'hk).toNat:Int)=at8 s k:=SC s;have hW:=ZD s;have A6:∀k,IntKind.i64.wrap (at8 s k)=at8 s k:=λk=>by have:=oB s k;rw[Bc];omega
 have I:Hid (WB s 10=10):=mG m;have A3:¬at8 s 9<10:=by omega
 have A7:∀w:K,(Instr.makeSlice 79 (H G 10) (H G 10)).run prog w=.ok (M (J ⟨w.heap.size,0,Z⟩) 10 10) (w.alloc (T (AB (List.replicate 10 (0,O))).toArray 123)):=rN 10 (by omega);obtain⟨l,F⟩:∃l,l=SA s:=⟨_,rfl⟩;have B:Hid (l.length=10):=by rw[Hid,F,TE,I.o]
 have L:=zA F;clear F;go_enter func218,ntmps218;go_wp2
 go_loopw [13] (λi wr=>∃k:Nat,k<=10/\i=H G k/\Hid (wr.heap[w.heap.size]?=J (T (AB (tB (0,O) l k)).toArray 123 (0,0)))/\Below w.heap.size w wr) (λi _=>10 - (intOf i).toNat)
 case atStart=>exact⟨0,Vb _,rfl,by rw[AH,B.o];exact Cc w _,qA _ _⟩
 case round=>
  obtain⟨k,hk,rfl,R,C⟩:=hrel;have p:w.heap.size<wr.heap.size:=(Wb.1 R.o).1;by_cases hlt:k<10
  .have A0:(k:Int)<10:=by omega
   have A2:10+2*k<s.size:=by omega
   have A1:11+2*k<s.size:=by omega
   have hT:((10:Int)+2*(k:Int)).toNat=10+2*k:=by omega
   have A5:((10:Int)+2*(k:Int)+1).toNat=11+2*k:=by omega
   have u1:IntKind.i64.wrap (2*(k:Int))=2*(k:Int):=by rw[Bc];omega
   have u2:IntKind.i64.wrap (10+2*(k:Int))=10+2*(k:Int):=by rw[Bc];omega
   have u3:IntKind.i64.wrap (10+2*(k:Int)+1)=10+2*(k:Int)+1:=by rw[Bc];omega
   obtain⟨y,f,hy,A4⟩:∃y f,wr.cell? ⟨w.heap.size,k*2,Z⟩=J (H G y)/\wr.cell? ⟨w.heap.size,k*2+1,Z⟩=J (Y f):=by
    have D:k<(tB (0,O) l k).length:=by rw[XH _ _ _ (by rw[B.o];omega),B.o];exact hlt
    have:=SF (tB (0,O) l k) k D;refine⟨((tB (0,O) l k).getD k (0,O)).1,((tB (0,O) l k).getD k (0,O)).2,?_,?_⟩
    .rw[Hc wr _ _ _ _ _ R.o,Be];exact this.1
    .rw[Hc wr _ _ _ _ _ R.o,Be];exact this.2
   have fz:=jd wr _ (k*2) _ _ R.o;have A8:=jd wr _ (k*2+1) _ _ R.o;have q:Hid (l[k]?=J (at8 s (10+2*k),at8 s (11+2*k) !=0)):=by rw[Hid,L.o];exact JF s k (by rw[I.o];exact hlt)
   go_wp2
   go_region
   all_goals
    go_wp2
    go_roundw
    case rel=>
     refine⟨k+1,by omega,by go_num,?_,((C.setCell (by simp) _).setCell (by simp) _).drew⟩;have n:=zc wr w.heap.size (k*2) _ _ (H G (at8 s (10+2*k))) R.o;refine(zc _ w.heap.size (k*2+1) _ _ _ n).trans ?_;rw[<-nH (0,O) l k _ q.o,<-NN];simp
    case measure=>simp[intOf];omega
  .have e:k=10:=by omega
   subst e;have E:=R.o;rw[<-B.o,CH]at E;have h:=zA E;clear E R;go_wp2;go_ret;refine⟨_,_,rfl,⟨?_,λb X e=>by cases e;exact Sb _⟩,C⟩;rw[<-L.o];by_cases h0:l=[]
   .exact .inl h0
   .refine .inr ⟨w.heap.size,0,rfl,p,λi j=>?_⟩;rw[Hc wr _ _ _ _ _ h.o,Hc wr _ _ _ _ _ h.o,Dc,Be,Be];exact SF l i j
theorem ZW(s:ByteArray)(w:K)(R:s.size=32):
  Calls prog 218 #[A s] w λe D=>∃B c2,e=N (M B (SA s).length c2)/\(SegT D B (SA s)/\∀b L,B=J ⟨b,L,Z⟩->w.heap.size<=b)/\Below w.heap.size w D:=by
 rw[TE];by_cases h:at8 s 9<=10
 .obtain⟨n,X⟩:=Jd (oB s 9).1;rw[YD X (by omega)];exact AS s n w R (by omega) X
 .rw[mG (show((10:Nat):Int)<at8 s 9 by omega)];exact CW s w R (by omega)
theorem NY{m:Act->K->Prop}{A1:Prop}(i:o.guard=Z)(s x:Operand)
  (p:o.op=.call {callee:=.builtin .append,args:=#[s,x],argTypes:=#[47,47]})
  (base:Nat) (v:E) (n:Nat) (ss:List Int) (q:a.eval s=v) (R:w.ownsRow base 3 1 v n (cellsI ss)) (d:Addr) (t:Int) (r:a.eval x=M (J d) 1 1)
  (y:w.cell? (d.add 0)=J (H G t)) (k:n<=1000) (b:base<=w.heap.size)
  (h:∀c c2 X,Hid (X.ownsRow base 3 1 (M c (n+1) c2) (n+1) (cellsI (ss++[t])))->w.grownBy X v.ownBlock->m (a.put o.dst (M c (n+1) c2)) X):
  if Region.wanted o (yielded ops a.tmps)=I then Oper.wp prog o a w m Q else A1:=by
 obtain⟨L,z,D,A0,C⟩:=Gc zE
 refine CJ i s x 47 p 3 L (H G 0) 1 8 underlying47 z D A0 C rfl (by decide) base v n (cellsI ss) q R d [H G t] r rfl
  (by
    intro j u A
    match j,A with
    |0,A=>simp at A;subst A;exact y) (by intro u F;simp at F;subst F;rfl) k (by decide) b ?_
 intro v' X B O;have e:cellsI ss++[H G t]=cellsI (ss++[t]):=by simp[cellsI]
 rw[e]at B;obtain⟨c,c2,l,_,_⟩:=SegI.of_owns B
 have N:(ss++[t]).length=n+1:=by
  have:=R.1;rw[sF]at this;simp;omega
 rw[N]at l;subst l;exact h c c2 X B O
theorem CN{p:Act->K->Prop}{A3:Prop}(i:o.guard=Z)(s x:Operand)
  (r:o.op=.call {callee:=.builtin .append,args:=#[s,x],argTypes:=#[79,79]})
  (base:Nat) (v:E) (n:Nat) (ss:List (Int×Bool)) (y:a.eval s=v) (R:w.ownsRow base 123 2 v n (AB ss)) (c:Addr) (t:Int) (f:Bool) (z:a.eval x=M (J c) 1 1)
  (hc:w.cell? (c.add 0)=J (H G t)) (l:w.cell? (c.add 1)=J (Y f)) (k:n<=1000) (b:base<=w.heap.size)
  (h:∀d c2 X,Hid (X.ownsRow base 123 2 (M d (n+1) c2) (n+1) (AB (ss++[(t,f)])))->w.grownBy X v.ownBlock->p (a.put o.dst (M d (n+1) c2)) X):
  if Region.wanted o (yielded ops a.tmps)=I then Oper.wp prog o a w p Q else A3:=by
 obtain⟨L,A0,D,A1,C⟩:=Gc DO
 refine CJ i s x 79 r 123 L (F #[H G 0,Y O]) 2 16 underlying79 A0 D A1 C rfl (by decide) base v n (AB ss) y R c [H G t,Y f] z rfl
  (by
    intro j u A
    match j,A with
    |0,A=>simp at A;subst A;exact hc
    |1,A=>simp at A;subst A;exact l) (by intro u q;simp at q;rcases q with rfl|rfl<;>rfl) k (by decide) b ?_
 intro v' X B A2;have e:AB ss++[H G t,Y f]=AB (ss++[(t,f)]):=by rw[RU];rfl
 rw[e]at B;obtain⟨d,c2,m,_,_⟩:=SegT.of_owns B
 have N:(ss++[(t,f)]).length=n+1:=by
  have:=R.1;rw[YI]at this;simp;omega
 rw[N]at m;subst m;exact h d c2 X B A2
theorem gR(s:ByteArray)(n:Nat)(w:K)(h:s.size=32)(hm:isMagic s=I)(hk:at8 s 4=3)(E2:n<=20)(h9:at8 s 9=(n:Int)):
  Calls prog 80 #[A s] w λe w'=>∃v2,e=N (S #[v2,H G (GC ⟨3,mA s 4,0,[],vB s⟩ (eB s (10+n))).2])/\IsMkN w' w.heap.size v2 (GC ⟨3,mA s 4,0,[],vB s⟩ (eB s (10+n))).1/\Below w.heap.size w w':=by
 have HM:Hid (WB s 20=n):=YD h9 E2;have E0:Hid ((vB s).length=n):=by rw[Hid,VE,HM.o]
 have C9:(n:Int)<=20:=by omega
 have C6:((s.extract 0 4).toList==[87,66,75,49])=I:=by rw[isMagic,Rb (by omega)]at hm;exact hm
 clear hm;have HK:=zA hk;clear hk;have hB:∀k (hk:k<s.size),((s[k]'hk).toNat:Int)=at8 s k:=SC s;have hW:=ZD s;have C5:∀k,IntKind.i64.wrap (at8 s k)=at8 s k:=λk=>by have:=oB s k;rw[Bc];omega
 go_enter func80,ntmps80;go_wp2
 go_loopw [6] (λi wr=>∃k:Nat,k<=4/\i=H G ((k+5:Nat):Int)/\wr.heap[w.heap.size+1]?=J (T #[H G (at8 s 4),H G (mA s k),H G 0,M Z 0 0,M Z 0 0] 81 (0,0))/\
  Below (w.heap.size+1) (w.alloc (T #[H G 0,H G 0,H G 0,M Z 0 0,M Z 0 0] 81)) wr) (λi _=>9 - (intOf i).toNat)
 case atStart=>
  refine⟨0,Vb _,rfl,?_,(Ub _ _).alloc (by simp) _⟩;exact RG w _ _
 case round=>
  obtain⟨k,hk,rfl,D,E⟩:=hrel;have C:=zA D;obtain⟨⟨Y,X,j,d,l⟩,r,x,u,z,y⟩:=LA D;clear D;have A3:w.heap.size+1<wr.heap.size:=(Wb.1 C.o).1;have A0:w.heap.size<wr.heap.size:=by omega
  by_cases hlt:k<4
  .obtain⟨q,hq⟩:∃q,q=mA s k:=⟨_,rfl⟩;have B5:=dD s k (by omega);have A8:mA s (k+1)=256*mA s k+at8 s (k+5):=rfl;have A9:=dD s (k+1) (by omega);rw[A8]at A9;rw[<-hq]at X B5 A9;have HQ:=zA hq;clear hq A8;have u1:IntKind.i64.wrap (256*q)=256*q:=by rw[Bc];omega
   have u2:IntKind.i64.wrap (256*q+at8 s (k+5))=256*q+at8 s (k+5):=by rw[Bc];omega
   have B2:(k:Int)+5<9:=by omega
   go_wp2
   go_region
   all_goals
    go_wp2
    go_roundw
    case rel=>
     refine⟨k+1,by omega,by go_num,?_,(E.setCell (by simp) _).drew⟩;refine(zc wr _ _ _ _ _ C.o).trans ?_;rw[mA,<-HQ.o];rfl
    case measure=>simp[intOf];omega
  .obtain rfl:k=4:=by omega
   obtain⟨⟨L,D2,D3,D4,D5⟩,D6,f1,D7,a,U⟩:=LA (PD E);have p:=zA (vA (qA _ _) (E.mono (by simp)));clear hlt hk;have hk:=HK.o;have A1:=C.o;rw[hk]at Y A1
   replace C:=zA A1
   clear A1;rw[show(((4:Nat)+5:Nat):Int)=9 from rfl,hk];clear Y X j d l r x u z y L D2 D3 D4 D5 D6 f1 D7 a U p;obtain⟨⟨Y,X,j,d,l⟩,r,x,u,z,y⟩:=LA C.o;go_wp2
   go_loopw [10] (λi wr=>∃(k:Nat) (Q:Option Addr) (c2:Nat),k<=n/\i=H G k/\wr.heap[w.heap.size+1]?=J (T #[H G 3,H G (mA s 4),H G 0,M Z 0 0,M Q k c2] 81 (0,0))/\Hid (wr.ownsRow (w.heap.size+2) 3 1 (M Q k c2) k (cellsI ((vB s).take k)))/\Below (w.heap.size+1) (w.alloc (T #[H G 0,H G 0,H G 0,M Z 0 0,M Z 0 0] 81)) wr) (λi _=>n - (intOf i).toNat)
   case atStart=>exact⟨0,Z,0,Vb _,rfl,C.o,Kc _ _ _ _,E⟩
   case round=>
    clear E Y X j d l r x u z y C A3 A0;obtain⟨k,Q,c2,B6,rfl,D,D9,E⟩:=hrel;have C:=zA D;have A3:w.heap.size+1<wr.heap.size:=(Wb.1 D).1;have A0:w.heap.size<wr.heap.size:=by omega
    obtain⟨⟨Y,X,j,d,l⟩,r,x,u,z,y⟩:=LA D;clear D;by_cases hlt:k<n
    .have B2:(k:Int)<(n:Int):=by omega
     have C2:10+k<s.size:=by omega
     have hT:((10:Int)+(k:Int)).toNat=10+k:=by omega
     have u1:IntKind.i64.wrap (10+(k:Int))=10+(k:Int):=by rw[Bc];omega
     have i1:0<=10+(k:Int):=by omega
     have i2:10+(k:Int)<32:=by omega
     have HX:Hid ((vB s).take (k+1)=(vB s).take k++[at8 s (10+k)]):=by rw[Hid,Oc,vH s k (by rw[HM.o];exact hlt)];rfl
     go_wp2
     go_region_law (refine NY rfl (.tmp 108) (.tmp 114) rfl (w.heap.size+2) (M Q k c2) k ((vB s).take k) (by simp[Act.eval]) (D9.o.alloc _) ⟨wr.heap.size,0,Z⟩ (at8 s (10+k)) (by simp[Act.eval]) (by simp[go_sem]) (by omega) (by simp;omega) ?_;intro a5 c5 w5 B4 A5;have E1:w5.heap[w.heap.size+1]?=J (T #[H G 3,H G (mA s 4),H G 0,M Z 0 0,M Q k c2] 81 (0,0)):=((A5.block (w.heap.size+1) (by simp;omega) (λe=>by have:=D9.o.lt _ e.symm;omega)).trans ((kd wr _ _ A3).trans C.o));have o5:w5.cell? ⟨w.heap.size+1,4,Z⟩=J (M Q k c2):=(LA E1).1.2.2.2.2;have C7:w5.frozen? ⟨w.heap.size+1,4,Z⟩=O:=(LA E1).2.2.2.2.2;have B8:=zA E1;have B9:Below (w.heap.size+1) (w.alloc (T #[H G 0,H G 0,H G 0,M Z 0 0,M Z 0 0] 81)) w5:=(((E.alloc (by omega) _).drew).grown A5 (by simp;omega) (λk hk=>by have:=D9.o.lt k hk;omega));clear E1 A5)
     all_goals
      clear Y X j d l r x u z y E D9 C;go_wp2
      go_roundw
      case rel=>
       refine⟨k+1,a5,c5,by omega,by go_num,?_,?_,B9.setCell (by simp) _⟩
       .rw[zc w5 _ _ _ _ _ B8.o];rfl
       .rw[HX.o];exact Jc B4.o (by simp) _
      case measure=>simp[intOf];omega
    .have e:n=k:=by omega
     subst e;have R:=D9.o;rw[zd (by rw[E0.o];exact Sb _)]at R;obtain⟨a4,c4,A2,B1,B0⟩:=SegI.of_owns R;rw[E0.o]at A2;simp only[Value.slice.injEq]at A2;obtain⟨B3,_,C0⟩:=A2;subst B3 C0;have A6:=zA B1;have A7:=zA B0;obtain⟨⟨L,D2,D3,D4,D5⟩,D6,f1,D7,a,U⟩:=LA (PD E);have p:=zA (vA (qA _ _) (E.mono (by simp)));clear D9 R B1 B0 E C r x u z y hlt B6;go_wp2_with fail;refine(cG _ ⟨3,mA s 4,0,[],vB s⟩ _ ⟨Z,0,Q,c2,by simp only[E0.o];rfl,.inl rfl,A6.o,Vb _,by show(vB s).length<=maxLen;rw[E0.o];unfold maxLen;omega⟩ (by simp)).mono ?_;rintro e w1 ⟨rfl,B⟩;have C4:w.heap.size+1<w1.heap.size:=by have:=B.size;omega
     have C3:w.heap.size<w1.heap.size:=by omega
     replace Y:=xA B (by omega) Y
     replace X:=xA B (by omega) X
     replace j:=xA B (by omega) j
     replace d:=xA B (by omega) d
     replace l:=xA B (by omega) l
     replace L:=xA B (by omega) L
     replace D2:=xA B (by omega) D2
     replace D3:=xA B (by omega) D3
     replace D4:=xA B (by omega) D4
     replace D5:=xA B (by omega) D5
     replace D6:=bA B (by omega) D6
     replace f1:=bA B (by omega) f1
     replace D7:=bA B (by omega) D7
     replace a:=bA B (by omega) a
     replace U:=bA B (by omega) U
     have C1:=zA (A6.o.below B)
     replace p:=zA (vA p.o B)
     clear B;by_cases hg:goodM ⟨3,mA s 4,0,[],vB s⟩=0
     .go_wp2_with fail;refine(mK s (10+n) _ _ (by omega) (by omega) (by omega)).mono ?_;rintro e w2 ⟨rfl,rfl⟩
      cases hz:eB s (10+n) with
      |true=>
       have hd:=aJ hg hz;have c:=zA hd;clear hd hz;go_wp2;refine Tb (v:=S #[F #[H G 3,H G (mA s 4),H G 0,M Z 0 0,M Q n c2],H G 0]) (by simp[results,results80,go_sem,L,D2,D3,D4,D5]) rfl ⟨_,by rw[c.o],?_,?_⟩
       .rw[c.o];refine⟨Z,0,Q,c2,by simp only[E0.o];rfl,.inl rfl,?_,Vb _,by show(vB s).length<=maxLen;rw[E0.o];unfold maxLen;omega,λ_ _ h=>(by cases h),λb D8 e=>(by have:=A7.o b D8 e;omega)⟩
        repeat refine SegI.setNe ?_ (λb D8 e=>by have:=A7.o b D8 e;simp;omega) _
        exact C1.o
       .repeat refine Zb ?_ (by simp) _
        exact p.o
      |false=>
       have hd:=cJ ⟨3,mA s 4,0,[],vB s⟩ hz;have c:=zA hd;clear hd hz;go_wp2_with fail;refine(gD _).mono ?_;rintro e w9 ⟨rfl,D1⟩;have B7:w.heap.size<w9.heap.size:=by have:=D1.size;omega
       replace L:=xA D1 (by omega) L
       replace D2:=xA D1 (by omega) D2
       replace D3:=xA D1 (by omega) D3
       replace D4:=xA D1 (by omega) D4
       replace D5:=xA D1 (by omega) D5
       replace D6:=bA D1 (by omega) D6
       replace f1:=bA D1 (by omega) f1
       replace D7:=bA D1 (by omega) D7
       replace a:=bA D1 (by omega) a
       replace U:=bA D1 (by omega) U
       have A4:=zA (vA p.o D1);clear D1;go_wp2;refine Tb (v:=S #[F #[H G 0,H G 0,H G 0,M Z 0 0,M Z 0 0],H G 1]) (by simp[results,results80,go_sem,L,D2,D3,D4,D5]) rfl ⟨_,by rw[c.o],by rw[c.o];exact KC _ _,?_⟩
       repeat refine Zb ?_ (by simp) _
       exact A4.o
     .have C8:(goodM ⟨3,mA s 4,0,[],vB s⟩ !=0)=I:=by simpa using hg
      have hd:=nJ (m:=⟨3,mA s 4,0,[],vB s⟩) (eB s (10+n)) hg;have c:=zA hd;clear hd;go_wp2_with fail;refine(gD _).mono ?_;rintro e w9 ⟨rfl,D1⟩;have B7:w.heap.size<w9.heap.size:=by have:=D1.size;omega
      replace L:=xA D1 (by omega) L
      replace D2:=xA D1 (by omega) D2
      replace D3:=xA D1 (by omega) D3
      replace D4:=xA D1 (by omega) D4
      replace D5:=xA D1 (by omega) D5
      replace D6:=bA D1 (by omega) D6
      replace f1:=bA D1 (by omega) f1
      replace D7:=bA D1 (by omega) D7
      replace a:=bA D1 (by omega) a
      replace U:=bA D1 (by omega) U
      have A4:=zA (vA p.o D1);clear D1;go_wp2;refine Tb (v:=S #[F #[H G 0,H G 0,H G 0,M Z 0 0,M Z 0 0],H G 1]) (by simp[results,results80,go_sem,L,D2,D3,D4,D5]) rfl ⟨_,by rw[c.o],by rw[c.o];exact KC _ _,?_⟩
      repeat refine Zb ?_ (by simp) _
      exact A4.o
theorem xV(s:ByteArray)(n:Nat)(R:Mk×Int)(w:K)(h:s.size=32)(hm:isMagic s=I)(hk:at8 s 4=2)(E7:n<=10)(h9:at8 s 9=(n:Int))(E6:(∀i,i<n->at8 s (11+2*i)<=1)->R=GC ⟨2,mA s 4,0,SA s,[]⟩ (eB s (10+2*n)))(E4:∀i,i<n->1<at8 s (11+2*i)->R=(yC,1)):
  Calls prog 80 #[A s] w λe w'=>∃v2,e=N (S #[v2,H G R.2])/\IsMkN w' w.heap.size v2 R.1/\Below w.heap.size w w':=by
 have B7:=zA E6;have B5:=zA E4;clear E6 E4;have HM:Hid (WB s 10=n):=YD h9 E7;have E3:Hid ((SA s).length=n):=by rw[Hid,TE,HM.o]
 have D3:(n:Int)<=10:=by omega
 have D1:((s.extract 0 4).toList==[87,66,75,49])=I:=by rw[isMagic,Rb (by omega)]at hm;exact hm
 clear hm;have HK:=zA hk;clear hk;have hB:∀k (hk:k<s.size),((s[k]'hk).toNat:Int)=at8 s k:=SC s;have hW:=ZD s;have C9:∀k,IntKind.i64.wrap (at8 s k)=at8 s k:=λk=>by have:=oB s k;rw[Bc];omega
 go_enter func80,ntmps80;go_wp2
 go_loopw [6] (λi wr=>∃k:Nat,k<=4/\i=H G ((k+5:Nat):Int)/\wr.heap[w.heap.size+1]?=J (T #[H G (at8 s 4),H G (mA s k),H G 0,M Z 0 0,M Z 0 0] 81 (0,0))/\
  Below (w.heap.size+1) (w.alloc (T #[H G 0,H G 0,H G 0,M Z 0 0,M Z 0 0] 81)) wr) (λi _=>9 - (intOf i).toNat)
 case atStart=>
  refine⟨0,Vb _,rfl,?_,(Ub _ _).alloc (by simp) _⟩;exact RG w _ _
 case round=>
  obtain⟨k,hk,rfl,E1,D⟩:=hrel;have B:=zA E1;obtain⟨⟨j,d,u,r,x⟩,e0,e1,e2,e3,e4⟩:=LA E1;clear E1;have A0:w.heap.size+1<wr.heap.size:=(Wb.1 B.o).1;have A1:w.heap.size<wr.heap.size:=by omega
  by_cases hlt:k<4
  .obtain⟨q,hq⟩:∃q,q=mA s k:=⟨_,rfl⟩;have B9:=dD s k (by omega);have B4:mA s (k+1)=256*mA s k+at8 s (k+5):=rfl;have A9:=dD s (k+1) (by omega);rw[B4]at A9;rw[<-hq]at d B9 A9;have HQ:=zA hq;clear hq B4;have u1:IntKind.i64.wrap (256*q)=256*q:=by rw[Bc];omega
   have u2:IntKind.i64.wrap (256*q+at8 s (k+5))=256*q+at8 s (k+5):=by rw[Bc];omega
   have B6:(k:Int)+5<9:=by omega
   go_wp2
   go_region
   all_goals
    go_wp2
    go_roundw
    case rel=>
     refine⟨k+1,by omega,by go_num,?_,(D.setCell (by simp) _).drew⟩;refine(zc wr _ _ _ _ _ B.o).trans ?_;rw[mA,<-HQ.o];rfl
    case measure=>simp[intOf];omega
  .obtain rfl:k=4:=by omega
   obtain⟨⟨L,D8,D5,D7,D6⟩,X,f1,E0,Y,U⟩:=LA (PD D);have l:=zA (vA (qA _ _) (D.mono (by simp)));clear hlt hk;have hk:=HK.o;have A2:=B.o;rw[hk]at j A2
   replace B:=zA A2
   clear A2;rw[show(((4:Nat)+5:Nat):Int)=9 from rfl,hk];clear j d u r x e0 e1 e2 e3 e4 L D8 D5 D7 D6 X f1 E0 Y U l;obtain⟨⟨j,d,u,r,x⟩,e0,e1,e2,e3,e4⟩:=LA B.o;go_wp2
   go_loopw [9] (λi wr=>∃(k:Nat) (Q:Option Addr) (c2:Nat),k<=n/\i=H G k/\wr.heap[w.heap.size+1]?=J (T #[H G 2,H G (mA s 4),H G 0,M Q k c2,M Z 0 0] 81 (0,0))/\Hid (wr.ownsRow (w.heap.size+2) 123 2 (M Q k c2) k (AB ((SA s).take k)))/\Hid (∀i,i<k->at8 s (11+2*i)<=1)/\Below (w.heap.size+1) (w.alloc (T #[H G 0,H G 0,H G 0,M Z 0 0,M Z 0 0] 81)) wr) (λi _=>n - (intOf i).toNat)
   case atStart=>exact⟨0,Z,0,Vb _,rfl,B.o,Kc _ _ _ _,(λi hi=>by omega),D⟩
   case round=>
    clear D j d u r x e0 e1 e2 e3 e4 B A0 A1;obtain⟨k,Q,c2,C0,rfl,E1,D9,z,D⟩:=hrel;have B:=zA E1;have A0:w.heap.size+1<wr.heap.size:=(Wb.1 E1).1;have A1:w.heap.size<wr.heap.size:=by omega
    obtain⟨⟨j,d,u,r,x⟩,e0,e1,e2,e3,e4⟩:=LA E1;clear E1;by_cases hlt:k<n
    .have B6:(k:Int)<(n:Int):=by omega
     have C5:10+2*k<s.size:=by omega
     have C4:11+2*k<s.size:=by omega
     have hT:((10:Int)+2*(k:Int)).toNat=10+2*k:=by omega
     have C7:((11:Int)+2*(k:Int)).toNat=11+2*k:=by omega
     have u1:IntKind.i64.wrap (2*(k:Int))=2*(k:Int):=by rw[Bc];omega
     have u2:IntKind.i64.wrap (10+2*(k:Int))=10+2*(k:Int):=by rw[Bc];omega
     have u3:IntKind.i64.wrap (11+2*(k:Int))=11+2*(k:Int):=by rw[Bc];omega
     have i1:0<=10+2*(k:Int):=by omega
     have i2:10+2*(k:Int)<32:=by omega
     have i3:0<=11+2*(k:Int):=by omega
     have i4:11+2*(k:Int)<32:=by omega
     by_cases hf:1<at8 s (11+2*k)
     .have c:Hid (R=(yC,1)):=B5.o k hlt hf;obtain⟨⟨L,D8,D5,D7,D6⟩,X,f1,E0,Y,U⟩:=LA (PD D);have l:=zA (vA (qA _ _) (D.mono (by simp)));clear D9 D B z;go_wp2_with fail;refine(gD _).mono ?_;rintro e w9 ⟨rfl,D4⟩;have B2:w.heap.size<w9.heap.size:=by have:=D4.size;omega
      replace L:=xA D4 (by omega) L
      replace D8:=xA D4 (by omega) D8
      replace D5:=xA D4 (by omega) D5
      replace D7:=xA D4 (by omega) D7
      replace D6:=xA D4 (by omega) D6
      replace X:=bA D4 (by omega) X
      replace f1:=bA D4 (by omega) f1
      replace E0:=bA D4 (by omega) E0
      replace Y:=bA D4 (by omega) Y
      replace U:=bA D4 (by omega) U
      have y:=zA (vA l.o D4);clear D4;go_wp2;refine Tb (v:=S #[F #[H G 0,H G 0,H G 0,M Z 0 0,M Z 0 0],H G 1]) (by simp[results,results80,go_sem,L,D8,D5,D7,D6]) rfl ⟨_,by rw[c.o],by rw[c.o];exact KC _ _,?_⟩
      repeat refine Zb ?_ (by simp) _
      exact y.o
     .have h01:at8 s (11+2*k)=0\/at8 s (11+2*k)=1:=by have:=oB s (11+2*k);omega
      have B3:Hid (∀i,i<k+1->at8 s (11+2*i)<=1):=by
       intro i hi;by_cases e:i=k
       .rw[e];omega
       .exact z.o i (by omega)
      clear hf z;rcases h01 with h01|h01
      .have HX:Hid ((SA s).take (k+1)=(SA s).take k++[(at8 s (10+2*k),O)]):=by rw[Hid,Oc,JF s k (by rw[HM.o];exact hlt),h01];rfl
       go_wp2
       go_region_law (refine CN rfl (.tmp 73) (.tmp 87) rfl (w.heap.size+2) (M Q k c2) k ((SA s).take k) (by simp[Act.eval]) (D9.o.alloc _) ⟨wr.heap.size,0,Z⟩ (at8 s (10+2*k)) O (by simp[Act.eval]) (by simp[go_sem]) (by simp[go_sem]) (by omega) (by simp;omega) ?_;intro a5 c5 a A3 E2;have E:a.heap[w.heap.size+1]?=J (T #[H G 2,H G (mA s 4),H G 0,M Q k c2,M Z 0 0] 81 (0,0)):=((E2.block (w.heap.size+1) (by simp;omega) (λe=>by have:=D9.o.lt _ e.symm;omega)).trans ((kd wr _ _ A0).trans B.o));have o5:a.cell? ⟨w.heap.size+1,3,Z⟩=J (M Q k c2):=(LA E).1.2.2.2.1;have C1:a.frozen? ⟨w.heap.size+1,3,Z⟩=O:=(LA E).2.2.2.2.1;have A5:=zA E;have A6:Below (w.heap.size+1) (w.alloc (T #[H G 0,H G 0,H G 0,M Z 0 0,M Z 0 0] 81)) a:=(((D.alloc (by omega) _).drew).grown E2 (by simp;omega) (λk hk=>by have:=D9.o.lt k hk;omega));clear E E2)
       all_goals
        clear j d u r x e0 e1 e2 e3 e4 D D9 B;go_wp2
        go_roundw
        case rel=>
         refine⟨k+1,a5,c5,by omega,by go_num,?_,?_,B3,A6.setCell (by simp) _⟩
         .rw[zc a _ _ _ _ _ A5.o];rfl
         .rw[HX.o];exact Jc A3.o (by simp) _
        case measure=>simp[intOf];omega
      .have HX:Hid ((SA s).take (k+1)=(SA s).take k++[(at8 s (10+2*k),I)]):=by rw[Hid,Oc,JF s k (by rw[HM.o];exact hlt),h01];rfl
       go_wp2
       go_region_law (refine CN rfl (.tmp 73) (.tmp 87) rfl (w.heap.size+2) (M Q k c2) k ((SA s).take k) (by simp[Act.eval]) (D9.o.alloc _) ⟨wr.heap.size,0,Z⟩ (at8 s (10+2*k)) I (by simp[Act.eval]) (by simp[go_sem]) (by simp[go_sem]) (by omega) (by simp;omega) ?_;intro a5 c5 a A3 E2;have E:a.heap[w.heap.size+1]?=J (T #[H G 2,H G (mA s 4),H G 0,M Q k c2,M Z 0 0] 81 (0,0)):=((E2.block (w.heap.size+1) (by simp;omega) (λe=>by have:=D9.o.lt _ e.symm;omega)).trans ((kd wr _ _ A0).trans B.o));have o5:a.cell? ⟨w.heap.size+1,3,Z⟩=J (M Q k c2):=(LA E).1.2.2.2.1;have C1:a.frozen? ⟨w.heap.size+1,3,Z⟩=O:=(LA E).2.2.2.2.1;have A5:=zA E;have A6:Below (w.heap.size+1) (w.alloc (T #[H G 0,H G 0,H G 0,M Z 0 0,M Z 0 0] 81)) a:=(((D.alloc (by omega) _).drew).grown E2 (by simp;omega) (λk hk=>by have:=D9.o.lt k hk;omega));clear E E2)
       all_goals
        clear j d u r x e0 e1 e2 e3 e4 D D9 B;go_wp2
        go_roundw
        case rel=>
         refine⟨k+1,a5,c5,by omega,by go_num,?_,?_,B3,A6.setCell (by simp) _⟩
         .rw[zc a _ _ _ _ _ A5.o];rfl
         .rw[HX.o];exact Jc A3.o (by simp) _
        case measure=>simp[intOf];omega
    .have e:n=k:=by omega
     subst e;have p:=D9.o;rw[zd (by rw[E3.o];exact Sb _)]at p;obtain⟨a4,c4,A4,B1,B0⟩:=SegT.of_owns p;rw[E3.o]at A4;simp only[Value.slice.injEq]at A4;obtain⟨B8,_,C2⟩:=A4;subst B8 C2;have A7:=zA B1;have A8:=zA B0;have HR:=zA (B7.o z.o);obtain⟨⟨L,D8,D5,D7,D6⟩,X,f1,E0,Y,U⟩:=LA (PD D);have l:=zA (vA (qA _ _) (D.mono (by simp)));clear D9 p B1 B0 D B e0 e1 e2 e3 e4 hlt C0 z;go_wp2_with fail;refine(cG _ ⟨2,mA s 4,0,SA s,[]⟩ _ ⟨Q,c2,Z,0,by simp only[E3.o];rfl,A7.o,.inl rfl,by show(SA s).length<=maxLen;rw[E3.o];unfold maxLen;omega,Vb _⟩ (by show(SA s).length*8<=_;rw[E3.o];omega)).mono ?_;rintro e w1 ⟨rfl,C⟩;have C8:w.heap.size+1<w1.heap.size:=by have:=C.size;omega
     have C6:w.heap.size<w1.heap.size:=by omega
     replace j:=xA C (by omega) j
     replace d:=xA C (by omega) d
     replace u:=xA C (by omega) u
     replace r:=xA C (by omega) r
     replace x:=xA C (by omega) x
     replace L:=xA C (by omega) L
     replace D8:=xA C (by omega) D8
     replace D5:=xA C (by omega) D5
     replace D7:=xA C (by omega) D7
     replace D6:=xA C (by omega) D6
     replace X:=bA C (by omega) X
     replace f1:=bA C (by omega) f1
     replace E0:=bA C (by omega) E0
     replace Y:=bA C (by omega) Y
     replace U:=bA C (by omega) U
     have C3:=zA (A7.o.below C)
     replace l:=zA (vA l.o C)
     clear C;by_cases hg:goodM ⟨2,mA s 4,0,SA s,[]⟩=0
     .go_wp2_with fail;refine(mK s (10+2*n) _ _ (by omega) (by omega) (by omega)).mono ?_;rintro e w2 ⟨rfl,rfl⟩
      cases hz:eB s (10+2*n) with
      |true=>
       have hd:=HR.o.trans (aJ hg hz);have c:=zA hd;clear hd hz;go_wp2;refine Tb (v:=S #[F #[H G 2,H G (mA s 4),H G 0,M Q n c2,M Z 0 0],H G 0]) (by simp[results,results80,go_sem,L,D8,D5,D7,D6]) rfl ⟨_,by rw[c.o],?_,?_⟩
       .rw[c.o];refine⟨Q,c2,Z,0,by simp only[E3.o];rfl,?_,.inl rfl,by show(SA s).length<=maxLen;rw[E3.o];unfold maxLen;omega,Vb _,λb E5 e=>(by have:=A8.o b E5 e;omega),λ_ _ h=>(by cases h)⟩
        repeat refine SegT.setNe ?_ (λb E5 e=>by have:=A8.o b E5 e;simp;omega) _
        exact C3.o
       .repeat refine Zb ?_ (by simp) _
        exact l.o
      |false=>
       have hd:=HR.o.trans (cJ ⟨2,mA s 4,0,SA s,[]⟩ hz);have c:=zA hd;clear hd hz;go_wp2_with fail;refine(gD _).mono ?_;rintro e w9 ⟨rfl,D4⟩;have B2:w.heap.size<w9.heap.size:=by have:=D4.size;omega
       replace L:=xA D4 (by omega) L
       replace D8:=xA D4 (by omega) D8
       replace D5:=xA D4 (by omega) D5
       replace D7:=xA D4 (by omega) D7
       replace D6:=xA D4 (by omega) D6
       replace X:=bA D4 (by omega) X
       replace f1:=bA D4 (by omega) f1
       replace E0:=bA D4 (by omega) E0
       replace Y:=bA D4 (by omega) Y
       replace U:=bA D4 (by omega) U
       have y:=zA (vA l.o D4);clear D4;go_wp2;refine Tb (v:=S #[F #[H G 0,H G 0,H G 0,M Z 0 0,M Z 0 0],H G 1]) (by simp[results,results80,go_sem,L,D8,D5,D7,D6]) rfl ⟨_,by rw[c.o],by rw[c.o];exact KC _ _,?_⟩
       repeat refine Zb ?_ (by simp) _
       exact y.o
     .have D2:(goodM ⟨2,mA s 4,0,SA s,[]⟩ !=0)=I:=by simpa using hg
      have hd:=HR.o.trans (nJ (m:=⟨2,mA s 4,0,SA s,[]⟩) (eB s (10+2*n)) hg);have c:=zA hd;clear hd;go_wp2_with fail;refine(gD _).mono ?_;rintro e w9 ⟨rfl,D4⟩;have B2:w.heap.size<w9.heap.size:=by have:=D4.size;omega
      replace L:=xA D4 (by omega) L
      replace D8:=xA D4 (by omega) D8
      replace D5:=xA D4 (by omega) D5
      replace D7:=xA D4 (by omega) D7
      replace D6:=xA D4 (by omega) D6
      replace X:=bA D4 (by omega) X
      replace f1:=bA D4 (by omega) f1
      replace E0:=bA D4 (by omega) E0
      replace Y:=bA D4 (by omega) Y
      replace U:=bA D4 (by omega) U
      have y:=zA (vA l.o D4);clear D4;go_wp2;refine Tb (v:=S #[F #[H G 0,H G 0,H G 0,M Z 0 0,M Z 0 0],H G 1]) (by simp[results,results80,go_sem,L,D8,D5,D7,D6]) rfl ⟨_,by rw[c.o],by rw[c.o];exact KC _ _,?_⟩
      repeat refine Zb ?_ (by simp) _
      exact y.o
