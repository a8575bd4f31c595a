import Derived.Test.YtjnpndfpajjihadGreatGrJournalRuns21
import Derived.Shelf.Abstract
set_option maxRecDepth 100000
set_option maxHeartbeats 40000000
namespace Go.Proofs.YtjnpndfpajjihadGreat
open Go.Proofs.Tryz
open Go.RowKit
open Value renaming int -> H,slice -> M,pointer -> C,string -> A,bool -> Y,agg -> F,tuple -> S
open IntKind renaming i64 -> G
open Option renaming none -> Z,some -> J
open Bool renaming false -> O,true -> I
open Go renaming World -> K,Value -> E
open Ending renaming returned -> N
open _root_.ByteArray renaming empty -> U
def oF {α:Type}(p:α->Bool)(l:List α)(i:Int):Prop:=(i= -1/\l.any p=O)\/∃(k:Nat) (x:α),i=(k:Int)/\l[k]?=J x/\p x=I/\(l.take k).any p=O
theorem MQ{α:Type}{p:α->Bool}{l:List α}{i:Int}(h:oF p l i):l.any p=decide (0<=i):=by
 rcases h with⟨rfl,h⟩|⟨k,x,rfl,h,B,_⟩
 .rw[h];rfl
 .rw[eQ h B];simp
theorem yO(p:Int×ByteArray->Bool)(g:Nat)(lb:Array E)(eg:∀args w,(callFunc g args).run prog w=.ok (.enter g args) w)(a:Option Addr)(c:Nat)(l:List (Int×ByteArray))(w:K)(h:SegW w a l)(r:l.length<=maxLen)
  (m:∀(x:Int×ByteArray) (W:K),Below w.heap.size w W->Calls prog g (#[F #[H G x.1,A x.2]]++lb) W λe Q=>e=N (Y (p x))/\Below w.heap.size w Q):
  Calls prog 195 #[M a l.length c,.func (.func g) #[] lb] w λe Q=>∃i:Int,e=N (H G i)/\oF p l i/\Below w.heap.size w Q:=by
 unfold maxLen at r;have u:=zA h;have I:=zA m;clear h m;go_enter func195,ntmps195;go_wp2
 go_loopw [8] (λi wr=>∃k:Nat,k<=l.length/\i=H G k/\Hid ((l.take k).any p=O)/\Below w.heap.size w wr) (λi _=>l.length - (intOf i).toNat)
 case atStart=>exact⟨0,Vb _,rfl,by simp[Hid],Ub _ _⟩
 case round=>
  obtain⟨k,hk,rfl,C,B⟩:=hrel;by_cases hlt:k<l.length
  .obtain⟨b2,A1,rfl,hb,L⟩:=u.o.resolve_left (by intro e;rw[e]at hlt;simp at hlt);obtain⟨x,X⟩:∃x,x=l.getD k (0,U):=⟨_,rfl⟩;obtain⟨j,D⟩:=L k hlt;rw[<-X]at j D;have q:Hid (l[k]?=J x):=by rw[X];exact YA _ _ _ hlt
   have g1:=xA B hb j;have g2:=xA B hb D;have R:=I.o x wr B;clear X L j D;obtain⟨n,t⟩:=x;have A0:(k:Int)<(l.length:Int):=by omega
   cases hq:p (n,t) with
   |true=>
    have b:Hid (oF p l (k:Int)):=.inr ⟨k,(n,t),rfl,q.o,hq,C.o⟩;rw[hq]at R;clear C I;go_wp2_with fail;refine R.mono ?_;rintro e Q ⟨rfl,d⟩;go_wp2;go_ret;exact⟨_,rfl,b.o,d⟩
   |false=>
    have s:=zA (CK q.o hq C.o);rw[hq]at R;clear C I;go_wp2_with fail;refine R.mono ?_;rintro e Q ⟨rfl,d⟩;go_wp2
    go_roundw
    case rel=>exact⟨k+1,by omega,by go_num,s,d⟩
    case measure=>simp[intOf];omega
  .have b:Hid (oF p l (-1)):=.inl ⟨rfl,by have:=C.o;rw[zd (by omega)]at this;exact this⟩;clear C I;go_wp2;go_ret;exact⟨_,rfl,b.o,B⟩
theorem AM(p:Int×ByteArray->Bool)(g:Nat)(lb:Array E)(X:∀args w,(callFunc g args).run prog w=.ok (.enter g args) w)(a:Option Addr)(c:Nat)(l:List (Int×ByteArray))(w:K)(h:SegW w a l)(R:l.length<=maxLen)
  (Q:∀(x:Int×ByteArray) (W:K),Below w.heap.size w W->Calls prog g (#[F #[H G x.1,A x.2]]++lb) W λe D=>e=N (Y (p x))/\Below w.heap.size w D):
  Calls prog 147 #[M a l.length c,.func (.func g) #[] lb] w λe D=>e=N (Y (l.any p))/\Below w.heap.size w D:=by
 go_enter func147,ntmps147;go_wp2_with fail;refine(yO p g lb X a c l w h R Q).mono ?_;rintro e w1 ⟨i,rfl,L,hb⟩;have B:=zA (MQ L);clear L;go_wp2;go_ret;exact⟨by rw[B.o];rfl,hb⟩
theorem vS(x:Int×ByteArray)(W:K):
  Calls prog 197 (#[F #[H G x.1,A x.2]]++#[]) W λe B=>e=N (Y (!oA x.2))/\Below W.heap.size W B:=by
 obtain⟨n,t⟩:=x;show Calls prog 197 #[F #[H G n,A t]] W _;go_enter func197,ntmps197;go_wp2;go_ret;exact⟨rfl,qA _ _⟩
theorem yW(l:List (Int×ByteArray)):NB l= !l.any λx=> !oA x.2:=by
 simp[NB,List.all_eq_not_any_not]
theorem IQ(a:Option Addr)(c:Nat)(l:List (Int×ByteArray))(w:K)(h:SegW w a l)(D:l.length<=maxLen):
  Calls prog 154 #[M a l.length c] w λe B=>e=N (Y (NB l))/\Below w.heap.size w B:=by
 rw[yW];go_enter func154,ntmps154;go_wp2_with fail;refine(AM (λx=> !oA x.2) 197 #[] (Go.Proofs.enters_of func197 (by kernel_rfl) rfl) a c l w h D (λx W hb=>(vS x W).mono λ_ _ ⟨h1,h2⟩=>⟨h1,hb.trans (h2.mono hb.size)⟩)).mono ?_;rintro e w1 ⟨rfl,hb⟩;go_wp2;go_ret;exact⟨rfl,hb⟩
theorem FR(B:Nat)(b:Int)(x:Int×ByteArray)(W:K)(hB:B<W.heap.size)(hc:W.cell? ⟨B,0,Z⟩=J (H G b)):
  Calls prog 214 (#[F #[H G x.1,A x.2]]++#[C (J ⟨B,0,Z⟩)]) W λe D=>e=N (Y (x.1==b))/\Below W.heap.size W D:=by
 obtain⟨n,t⟩:=x;show Calls prog 214 #[F #[H G n,A t],C (J ⟨B,0,Z⟩)] W _;have A0:B≠W.heap.size:=by omega
 go_enter func214,ntmps214;go_wp2;go_ret;exact⟨rfl,qA _ _⟩
theorem KI(l:List (Int×ByteArray))(b:Int):(uA b l).isSome=l.any λx=>x.1==b:=by
 induction l with
 |nil=>rfl
 |cons x r ih=>
  rw[uA,List.any_cons];by_cases e:x.1=b
  .simp[e]
  .rw[Qb e,ih,show(x.1==b)=O from by simpa using e];rfl
theorem TN{l:List (Int×ByteArray)}{b:Int}(h:(l.any λx=>x.1==b)=O):uA b l=Z:=by
 have:=KI l b;rw[h]at this
 cases e:uA b l with
 |none=>rfl
 |some t=>rw[e]at this;cases this
theorem xI(a:Option Addr)(c:Nat)(l:List (Int×ByteArray))(b:Int)(w:K)(h:SegW w a l)(j:l.length<=maxLen):
  Calls prog 181 #[M a l.length c,H G b] w λe q=>e=N (S #[A ((uA b l).getD ⟨#[]⟩),Y (uA b l).isSome])/\Below w.heap.size w q:=by
 have m:=zA h;clear h;go_enter func181,ntmps181;go_wp2_with fail;refine(yO (λx=>x.1==b) 214 #[C (J ⟨w.heap.size,0,Z⟩)] (Go.Proofs.enters_of func214 (by kernel_rfl) rfl) a c l _ (m.o.below (qA _ _)) j (λx W hb=>(FR w.heap.size b x W (by have:=hb.size;simp at this;omega) ((hb.cell (p:=⟨w.heap.size,0,Z⟩) (by simp)).trans (by simp[go_sem]))).mono λ_ _ ⟨h1,h2⟩=>⟨h1,hb.trans (h2.mono hb.size)⟩)).mono ?_;rintro e w1 ⟨i,rfl,B,E⟩;have F:=zA (vA (qA _ _) E);have s:=zA (m.o.below F.o);clear E;rcases B with⟨rfl,B⟩|⟨k,x,rfl,Q,X,d⟩
 .have I:Hid (uA b l=Z):=TN B;clear B;go_wp2
  go_ret2
  exact⟨by rw[I.o];rfl,F.o⟩
 .have D:x.1=b:=by simpa using X
  have I:Hid (uA b l=J x.2):=dK Q D (TN d);have R:k<l.length:=(gd.1 Q).1;obtain⟨b2,A1,rfl,hb,L⟩:=s.o.resolve_left (by intro e;rw[e]at R;simp at R);have r:=(L k R).2;have n:l.getD k (0,U)=x:=by rw[List.getD,Q];rfl
  rw[n]at r;unfold maxLen at j;have A0:(k:Int)<(l.length:Int):=by omega
  clear L Q X d D n;go_wp2
  go_ret2
  exact⟨by rw[I.o];rfl,F.o⟩
theorem oO(a:Option Addr)(c:Nat)(l:List (Int×ByteArray))(b:Int)(w:K)(h:SegW w a l)(D:l.length<=maxLen):
  Calls prog 161 #[M a l.length c,H G b] w λe B=>e=N (Y (uA b l).isSome)/\Below w.heap.size w B:=by
 go_enter func161,ntmps161;go_wp2_with fail;refine(xI a c l b w h D).mono ?_;rintro e w1 ⟨rfl,A⟩;go_wp2;go_ret;exact⟨rfl,A⟩
theorem za(a:Option Addr)(c:Nat)(l:List Int)(b:Int)(w:K)(h:SegI w a l)(Q:l.length<=maxLen):
  Calls prog 206 #[M a l.length c,H G b] w λe L=>∃i:Int,e=N (H G i)/\oF (·==b) l i/\w=L:=by
 unfold maxLen at Q;have I:=zA h;clear h;go_enter func206,ntmps206;go_wp2
 go_loop [8] (λi=>∃k:Nat,k<=l.length/\i=H G k/\Hid ((l.take k).any (·==b)=O)) (λi=>l.length - (intOf i).toNat)
 case atStart=>exact⟨0,Vb _,rfl,by simp[Hid]⟩
 case round=>
  obtain⟨k,hk,rfl,A⟩:=hrel;by_cases hlt:k<l.length
  .obtain⟨b2,A1,rfl,hb,E⟩:=I.o.resolve_left (by intro e;rw[e]at hlt;simp at hlt);obtain⟨x,C⟩:∃x,x=l.getD k 0:=⟨_,rfl⟩;have D:=E k hlt;rw[<-C]at D;have F:Hid (l[k]?=J x):=by rw[C];exact YA _ _ _ hlt
   clear C E;have A0:(k:Int)<(l.length:Int):=by omega
   by_cases he:x=b
   .have B:Hid (oF (·==b) l (k:Int)):=.inr ⟨k,x,rfl,F.o,by simpa using he,A.o⟩;subst he;clear A;go_wp2;go_ret;exact⟨_,rfl,B.o,rfl⟩
   .have R:=zA (CK F.o (show(x==b)=O by simpa using he) A.o);have A2:¬b=x:=λe=>he e.symm;clear A;go_wp2
    go_round
    case rel=>exact⟨k+1,by omega,by go_num,R⟩
    case measure=>simp[intOf];omega
  .have B:Hid (oF (·==b) l (-1)):=.inl ⟨rfl,by have:=A.o;rw[zd (by omega)]at this;exact this⟩;clear A;go_wp2;go_ret;exact⟨_,rfl,B.o,rfl⟩
theorem jI(a:Option Addr)(c:Nat)(l:List Int)(b:Int)(w:K)(h:SegI w a l)(L:l.length<=maxLen):
  Calls prog 168 #[M a l.length c,H G b] w λe D=>e=N (Y (tA l b))/\w=D:=by
 go_enter func168,ntmps168;go_wp2_with fail;refine(za a c l b w h L).mono ?_;rintro e w1 ⟨i,rfl,A,rfl⟩;have B:Hid (tA l b=decide (0<=i)):=MQ A;clear A;go_wp2;go_ret;exact⟨by rw[B.o];rfl,rfl⟩
theorem PI(v:E)(t:Tx)(b:Int)(w:K)(h:IsTx w v t):
  Calls prog 167 #[v,H G b] w λe X=>e=N (Y (EB t b))/\Below w.heap.size w X:=by
 obtain⟨a,c,a',c',r,d,rfl,R,L,Q,M,n2,F⟩:=h;have i:=zA R;have O:=zA Q;have j:=zA F;clear R L Q F;go_enter func167,ntmps167;go_wp2_with fail;refine(oO a c t.info b _ (i.o.below (qA _ _)) M).mono ?_;rintro e J ⟨rfl,A⟩;have A0:w.heap.size<J.heap.size:=by have:=A.size;simp at this;omega
 obtain⟨⟨_,_,_,x3,_⟩,_⟩:=BA (TG A);have C:=zA (vA (qA _ _) A);have D:=zA (O.o.below C.o);clear A
 cases hi:(uA b t.info).isSome with
 |true=>
  have B:Hid (EB t b=I):=by rw[Hid,EB,hi];rfl
  go_wp2;go_ret;exact⟨by rw[B.o];rfl,C.o⟩
 |false=>
  have B:Hid (EB t b=tA t.rev b):=by rw[Hid,EB,hi];rfl
  go_wp2_with fail;refine(jI r d t.rev b _ D.o j.o).mono ?_;rintro e w2 ⟨rfl,rfl⟩;go_wp2;go_ret;exact⟨by rw[B.o];rfl,C.o⟩
theorem bL(o:Bool)(l:Int)(W:K):
  Calls prog 172 #[F #[Y o,H G l]] W λe B=>e=N (Y o)/\Below W.heap.size W B:=by
 go_enter func172,ntmps172;go_wp2;go_ret;exact⟨rfl,qA _ _⟩
def FO (w:K)(B off:Nat)(D L Q:Hd):Prop:=
 B<w.heap.size/\(w.cell? ⟨B,off,Z⟩=J (Y D.on)/\w.cell? ⟨B,off+1,Z⟩=J (H G D.left))/\(w.cell? ⟨B,off+2,Z⟩=J (Y L.on)/\w.cell? ⟨B,off+3,Z⟩=J (H G L.left))/\(w.cell? ⟨B,off+4,Z⟩=J (Y Q.on)/\w.cell? ⟨B,off+5,Z⟩=J (H G Q.left))
theorem uU(B:Nat)(j l k:Hd)(w:K)(h:FO w B 4 j l k):
  Calls prog 207 #[M (J ⟨B,4,Z⟩) 3 3,.func (.func 172) #[] #[]] w λe r=>∃i:Int,e=N (H G i)/\(j.on||l.on||k.on)=decide (0<=i)/\Below w.heap.size w r:=by
 obtain⟨R,Y⟩:=j;obtain⟨U,a⟩:=l;obtain⟨S,b⟩:=k;obtain⟨F,⟨Q,b0⟩,⟨m,n⟩,p,L⟩:=h;simp only[Nat.reduceAdd]at Q m p b0 n L;go_enter func207,ntmps207;go_wp2;refine wp_loop_rounds 4 ?_;rw[Ae];go_wp2_with fail;refine(bL R Y _).mono ?_;rintro e X ⟨rfl,A⟩
 cases R with
 |true=>
  go_wp2;go_ret;exact⟨_,rfl,by simp,A⟩
 |false=>
  have c1:=xA A F m;have c:=xA A F n;have c2:=xA A F p;have O:=xA A F L;have I:B<X.heap.size:=Xb F A.size;clear Q b0 m n p L;go_wp2;rw[Ae];go_wp2_with fail;refine(bL U a _).mono ?_;rintro e w2 ⟨rfl,D⟩;have C:=vA A D
  cases U with
  |true=>
   go_wp2;go_ret;exact⟨_,rfl,by simp,C⟩
  |false=>
   have d:=xA D I c2;have s:=xA D I O;clear c1 c c2 O A D;go_wp2;rw[Ae];go_wp2_with fail;refine(bL S b _).mono ?_;rintro e w3 ⟨rfl,q⟩;have E:=vA C q;clear d s C q
   cases S with
   |true=>
    go_wp2;go_ret;exact⟨_,rfl,by simp,E⟩
   |false=>
    go_wp2;rw[Ae];go_wp2;go_ret;exact⟨_,rfl,by simp,E⟩
theorem nT(B:Nat)(L R Q:Hd)(w:K)(h:FO w B 4 L R Q):
  Calls prog 171 #[M (J ⟨B,4,Z⟩) 3 3,.func (.func 172) #[] #[]] w λe X=>e=N (Y (L.on||R.on||Q.on))/\Below w.heap.size w X:=by
 go_enter func171,ntmps171;go_wp2_with fail;refine(uU B L R Q w h).mono ?_;rintro e w1 ⟨i,rfl,A,C⟩;have D:=zA A;clear A;go_wp2;go_ret;exact⟨by rw[D.o];rfl,C⟩
theorem AW(q:Int)(a:Option Addr)(n c:Nat)(b:Option Addr)(Q X:Nat)(r:Option Addr)(m d:Nat)(D B L:Hd)(w:K):
  Calls prog 112 #[F #[H G q,M a n c,M b Q X,M r m d,Y D.on,H G D.left,Y B.on,H G B.left,Y L.on,H G L.left]] w λe R=>e=N (Y (D.on||B.on||L.on))/\Below w.heap.size w R:=by
 go_enter func112,ntmps112;go_wp2_with fail;refine(nT w.heap.size D B L _ ⟨by simp,⟨by simp[go_sem],by simp[go_sem]⟩,⟨by simp[go_sem],by simp[go_sem]⟩,by simp[go_sem],by simp[go_sem]⟩).mono ?_;rintro e w1 ⟨rfl,A⟩;go_wp2;go_ret;exact⟨rfl,vA (qA _ _) A⟩
theorem cO(v:E)(t:Tx)(w:K)(D:IsTx w v t):
  Calls prog 112 #[v] w λe B=>e=N (Y (uC t))/\Below w.heap.size w B:=by
 obtain⟨a,c,a',c',r,d,rfl,_,_,_,_,_,_⟩:=D;exact AW _ _ _ _ _ _ _ _ _ _ t.h0 t.h1 t.h2 w
