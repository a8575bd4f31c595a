import Derived.Test.YtjnpndfpajjihadGreatGrJournalRuns0
import Derived.Deep.QuietTactic
import Derived.BigQuiet
set_option maxRecDepth 100000
set_option maxHeartbeats 40000000
namespace Go.Proofs.YtjnpndfpajjihadGreat
open Go.RowKit
open Value renaming int -> H,slice -> M,string -> A,bool -> Y,agg -> F,tuple -> S
open IntKind renaming i64 -> G
open Option renaming none -> Z,some -> J
open Bool renaming false -> O,true -> I
open Go renaming World -> K,Value -> E
open Obj renaming cells -> T
open Ending renaming returned -> N
open _root_.ByteArray renaming empty -> U
variable{b y:Int}{k n:Nat}{l:List (Int×ByteArray)}{w:World}{x:Int×ByteArray}
def tA (l:List Int)(b:Int):Bool:=l.any (·==b)
def uA (b:Int):List (Int×ByteArray)->Option ByteArray
 |[]=>Z
 |x::r=>if x.1=b then J x.2 else uA b r
theorem eQ{α:Type}{l:List α}{x:α}{p:α->Bool}(h:l[k]?=J x)(B:p x=I):l.any p=I:=
 Ve.2 ⟨x,Yc h,B⟩
theorem CK{α:Type}{l:List α}{x:α}{p:α->Bool}(h:l[k]?=J x)(B:p x=O)(D:(l.take k).any p=O):(l.take (k+1)).any p=O:=by
 rw[Oc,h,zg,D];simp[B]
theorem dK(h:l[k]?=J x)(D:x.1=b)(B:uA b (l.take k)=Z):uA b l=J x.2:=by
 induction l generalizing k with
 |nil=>simp at h
 |cons y r ih=>
  cases k with
  |zero=>simp at h;subst h;simp[uA,D]
  |succ k=>
   rw[qg,uA]at B;by_cases e:y.1=b
   .rw[Rb e]at B;cases B
   .rw[Qb e]at B;rw[uA,Qb e];exact ih (by simpa using h) B
theorem cP(h:l[k]?=J x)(D:¬x.1=b)(B:uA b (l.take k)=Z):uA b (l.take (k+1))=Z:=by
 induction l generalizing k with
 |nil=>simp at h
 |cons y r ih=>
  cases k with
  |zero=>simp at h;subst h;simp[uA,D]
  |succ k=>
   rw[qg,uA]at B|-;by_cases e:y.1=b
   .rw[Rb e]at B;cases B
   .rw[Qb e]at B|-;exact ih (by simpa using h) B
open Go.Proofs.Tryz
structure Hd where
 on:Bool
 left:Int
structure Tx where
 seq:Int
 info:List (Int×ByteArray)
 data:List (Int×ByteArray)
 rev:List Int
 h0:Hd
 h1:Hd
 h2:Hd
def IsTx (w:K)(v:E)(t:Tx):Prop:=
 ∃a c B D b d,v=F #[H G t.seq,M a t.info.length c,M B t.data.length D,M b t.rev.length d,Y t.h0.on,H G t.h0.left,Y t.h1.on,H G t.h1.left,Y t.h2.on,H G t.h2.left]/\
  SegW w a t.info/\SegW w B t.data/\SegI w b t.rev/\t.info.length<=maxLen/\t.data.length<=maxLen/\t.rev.length<=maxLen
def RoomTx (v:E):Prop:=
 ∃s a n c h B D b m d L i X R Q e,v=F #[s,M a n c,M h B D,M b m d,L,i,X,R,Q,e]/\n<=c/\B<=D/\m<=d
theorem RoomTx.is{q L p X R Q i:E}{a j b:Option Addr}{c B D m d:Nat}(h:RoomTx (F #[q,M a n c,M j B D,M b m d,L,p,X,R,Q,i])):n<=c/\B<=D/\m<=d:=by
 obtain⟨s,a2,n2,c2,a3,n3,c3,b2,m2,d2,y0,y1,y2,y3,y4,y5,e,h⟩:=h;simp only[Value.agg.injEq]at e
 injection e with e
 simp only[List.cons.injEq,Value.slice.injEq,and_true]at e;obtain⟨_,⟨_,rfl,rfl⟩,⟨_,rfl,rfl⟩,⟨_,rfl,rfl⟩,_⟩:=e;exact h
theorem IsTx.below{w':K}{v:E}{t:Tx}(h:IsTx w v t)(hb:Below w.heap.size w w'):IsTx w' v t:=by
 obtain⟨a,c,C,L,b,d,rfl,F,B,J,D,I,A⟩:=h;exact⟨a,c,C,L,b,d,rfl,F.below hb,B.below hb,J.below hb,D,I,A⟩
theorem BA{B:Nat}{a R L D c X Q i d e:E}{t:TypeId}(h:w.heap[B]?=J (T #[a,R,L,D,c,X,Q,i,d,e] t (0,0))):
  (w.cell? ⟨B,0,Z⟩=J a/\w.cell? ⟨B,1,Z⟩=J R/\w.cell? ⟨B,2,Z⟩=J L/\w.cell? ⟨B,3,Z⟩=J D/\w.cell? ⟨B,4,Z⟩=J c/\w.cell? ⟨B,5,Z⟩=J X/\w.cell? ⟨B,6,Z⟩=J Q/\w.cell? ⟨B,7,Z⟩=J i/\w.cell? ⟨B,8,Z⟩=J d/\w.cell? ⟨B,9,Z⟩=J e)/\
  ∀k,w.frozen? ⟨B,k,Z⟩=O:=by
 refine⟨⟨?_,?_,?_,?_,?_,?_,?_,?_,?_,?_⟩,λk=>jd w _ _ _ _ h⟩<;>(rw[Hc w _ _ _ _ _ h];rfl)
def uC (t:Tx):Bool:=t.h0.on||t.h1.on||t.h2.on
def jB (t:Tx):Int:=wrap64 (wrap64 (wrap64 (wrap64 ((t.info.length:Int)+(t.rev.length:Int))+t.h0.left)+t.h1.left)+t.h2.left)
theorem sX(d:Nat)(o p:Bool)(l m:Int)(w:K):
  (Op.equalIn (d+2) 49 (F #[Y o,H G l]) (F #[Y p,H G m])).run prog w=.ok (o==p&&l==m) w:=by
 have B:prog.underlying 49=J (.struct (prog.fieldsOf 49)):=by kernel_rfl
 have A:prog.stoodInHeld 49=O:=by kernel_rfl
 rw[run_equalIn_agg w (d+1) 49 _ _ B A];simp[Op.eqFields,go_sem,Program.fieldsOf,underlying49,underlying3,underlying4];by_cases h1:o=p
 .by_cases h2:l=m<;>simp[h1,h2]
 .simp[h1]
theorem LZ(d:Nat)(D i h L B p2:Bool)(Q a c X e R:Int)(w:K):
  (Op.equalIn (d+3) 50 (F #[Y D,H G Q,Y i,H G a,Y h,H G c]) (F #[Y L,H G X,Y B,H G e,Y p2,H G R])).run prog w=.ok ((D==L&&Q==X)&&(i==B&&a==e)&&(h==p2&&c==R)) w:=by
 unfold Op.equalIn;simp only[Sem.run_bind,run_underlying underlying50,Result.andThen_ok];simp[go_sem,List.range',sX];by_cases h1:D=L<;>by_cases h2:Q=X<;>by_cases h3:i=B<;>by_cases h4:a=e<;>by_cases h5:h=p2<;>by_cases h6:c=R<;>simp[h1,h2,h3,h4,h5,h6]
theorem sQ(a:Option Addr)(c:Nat)(Q:Option Addr)(X:Nat)(l:List (Int×ByteArray))(w:K)(h:SegW w a l)(L:SegW w Q l)(d:l.length<=maxLen):
  Calls Tryz.prog 43 #[M a l.length c,M Q l.length X] w λe R=>e=N (Y I)/\Below w.heap.size w R:=by
 unfold maxLen at d;have J:=zA h;have E:=zA L;clear h L;go_enter Tryz.func43,Tryz.ntmps43;go_wp2
 go_loopw [13] (λi wr=>∃k q:Nat,k<=l.length/\i=H G k/\wr=w.drewN q) (λi _=>l.length - (intOf i).toNat)
 case atStart=>exact⟨0,0,Vb _,rfl,rfl⟩
 case round=>
  obtain⟨k,q,hk,rfl,rfl⟩:=hrel;by_cases hlt:k<l.length
  .obtain⟨b1,o1,rfl,A2,B⟩:=J.o.resolve_left (by intro e;rw[e]at hlt;simp at hlt);obtain⟨b2,o2,rfl,A1,A⟩:=E.o.resolve_left (by intro e;rw[e]at hlt;simp at hlt);obtain⟨j,F⟩:=B k hlt;obtain⟨m,C⟩:=A k hlt;obtain⟨x,D⟩:∃x,x=l.getD k (0,U):=⟨_,rfl⟩;rw[<-D]at j F m C;clear B A D;obtain⟨n,s⟩:=x;have A0:(k:Int)<(l.length:Int):=by omega
   go_wp2
   go_quiet (fail)
   go_wp2
   go_roundw
   case rel=>exact⟨k+1,_,by omega,by go_num,rfl⟩
   case measure=>simp[intOf];omega
  .go_wp2;go_ret;exact⟨rfl,Qc (Ub _ _) _⟩
theorem oW(v1 v2:E)(t:Tx)(w:K)(h1:IsTx w v1 t)(h2:IsTx w v2 t):
  Calls Tryz.prog 14 #[v1,v2] w λe w'=>e=N (Y I)/\Below w.heap.size w w':=by
 obtain⟨a,c,a',c',b,d,rfl,u,hd,r,y,n2,n3⟩:=h1;obtain⟨A,C,A',C',B,D,rfl,O,R,z,_,_,_⟩:=h2;have HM:=zA u;have HD:=zA hd;have HR:=zA r;have m:=zA O;have s:=zA R;have B1:=zA z;have p:=zA y;have j:=zA n2;unfold maxLen at n3;clear u hd r O R z y n2
 have A3:∀w:K,(Op.equalIn 10000 50 (F #[Y t.h0.on,H G t.h0.left,Y t.h1.on,H G t.h1.left,Y t.h2.on,H G t.h2.left]) (F #[Y t.h0.on,H G t.h0.left,Y t.h1.on,H G t.h1.left,Y t.h2.on,H G t.h2.left])).run Tryz.prog w=.ok I w:=λw=>by
  have:=LZ 9997 t.h0.on t.h1.on t.h2.on t.h0.on t.h1.on t.h2.on t.h0.left t.h1.left t.h2.left t.h0.left t.h1.left t.h2.left w
  simpa only[beq_self_eq_true,Bool.and_self] using this
 go_enter Tryz.func14,Tryz.ntmps14;go_wp2_with fail;refine(sQ _ _ _ _ t.info _ (HM.o.below (vA (qA _ _) (qA _ _))) (m.o.below (vA (qA _ _) (qA _ _))) p.o).mono ?_;rintro e h ⟨rfl,A7⟩;have A4:w.heap.size+1<h.heap.size:=by have:=A7.size;simp at this;omega
 have A1:w.heap.size<h.heap.size:=by omega
 have U:=zA (sB A7);have S:=zA (JB A7);obtain⟨⟨x0,x1,x2,Q,x4,x5,x6,x7,x8,x9⟩,_⟩:=BA U.o;obtain⟨⟨y0,y1,y2,X,y4,y5,y6,y7,y8,y9⟩,_⟩:=BA S.o;have A8:=zA (vA (vA (qA _ _) (qA _ _)) A7);clear A7;go_wp2_with fail;refine(sQ _ _ _ _ t.data _ (HD.o.below A8.o) (s.o.below A8.o) j.o).mono ?_;rintro e A9 ⟨rfl,A6⟩;have A5:w.heap.size+1<A9.heap.size:=by have:=A6.size;omega
 have A2:w.heap.size<A9.heap.size:=by omega
 have z3:=xA A6 (by omega) Q;have u3:=xA A6 (by omega) X;have J:=zA (vA A8.o A6);have l:=zA (HR.o.below J.o);have M:=zA (B1.o.below J.o);clear A6 x0 x1 x2 Q x4 x5 x6 x7 x8 x9 y0 y1 y2 X y4 y5 y6 y7 y8 y9 U S;go_wp2
 go_loopw [46] (λi wr=>∃k q:Nat,k<=t.rev.length/\i=H G k/\wr=A9.drewN q) (λi _=>t.rev.length - (intOf i).toNat)
 case atStart=>exact⟨0,0,Vb _,rfl,rfl⟩
 case round=>
  obtain⟨k,q,hk,rfl,rfl⟩:=hrel;by_cases hlt:k<t.rev.length
  .obtain⟨b1,o1,rfl,A7,L⟩:=l.o.resolve_left (by intro e;rw[e]at hlt;simp at hlt);obtain⟨b2,o2,rfl,A6,B0⟩:=M.o.resolve_left (by intro e;rw[e]at hlt;simp at hlt);have g1:=L k hlt;have g2:=B0 k hlt;obtain⟨n,Z⟩:∃x,x=t.rev.getD k 0:=⟨_,rfl⟩;rw[<-Z]at g1 g2;clear L B0 Z;have A0:(k:Int)<(t.rev.length:Int):=by omega
   go_wp2
   go_quiet (fail)
   go_wp2
   go_roundw
   case rel=>exact⟨k+1,_,by omega,by go_num,rfl⟩
   case measure=>simp[intOf];omega
  .go_wp2;go_ret;exact⟨rfl,Qc J.o _⟩
theorem yX(p:Option Addr)(c1:Nat)(a:Option Addr)(h:Nat)(r:Option Addr)(c2:Nat)(c:Option Addr)(m:Nat)(d:Dk)(w:K)
  (A2:SegS w p d.safe) (z:SegW w a d.wr) (A3:SegS w r d.safe) (u:SegW w c d.wr) (hn:d.safe.length<=maxLen) (hm:d.wr.length<=maxLen):
  Calls Tryz.prog 16 #[F #[M p d.safe.length c1,M a d.wr.length h],F #[M r d.safe.length c2,M c d.wr.length m]] w λe w'=>e=N (Y I)/\Below w.heap.size w w':=by
 unfold maxLen at hn hm;have A7:Hid (SegS w p d.safe):=A2;have O:Hid (SegS w r d.safe):=A3;have A6:Hid (SegW w a d.wr):=z;have A9:Hid (SegW w c d.wr):=u;clear A2 A3 z u;go_enter Tryz.func16,Tryz.ntmps16;go_wp2
 go_loopw [26] (λi wr=>∃k q:Nat,k<=d.safe.length/\i=H G k/\wr=((w.alloc (T #[M p d.safe.length c1,M a d.wr.length h] 45)).alloc (T #[M r d.safe.length c2,M c d.wr.length m] 45)).drewN q) (λi _=>d.safe.length - (intOf i).toNat)
 case atStart=>exact⟨0,0,Vb _,rfl,rfl⟩
 case round=>
  obtain⟨k,q,hk,rfl,rfl⟩:=hrel;by_cases hlt:k<d.safe.length
  .obtain⟨R,X,rfl,Q,B⟩:=A7.o.resolve_left (by intro e;rw[e]at hlt;simp at hlt);obtain⟨S,A8,rfl,J,A⟩:=O.o.resolve_left (by intro e;rw[e]at hlt;simp at hlt);have C:=B k hlt;have D:=A k hlt;obtain⟨s,A4⟩:∃s,s=d.safe.getD k U:=⟨_,rfl⟩;rw[<-A4]at C D;clear B A A4;have A1:(k:Int)<(d.safe.length:Int):=by omega
   go_wp2
   go_quiet (fail)
   go_wp2
   go_roundw
   case rel=>exact⟨k+1,_,by omega,by go_num,rfl⟩
   case measure=>simp[intOf];omega
  .go_wp2
   go_loopw [44] (λi wr=>∃k q:Nat,k<=d.wr.length/\i=H G k/\wr=((w.alloc (T #[M p d.safe.length c1,M a d.wr.length h] 45)).alloc (T #[M r d.safe.length c2,M c d.wr.length m] 45)).drewN q) (λi _=>d.wr.length - (intOf i).toNat)
   case atStart=>exact⟨0,_,Vb _,rfl,rfl⟩
   case round=>
    obtain⟨j,q',hj,rfl,rfl⟩:=hrel;by_cases hltj:j<d.wr.length
    .obtain⟨R,X,rfl,Q,B⟩:=A6.o.resolve_left (by intro e;rw[e]at hltj;simp at hltj);obtain⟨S,A8,rfl,J,A⟩:=A9.o.resolve_left (by intro e;rw[e]at hltj;simp at hltj);obtain⟨C,A5⟩:=B j hltj;obtain⟨D,E⟩:=A j hltj;obtain⟨x,L⟩:∃x,x=d.wr.getD j (0,U):=⟨_,rfl⟩;rw[<-L]at C A5 D E;clear B A L;obtain⟨n,s⟩:=x;have A0:(j:Int)<(d.wr.length:Int):=by omega
     go_wp2
     go_quiet (fail)
     go_wp2
     go_roundw
     case rel=>exact⟨j+1,_,by omega,by go_num,rfl⟩
     case measure=>simp[intOf];omega
    .go_wp2;go_ret;exact⟨rfl,Qc (vA (qA _ _) (qA _ _)) _⟩
theorem kY(R Q:E)(d:Dk)(w:K)(h1:IsDk w R d)(h2:IsDk w Q d):
  Calls Tryz.prog 16 #[R,Q] w λe X=>e=N (Y I)/\Below w.heap.size w X:=by
 obtain⟨a,c,j,F,rfl,i,C,L,D⟩:=h1;obtain⟨b,e,h,J,rfl,B,A,_,_⟩:=h2;exact yX a c j F b e h J d w i C B A L D
theorem QS(x:Int)(w:K):
  Calls Tryz.prog 20 #[H G x] w λe B=>e=N (F #[H G x,H G 0,A ⟨#[]⟩])/\Below w.heap.size w B:=by
 go_enter Tryz.func20,Tryz.ntmps20;go_wp2;refine Tb (v:=F #[H G x,H G 0,A ⟨#[]⟩]) (by simp[results,Tryz.results20,go_sem]) rfl ⟨rfl,?_⟩
 repeat refine Zb ?_ (by simp) _
 exact qA _ _
def blksOf (l:List (Int×ByteArray)):List Int:=l.map (·.1)
def YC (t:Tx):List Int:=blksOf t.info++(blksOf t.data++t.rev)
def NB (l:List (Int×ByteArray)):Bool:=l.all λx=>oA x.2
def hdB (h:Hd):Bool:=decide (0<=h.left)&&decide (h.left<=24)&&(h.on||decide (h.left=0))
def nA (t:Tx):Bool:=(decide (1<=t.seq)&&decide (t.seq<=2147483647))&&(NB t.info&&NB t.data)&&(iA (blksOf t.info)&&iA (blksOf t.data)&&iA t.rev)&&decide (YC t).Nodup&&(hdB t.h0&&hdB t.h1&&hdB t.h2)
theorem nC(h:Hd):hdB h=I↔0<=h.left/\h.left<=24/\(h.on=O->h.left=0):=by
 cases ho:h.on<;>simp[hdB,ho,and_assoc]
theorem VA(t:Tx):nA t=I↔(1<=t.seq/\t.seq<=2147483647)/\(NB t.info=I/\NB t.data=I)/\(iA (blksOf t.info)=I/\iA (blksOf t.data)=I/\iA t.rev=I)/\(YC t).Nodup/\(hdB t.h0=I/\hdB t.h1=I/\hdB t.h2=I):=by
 simp only[nA,Bool.and_eq_true,decide_eq_true_eq,and_assoc]
def IA (t:Tx)(h:Int):Hd:=if h=0 then t.h0 else if h=1 then t.h1 else t.h2
def QB (t:Tx)(h:Int)(x:Hd):Tx:=if h=0 then{t with h0:=x} else if h=1 then{t with h1:=x} else{t with h2:=x}
def beginE (t:Tx)(h n free:Int):Int:=
 if nA t=O then 2 else if h<0\/2<h then 4 else if(IA t h).on=I then 5 else if n<0\/12<n then 2
 else if 24<jB t+n\/free<RA (jB t+n) then 6 else 0
def beginT (t:Tx)(h n free:Int):Tx:=if beginE t h n free=0 then QB t h ⟨I,n⟩ else t
def stopE (t:Tx)(h:Int):Int:=if nA t=O then 2 else if h<0\/2<h\/(IA t h).on=O then 4 else 0
def stopT (t:Tx)(h:Int):Tx:=if stopE t h=0 then QB t h ⟨O,0⟩ else t
def reachE (t:Tx)(h b:Int):Int:=if nA t=O then 2 else if h<0\/2<h\/(IA t h).on=O\/b<0\/11<b then 4 else 0
def EB (t:Tx)(b:Int):Bool:=(uA b t.info).isSome||tA t.rev b
def nameE (t:Tx)(h b:Int):Int:=if EB t b=I then 0 else if(IA t h).left=0 then 7 else 0
def nameT (t:Tx)(h b:Int):Tx:=if EB t b=I then t else QB t h ⟨(IA t h).on,(IA t h).left - 1⟩
def putAt {α:Type}(key:α->Int)(l:List α)(b:Int)(x:α):List α:=l.filter (λy=>decide (key y<b))++x::l.filter (λy=>decide (b<key y))
def dropAt {α:Type}(key:α->Int)(l:List α)(b:Int):List α:=l.filter (λy=>decide (key y<b))++l.filter (λy=>decide (b<key y))
def changeE (t:Tx)(h b:Int)(s:ByteArray):Int:=
 if reachE t h b≠0 then reachE t h b else if oA s=O then 1 else if(uA b t.data).isSome=I then 8 else nameE t h b
def iD (t:Tx)(h b:Int)(s:ByteArray):Tx:={nameT t h b with info:=putAt (·.1) t.info b (b,s),rev:=dropAt id t.rev b}
def ZB (t:Tx)(h b:Int)(s:ByteArray):Tx:=if changeE t h b s=0 then iD t h b s else t
def fillE (t:Tx)(h b:Int)(s:ByteArray):Int:=
 if reachE t h b≠0 then reachE t h b else if oA s=O then 1 else if EB t b=I then 8 else 0
def xC (t:Tx)(h b:Int)(s:ByteArray):Tx:=if fillE t h b s=0 then{t with data:=putAt (·.1) t.data b (b,s)} else t
def revokeE (t:Tx)(h b:Int):Int:=
 if reachE t h b≠0 then reachE t h b else if tA t.rev b=I then 5 else nameE t h b
def FD (t:Tx)(h b:Int):Tx:={nameT t h b with info:=dropAt (·.1) t.info b,data:=dropAt (·.1) t.data b,rev:=putAt id t.rev b b}
def GB (t:Tx)(h b:Int):Tx:=if revokeE t h b=0 then FD t h b else t
theorem kG(t:Tx)(h b:Int):(nameT t h b).info=t.info/\(nameT t h b).data=t.data/\(nameT t h b).rev=t.rev:=by
 unfold nameT QB;split
 .exact⟨rfl,rfl,rfl⟩
 .split
  .exact⟨rfl,rfl,rfl⟩
  .split<;>exact⟨rfl,rfl,rfl⟩
theorem DN{α:Type}{key:α->Int}{l:List α}(b:Int)(x:α)(D:key x=b)(j:Int)(hj:j≠b):(putAt key l b x).filter (λy=>decide (key y=j))=l.filter (λy=>decide (key y=j)):=by
 unfold putAt;rw[Qf,ie,Qb (by simp[D];omega),vg,vg];by_cases h:j<b
 .have A:l.filter (λa=>decide (key a=j)&&decide (key a<b))=l.filter (λy=>decide (key y=j)):=List.filter_congr (λz _=>by by_cases e:key z=j<;>simp[e,h]);have B:l.filter (λa=>decide (key a=j)&&decide (b<key a))=[]:=by rw[Je];intro z _;simp;omega
  rw[A,B,yd]
 .have A:l.filter (λa=>decide (key a=j)&&decide (b<key a))=l.filter (λy=>decide (key y=j)):=List.filter_congr (λz _=>by by_cases e:key z=j<;>simp[e];omega);have B:l.filter (λa=>decide (key a=j)&&decide (key a<b))=[]:=by rw[Je];intro z _;simp;omega
  rw[A,B,List.nil_append]
theorem TQ{α:Type}{key:α->Int}{l:List α}(b:Int)(x:α)(D:key x=b):(putAt key l b x).filter (λy=>decide (key y=b))=[x]:=by
 unfold putAt;rw[Qf,ie,Rb (by simp[D]),vg,vg];have A:l.filter (λa=>decide (key a=b)&&decide (b<key a))=[]:=by rw[Je];intro z _;simp;omega
 have B:l.filter (λa=>decide (key a=b)&&decide (key a<b))=[]:=by rw[Je];intro z _;simp;omega
 rw[A,B];rfl
theorem wE{α:Type}{key:α->Int}{l:List α}{x y:α}:y∈putAt key l b x↔y=x\/(y∈l/\key y≠b):=by
 unfold putAt;simp only[List.mem_append,List.mem_cons,List.mem_filter,decide_eq_true_eq];constructor
 .rintro(⟨a,c⟩|rfl|⟨a,c⟩)
  .exact .inr ⟨a,by omega⟩
  .exact .inl rfl
  .exact .inr ⟨a,by omega⟩
 .rintro(rfl|⟨a,c⟩)
  .exact .inr (.inl rfl)
  .by_cases h:key y<b
   .exact .inl ⟨a,h⟩
   .exact .inr (.inr ⟨a,by omega⟩)
theorem OE{α:Type}{key:α->Int}{l:List α}{y:α}:y∈dropAt key l b↔y∈l/\key y≠b:=by
 unfold dropAt;simp only[List.mem_append,List.mem_filter,decide_eq_true_eq];constructor
 .rintro(⟨a,c⟩|⟨a,c⟩)<;>exact⟨a,by omega⟩
 .rintro⟨a,c⟩;by_cases h:key y<b
  .exact .inl ⟨a,h⟩
  .exact .inr ⟨a,by omega⟩
theorem sI{α:Type}{key:α->Int}{l:List α}(h:Up key l){x:α}(hx:key x=b):Up key (putAt key l b x):=by
 unfold putAt Up;rw[List.pairwise_append,We];refine⟨h.filter _,⟨λy B=>?_,h.filter _⟩,λy B z hz=>?_⟩
 .have:=(Xd.1 B).2;simp at this;omega
 .have A:=(Xd.1 B).2;simp at A;rcases Xc.1 hz with rfl|hz
  .omega
  .have:=(Xd.1 hz).2;simp at this;omega
theorem dJ{α:Type}{key:α->Int}{l:List α}(h:Up key l)(b:Int):Up key (dropAt key l b):=by
 unfold dropAt Up;rw[List.pairwise_append];refine⟨h.filter _,h.filter _,λy D z L=>?_⟩;have A:=(Xd.1 D).2;have B:=(Xd.1 L).2;simp at A B;omega
theorem UL{α:Type}{key:α->Int}{l:List α}(h:Up key l)(b:Int):dropAt key l b=l.filter (λy=>decide (key y≠b)):=by
 induction l with
 |nil=>rfl
 |cons x r ih=>
  have B:=We.1 h;have:=ih B.2;unfold dropAt at this|-;rw[ie,ie,ie];by_cases h1:key x<b
  .rw[Rb (by simpa using h1),Qb (by simp;omega),Rb (by simp;omega),<-this];rfl
  .have A:r.filter (λx=>decide (key x<b))=[]:=by rw[Je];intro y C;have:=B.1 y C;simp;omega
   rw[A]at this;rw[Qb (by simpa using h1),A];by_cases h2:key x=b
   .rw[Qb (by simp;omega),Qb (by simp[h2]),<-this]
   .rw[Rb (by simp;omega),Rb (by simp[h2]),<-this];rfl
theorem aO(h:Up (·.1) l)(j:Int):l.filter (λy=>decide (y.1=j))=((uA j l).map λt=>(j,t)).toList:=by
 induction l with
 |nil=>rfl
 |cons x r ih=>
  have A:=We.1 h;rw[ie,uA];by_cases e:x.1=j
  .have B:r.filter (λy=>decide (y.1=j))=[]:=by rw[Je];intro y C;have:=A.1 y C;simp at this|-;omega
   rw[Rb (by simpa using e),Rb e,B];simp[<-e]
  .rw[Qb (by simpa using e),Qb e];exact ih A.2
theorem xQ{l:List Int}(h:Up id l)(j:Int):l.filter (λy=>decide (id y=j))=if tA l j=I then[j] else[]:=by
 induction l with
 |nil=>rfl
 |cons x r ih=>
  have A:=We.1 h;rw[ie,tA,List.any_cons];by_cases e:x=j
  .have B:r.filter (λy=>decide (id y=j))=[]:=by rw[Je];intro y C;have:=A.1 y C;simp at this|-;omega
   rw[Rb (by simpa using e),B];simp[e]
  .rw[Qb (by simpa using e),ih A.2];simp[e,tA]
def docW (l:List (Int×ByteArray))(b:Int)(s:ByteArray)(j:Nat):List (Int×ByteArray):=if(j:Int)=b then[(b,s)] else((uA j l).map λt=>((j:Int),t)).toList
theorem uN(h:iA (blksOf l)=I)(h0:0<=b)(h1:b<=11)(s:ByteArray):(List.range 12).flatMap (docW l b s)=putAt (·.1) l b (b,s):=by
 rw[zB,blksOf,cD]at h;have hb:∀x∈l,0<=x.1/\x.1<=11:=λx A=>h.1 x.1 (Wc.2 ⟨x,A,rfl⟩)
 have B:∀x∈putAt (·.1) l b (b,s),0<=x.1/\x.1<=11:=by
  intro x A;rcases wE.1 A with rfl|⟨A,_⟩
  .exact⟨h0,h1⟩
  .exact hb x A
 rw[wL (key:=(·.1)) (sI h.2 (x:=(b,s)) rfl) (λx A=>(B x A).1) _ 12,Eg.2]
 .intro x A;have:=B x A;simp;omega
 .intro j _;unfold docW;by_cases e:(j:Int)=b
  .rw[Rb e,e,TQ b (b,s) rfl]
  .rw[Qb e,DN b (b,s) rfl _ e,aO h.2]
def docR (l:List Int)(b:Int)(r:Bool)(j:Nat):List Int:=if((j:Int)=b/\r=I)\/((j:Int)≠b/\tA l j=I) then[(j:Int)] else[]
theorem EW{l:List Int}(h:iA l=I)(h0:0<=b)(h1:b<=11):(List.range 12).flatMap (docR l b I)=putAt id l b b:=by
 rw[zB]at h
 have B:∀x∈putAt id l b b,0<=x/\x<=11:=by
  intro x A;rcases wE.1 A with rfl|⟨A,_⟩
  .exact⟨h0,h1⟩
  .exact h.1 x A
 rw[wL (key:=id) (sI h.2 (b:=b) (x:=b) rfl) (λx A=>(B x A).1) _ 12,Eg.2]
 .intro x A;have:=B x A;simp;omega
 .intro j _;unfold docR;by_cases e:(j:Int)=b
  .rw[Rb (.inl ⟨e,rfl⟩),e,TQ b b rfl]
  .rw[DN b b rfl _ e,xQ h.2];by_cases k:tA l j=I
   .rw[Rb (.inr ⟨e,k⟩),Rb k]
   .rw[Qb (λz=>z.elim (λa=>e a.1) (λa=>k a.2)),Qb k]
theorem KW{l:List Int}(h:iA l=I):(List.range 12).flatMap (docR l b O)=dropAt id l b:=by
 rw[zB]at h;have B:∀x∈dropAt id l b,0<=x/\x<=11:=λx A=>h.1 x (OE.1 A).1;rw[wL (key:=id) (dJ h.2 b) (λx A=>(B x A).1) _ 12,Eg.2]
 .intro x A;have:=B x A;simp;omega
 .intro j _;unfold docR;rw[xQ (dJ h.2 b)]
  have C:tA (dropAt id l b) j=I↔(j:Int)≠b/\tA l j=I:=by
   simp only[tA,List.any_eq_true,beq_iff_eq];constructor
   .rintro⟨x,A,e⟩;have:=OE.1 A;rw[e]at this;exact⟨this.2,_,this.1,rfl⟩
   .rintro⟨a,x,A,e⟩;rw[e]at A;exact⟨_,OE.2 ⟨A,a⟩,rfl⟩
  by_cases k:(j:Int)≠b/\tA l j=I
  .rw[Rb (.inr k),Rb (C.2 k)]
  .rw[Qb (λz=>z.elim (λa=>Bool.noConfusion a.2) k),Qb (λa=>k (C.1 a))]
theorem QO(h:iA (blksOf l)=I)(b:Int):l.filter (λy=>decide (y.1≠b))=dropAt (·.1) l b:=by
 rw[zB,blksOf,cD]at h;exact(UL h.2 b).symm
def vC (f:Int->Option ByteArray)(j:Nat):List (Int×ByteArray):=((f (j:Int)).map λs=>((j:Int),s)).toList
def asN (f:Int->Option ByteArray)(n:Nat):List (Int×ByteArray):=(List.range n).flatMap (vC f)
theorem JD(f:Int->Option ByteArray)(n:Nat):asN f (n+1)=asN f n++vC f n:=by
 rw[asN,ce,de];simp[asN]
theorem PV(f:Int->Option ByteArray)(j:Nat):(vC f j).length<=1:=by
 unfold vC;cases f j<;>simp
theorem QG(f:Int->Option ByteArray)(n:Nat):(asN f n).length<=n:=by
 induction n with
 |zero=>exact Sb _
 |succ n ih=>rw[JD,Yb];have:=PV f n;omega
theorem GO{f g:Int->Option ByteArray}(h:∀j:Nat,j<n->f j=g j):asN f n=asN g n:=by
 induction n with
 |zero=>rfl
 |succ n ih=>rw[JD,JD,ih λj hj=>h j (by omega),vC,vC,h n (by omega)]
theorem dX(b:Int)(l r:List (Int×ByteArray)):uA b (l++r)=if(uA b l).isSome=I then uA b l else uA b r:=by
 induction l with
 |nil=>rfl
 |cons x l ih=>
  rw[List.cons_append,uA,uA];by_cases e:x.1=b
  .simp[e]
  .rw[Qb e,Qb e,ih]
theorem rZ(f:Int->Option ByteArray)(n:Nat)(b:Int):uA b (asN f n)=if 0<=b/\b<n then f b else Z:=by
 induction n with
 |zero=>rw[Qb (by omega)];rfl
 |succ n ih=>
  rw[JD,dX,ih];by_cases h:0<=b/\b<n
  .rw[Rb h,Rb (⟨h.1,by omega⟩:0<=b/\b<(n+1:Nat))]
   have e:uA b (vC f n)=Z:=by
    unfold vC
    cases f n with
    |none=>rfl
    |some s=>simp only[Option.map_some,Option.toList_some,uA];rw[Qb (by omega)]
   rw[e];cases f b<;>rfl
  .rw[Qb h];by_cases h2:b=n
   .subst h2;rw[Rb (⟨by omega,by omega⟩:(0:Int)<=(n:Int)/\(n:Int)<(n+1:Nat))];unfold vC
    cases f n with
    |none=>rfl
    |some s=>simp[uA]
   .rw[Qb (show¬(0<=b/\b<((n+1:Nat):Int)) by omega)];unfold vC
    cases f n with
    |none=>rfl
    |some s=>
     have A:¬(n:Int)=b:=λe=>h2 e.symm;simp[uA,A]
theorem FV(f:Int->Option ByteArray)(b:Int)(n:Nat):(asN f n).filter (λy=>decide (y.1≠b))=asN (λj=>if j=b then Z else f j) n:=by
 induction n with
 |zero=>rfl
 |succ n ih=>
  rw[JD,JD,Qf,ih]
  congr 1
  unfold vC;by_cases e:(n:Int)=b
  .cases f n<;>simp[e]
  .have A:(λj=>if j=b then Z else f j) (n:Int)=f n:=by simp[e]
   rw[A];cases f n<;>simp[e]
theorem wW(f:Int->Option ByteArray)(b:Int)(s:ByteArray):(List.range 12).flatMap (docW (asN f 12) b s)=asN (λj=>if j=b then J s else f j) 12:=by
 have key:∀j∈List.range 12,docW (asN f 12) b s j=vC (λj=>if j=b then J s else f j) j:=?_
 .show _=(List.range 12).flatMap _;rw[List.flatMap_def,List.flatMap_def,Fg key]
 intro j A;have A:=ae.1 A;have B:uA (j:Int) (asN f 12)=f j:=by rw[rZ,Rb (⟨by omega,by omega⟩:(0:Int)<=(j:Int)/\(j:Int)<(12:Nat))]
 unfold docW vC;rw[B];by_cases e:(j:Int)=b
 .simp[e]
 .simp[e]
def oD (b:Int)(o:Option ByteArray)(t:Tx):Option ByteArray:=if(uA b t.info).isSome=I then uA b t.info else if tA t.rev b=I then Z else o
def newestF (l:List Tx)(b:Int):Option ByteArray:=l.foldl (oD b) Z
theorem nV(l:List Tx)(t:Tx)(b:Int):newestF (l++[t]) b=oD b (newestF l b) t:=by
 unfold newestF;rw[He];rfl
theorem vR{l:List Tx}{t:Tx}(h:l[k]?=J t)(b:Int):newestF (l.take (k+1)) b=oD b (newestF (l.take k) b) t:=by
 rw[Oc,h];exact nV _ _ _
def newestL (l:List Tx):List (Int×ByteArray):=asN (newestF l) 12
def dropF (r:List Int)(f:Int->Option ByteArray):Int->Option ByteArray:=λj=>if tA r j=I then Z else f j
def putF (r:List Int)(f:Int->Option ByteArray)(c:Int×ByteArray):Int->Option ByteArray:=if sA c.1 0 11=I/\tA r c.1=O then(λj=>if j=c.1 then J c.2 else f j) else f
def BH (f:Int->Option ByteArray)(t:Tx):Int->Option ByteArray:=t.info.foldl (putF t.rev) (dropF t.rev f)
def docF (l:List Tx):Int->Option ByteArray:=l.foldl BH (λ_=>Z)
theorem uV{l:List Tx}{t:Tx}(h:l[k]?=J t):docF (l.take (k+1))=BH (docF (l.take k)) t:=by
 rw[Oc,h,docF,He];rfl
theorem MS(f:Int->Option ByteArray):dropF [] f=f:=rfl
theorem FY{r:List Int}(h:r[k]?=J b)(f:Int->Option ByteArray):dropF (r.take (k+1)) f=λj=>if j=b then Z else dropF (r.take k) f j:=by
 funext j
 unfold dropF;rw[Oc,h,tA,tA,zg];by_cases e:j=b
 .simp[e]
 .have:¬b=j:=λx=>e x.symm;simp[e,this]
theorem mY{c:Int×ByteArray}(h:l[k]?=J c)(r:List Int)(f:Int->Option ByteArray):(l.take (k+1)).foldl (putF r) f=putF r ((l.take k).foldl (putF r) f) c:=by
 rw[Oc,h,He];rfl
theorem TZ(r:List Int)(l:List (Int×ByteArray))(L:(blksOf l).Nodup)(hb:∀x∈l,sA x.1 0 11=I/\tA r x.1=O)(f:Int->Option ByteArray)(j:Int):
  l.foldl (putF r) f j=if(uA j l).isSome=I then uA j l else f j:=by
 induction l generalizing f with
 |nil=>rfl
 |cons c l ih=>
  have C:=hb c (by simp);have A:c.1∉blksOf l/\(blksOf l).Nodup:=Xe.1 L;rw[Af,ih A.2 (λx Q=>hb x (by simp[Q])),uA];have B:putF r f c=λj=>if j=c.1 then J c.2 else f j:=by rw[putF,Rb C]
  by_cases e:c.1=j
  .have D:uA j l=Z:=by
    have:j∉blksOf l:=by rw[<-e];exact A.1
    clear ih L hb A
    induction l with
    |nil=>rfl
    |cons y l ih2=>
     rw[uA,Qb (λh=>this (by rw[<-h];simp[blksOf]))];exact ih2 λh=>this (by simp only[blksOf,List.map_cons,List.mem_cons]at h|-;exact .inr h)
   rw[D,B,Rb e];simp[e]
  .rw[Qb e,B];by_cases h:(uA j l).isSome=I
   .rw[Rb h,Rb h]
   .rw[Qb h,Qb h];exact Qb λx:j=c.1=>e x.symm
theorem MU{t:Tx}(h:nA t=I)(f:Int->Option ByteArray)(j:Int):BH f t j=oD j (f j) t:=by
 obtain⟨_,_,⟨E,_,_⟩,A,_⟩:=(VA t).1 h;have F:=(zB _).1 E;unfold YC at A;rw[Bf]at A
 have hb:∀x∈t.info,sA x.1 0 11=I/\tA t.rev x.1=O:=by
  intro x L;have B:x.1∈blksOf t.info:=Wc.2 ⟨x,L,rfl⟩;have C:=F.1 x.1 B;refine⟨by simp[sA,C],?_⟩;rw[tA,kg];intro y D;have:=A.2.2 x.1 B y (by simp[D])
  simpa using λe:y=x.1=>this e.symm
 unfold BH;rw[TZ t.rev t.info A.1 hb];rfl
theorem gU{l:List Tx}(h:∀t∈l,nA t=I)(j:Int):docF l j=newestF l j:=by
 have key:∀(l:List Tx) (f:Int->Option ByteArray) (o:Option ByteArray),(∀t∈l,nA t=I)->f j=o->l.foldl BH f j=l.foldl (oD j) o:=by
  intro l
  induction l with
  |nil=>intro f o _ e;exact e
  |cons t l ih=>
   intro f o A e;rw[Af,Af];exact ih _ _ (λx B=>A x (by simp[B])) (by rw[MU (A t (by simp)),e])
 exact key l _ _ h rfl
theorem yP{l:List Tx}(h:∀t∈l,nA t=I):newestL l=asN (docF l) 12:=GO λj _=>(gU h j).symm
def eB (s:ByteArray)(k:Nat):Bool:=(s.data.toList.drop k).all (·==0)
theorem UV(s:ByteArray)(k:Nat)(h:k<s.size)(B:s[k]=0):eB s k=eB s (k+1):=by
 have e:s.data.toList.drop k=s[k]::s.data.toList.drop (k+1):=by rw[me (by simpa using h)];rfl
 rw[eB,e,List.all_cons,B];rfl
theorem Ha(s:ByteArray)(k:Nat)(h:k<s.size)(B:¬s[k]=0):eB s k=O:=by
 have e:s.data.toList.drop k=s[k]::s.data.toList.drop (k+1):=by rw[me (by simpa using h)];rfl
 rw[eB,e,List.all_cons];simp[B]
theorem zU(s:ByteArray)(k:Nat)(h:s.size<=k):eB s k=I:=by
 have hl:s.data.toList.length=s.size:=rfl;rw[eB,List.drop_eq_nil_of_le (by omega)];rfl
open Go.Proofs.Tryz
def cmpI (x y:Int):Int:=if x<y then -1 else if y<x then 1 else 0
theorem VL{x:Int}(h:x<y):cmpI x y= -1:=by rw[cmpI,Rb h]
theorem KO{x:Int}(h:¬x<y):¬cmpI x y<0:=by rw[cmpI,Qb h];split<;>omega
theorem eO(x y:Int):(cmpI x y==0)=(x==y):=by
 unfold cmpI;by_cases h1:x<y
 .rw[Rb h1,show(x==y)=O from by simp;omega];rfl
 .by_cases h2:y<x
  .rw[Qb h1,Rb h2,show(x==y)=O from by simp;omega];rfl
  .rw[Qb h1,Qb h2,show(x==y)=I from by simp;omega];rfl
theorem kQ{α:Type}{key:α->Int}{l:List α}(h:Up key l)(b:Int){t:Nat}{x:α}(B:l[t]?=J x):key x<b↔t<l.countP λx=>decide (key x<b):=by
 have A:=FL h b;constructor
 .intro hk;by_cases e:t<l.countP λx=>decide (key x<b)
  .exact e
  .have:x∈l.drop (l.countP λx=>decide (key x<b)):=by
    refine Yc (i:=t - l.countP λx=>decide (key x<b)) ?_;rw[ze,<-B]
    congr 1;omega
   rw[A.2]at this;have:=(Xd.1 this).2;simp at this;omega
 .intro e
  have:x∈l.take (l.countP λx=>decide (key x<b)):=by
   refine Yc (i:=t) ?_;rw[be e];exact B
  rw[A.1]at this;have:=(Xd.1 this).2
  simpa using this
theorem iO(x y:Int)(w:K):
  Calls prog 166 #[H G x,H G y] w λe B=>e=N (H G (cmpI x y))/\w=B:=by
 by_cases h1:x<y
 .have A:=zA (VL h1);go_enter func166,ntmps166;go_wp2;go_ret;exact⟨by rw[A.o];rfl,rfl⟩
 .by_cases h2:y<x
  .have A:Hid (cmpI x y=1):=by rw[Hid,cmpI,Qb h1,Rb h2]
   go_enter func166,ntmps166;go_wp2;go_ret;exact⟨by rw[A.o];rfl,rfl⟩
  .have A:Hid (cmpI x y=0):=by rw[Hid,cmpI,Qb h1,Qb h2]
   go_enter func166,ntmps166;go_wp2;go_ret;exact⟨by rw[A.o];rfl,rfl⟩
theorem lK(x y:Int)(w:K):
  Calls prog 166 #[H G x,H G y] w λe B=>e=N (H G (cmpI x y))/\Below w.heap.size w B:=
 (iO x y w).mono λ_ _ ⟨h1,h2⟩=>⟨h1,h2▸Ub _ _⟩
theorem uK(n:Int)(t:ByteArray)(b:Int)(w:K):
  Calls prog 164 #[F #[H G n,A t],H G b] w λe B=>e=N (H G (cmpI n b))/\Below w.heap.size w B:=by
 go_enter func164,ntmps164;go_wp2_with (go_at_call 166;refine(iO _ _ _).mono ?_;rintro e B ⟨rfl,rfl⟩);go_ret;exact⟨rfl,qA _ _⟩
theorem pQ(v:E)(t:Tx)(w:K)(h:IsTx w v t):
  Calls Tryz.prog 85 #[v] w λe D=>e=N (Y (uC t))/\Below w.heap.size w D:=by
 obtain⟨a,c,a',c',b,d,rfl,_,_,_,_,_,_⟩:=h;obtain⟨seq,info,A0,rev,⟨A,l0⟩,⟨C,l1⟩,⟨B,l2⟩⟩:=t;dsimp only;cases A<;>cases C<;>cases B
 all_goals
  go_enter Tryz.func85,Tryz.ntmps85;go_wp2;go_ret;exact⟨rfl,qA _ _⟩
theorem SS(v:E)(t:Tx)(w:K)(h:IsTx w v t):
  Calls Tryz.prog 130 #[v] w λe D=>e=N (H G (jB t))/\Below w.heap.size w D:=by
 obtain⟨a,c,a',c',b,d,rfl,_,_,_,B,A,C⟩:=h;clear B A C;go_enter Tryz.func130,Tryz.ntmps130;go_wp2;go_ret;exact⟨rfl,qA _ _⟩
theorem kE(a:Option Addr)(c:Nat)(l:List Int)(b:Int)(w:K)(h:SegI w a l)(Q:l.length<=maxLen):
  Calls Tryz.prog 76 #[M a l.length c,H G b] w λe L=>e=N (Y (tA l b))/\w=L:=by
 unfold maxLen at Q;have X:=zA h;clear h;go_enter Tryz.func76,Tryz.ntmps76;go_wp2
 go_loop [9] (λi=>∃k:Nat,k<=l.length/\i=H G k/\Hid ((l.take k).any (·==b)=O)) (λi=>l.length - (intOf i).toNat)
 case atStart=>exact⟨0,Vb _,rfl,by simp[Hid]⟩
 case round=>
  obtain⟨k,hk,rfl,A⟩:=hrel;by_cases hlt:k<l.length
  .obtain⟨b2,A1,rfl,hb,E⟩:=X.o.resolve_left (by intro e;rw[e]at hlt;simp at hlt);obtain⟨x,C⟩:∃x,x=l.getD k 0:=⟨_,rfl⟩;have D:=E k hlt;rw[<-C]at D;have F:Hid (l[k]?=J x):=by rw[C];exact YA _ _ _ hlt
   clear C E;have A0:(k:Int)<(l.length:Int):=by omega
   by_cases he:x=b
   .have B:Hid (tA l b=I):=eQ F.o (by simpa using he);subst he;go_wp2;go_ret;exact⟨by rw[B.o];rfl,rfl⟩
   .have R:=zA (CK F.o (show(x==b)=O by simpa using he) A.o);have A2:(x==b)=O:=by simpa using he
    clear A;go_wp2
    go_round
    case rel=>exact⟨k+1,by omega,by go_num,R⟩
    case measure=>simp[intOf];omega
  .have B:Hid (tA l b=O):=by have:=A.o;rw[zd (by omega)]at this;exact this
   clear A;go_wp2;go_ret;exact⟨by rw[B.o];rfl,rfl⟩
theorem YK(a:Option Addr)(c:Nat)(l:List (Int×ByteArray))(b:Int)(w:K)(h:SegW w a l)(j:l.length<=maxLen):
  Calls Tryz.prog 40 #[M a l.length c,H G b] w λe d=>e=N (S #[A ((uA b l).getD ⟨#[]⟩),Y (uA b l).isSome])/\Below w.heap.size w d:=by
 unfold maxLen at j;have L:=zA h;clear h;go_enter Tryz.func40,Tryz.ntmps40;go_wp2
 go_loopw [10] (λi wr=>∃k:Nat,k<=l.length/\i=H G k/\Hid (uA b (l.take k)=Z)/\Below w.heap.size w wr) (λi _=>l.length - (intOf i).toNat)
 case atStart=>exact⟨0,Vb _,rfl,rfl,Ub _ _⟩
 case round=>
  obtain⟨k,hk,rfl,B,Q⟩:=hrel;by_cases hlt:k<l.length
  .obtain⟨b2,A1,rfl,hb,R⟩:=L.o.resolve_left (by intro e;rw[e]at hlt;simp at hlt);obtain⟨x,F⟩:∃x,x=l.getD k (0,U):=⟨_,rfl⟩;obtain⟨D,C⟩:=R k hlt;rw[<-F]at D C;have X:Hid (l[k]?=J x):=by rw[F];exact YA _ _ _ hlt
   have g1:=xA Q hb D;have g2:=xA Q hb C;clear F R D C;obtain⟨n,t⟩:=x;have A0:(k:Int)<(l.length:Int):=by omega
   have E:=Q.alloc Q.size (T #[H G n,A t] 99);by_cases he:n=b
   .have I:Hid (uA b l=J t):=dK X.o he B.o;subst he;go_wp2
    go_ret2
    exact⟨by rw[I.o];rfl,E⟩
   .have m:=zA (cP X.o he B.o);have A2:(n==b)=O:=by simpa using he
    clear B;go_wp2
    go_roundw
    case rel=>exact⟨k+1,by omega,by go_num,m,E⟩
    case measure=>simp[intOf];omega
  .have I:Hid (uA b l=Z):=by have:=B.o;rw[zd (by omega)]at this;exact this
   clear B;go_wp2
   go_ret2
   exact⟨by rw[I.o];rfl,Q⟩
theorem eG(a:Option Addr)(c:Nat)(l:List (Int×ByteArray))(b:Int)(w:K)(h:SegW w a l)(m:l.length<=maxLen):
  Calls Tryz.prog 77 #[M a l.length c,H G b] w λe j=>e=N (Y (uA b l).isSome)/\Below w.heap.size w j:=by
 unfold maxLen at m;have L:=zA h;clear h;go_enter Tryz.func77,Tryz.ntmps77;go_wp2
 go_loopw [9] (λi wr=>∃k:Nat,k<=l.length/\i=H G k/\Hid (uA b (l.take k)=Z)/\Below w.heap.size w wr) (λi _=>l.length - (intOf i).toNat)
 case atStart=>exact⟨0,Vb _,rfl,rfl,Ub _ _⟩
 case round=>
  obtain⟨k,hk,rfl,B,Q⟩:=hrel;by_cases hlt:k<l.length
  .obtain⟨b2,A1,rfl,hb,X⟩:=L.o.resolve_left (by intro e;rw[e]at hlt;simp at hlt);obtain⟨x,F⟩:∃x,x=l.getD k (0,U):=⟨_,rfl⟩;obtain⟨D,C⟩:=X k hlt;rw[<-F]at D C;have d:Hid (l[k]?=J x):=by rw[F];exact YA _ _ _ hlt
   have g1:=xA Q hb D;have g2:=xA Q hb C;clear F X D C;obtain⟨n,t⟩:=x;have A0:(k:Int)<(l.length:Int):=by omega
   have E:=Q.alloc Q.size (T #[H G n,A t] 99);by_cases he:n=b
   .have R:Hid ((uA b l).isSome=I):=by rw[Hid,dK d.o he B.o];rfl
    subst he;go_wp2;go_ret;exact⟨by rw[R.o];rfl,E⟩
   .have p:=zA (cP d.o he B.o);have A2:(n==b)=O:=by simpa using he
    clear B;go_wp2
    go_roundw
    case rel=>exact⟨k+1,by omega,by go_num,p,E⟩
    case measure=>simp[intOf];omega
  .have R:Hid ((uA b l).isSome=O):=by have:=B.o;rw[zd (by omega)]at this;rw[Hid,this];rfl
   clear B;go_wp2;go_ret;exact⟨by rw[R.o];rfl,Q⟩
theorem LM(s:ByteArray)(w:K)(Q:s.size<=maxLen):
  Calls Tryz.prog 186 #[A s] w λe L=>e=N (S #[A (escT s),Y (isMagic s)])/\w=L:=by
 unfold maxLen at Q;go_enter Tryz.func186,Tryz.ntmps186;by_cases h4:4<=s.size
 .by_cases hm:((s.extract 0 4).toList==[87,66,75,49])=I
  .have D:Hid (isMagic s=I):=by rw[Hid,isMagic,Rb h4];exact hm
   go_wp2
   go_ret2
   exact⟨by rw[escT,D.o];rfl,rfl⟩
  .have B:((s.extract 0 4).toList==[87,66,75,49])=O:=by simpa using hm
   have D:Hid (isMagic s=O):=by rw[Hid,isMagic,Rb h4];exact B
   clear hm;go_wp2
   go_ret2
   exact⟨by rw[escT,D.o];rfl,rfl⟩
 .have D:Hid (isMagic s=O):=by rw[Hid,isMagic,Qb h4]
  go_wp2
  go_ret2
  exact⟨by rw[escT,D.o];rfl,rfl⟩
theorem KM(s:ByteArray)(n:Nat)(w:K)(hs:s.size<=32)(hn:n<=100):
  Calls Tryz.prog 124 #[A s,H G n] w λe L=>e=N (Y (eB s n))/\w=L:=by
 go_enter Tryz.func124,Tryz.ntmps124;go_wp2
 go_loop [5] (λi=>∃k:Nat,k<=200/\i=H G k/\Hid (eB s n=eB s k)) (λi=>200 - (intOf i).toNat)
 case atStart=>exact⟨n,by omega,rfl,rfl⟩
 case round=>
  obtain⟨k,hk,rfl,B⟩:=hrel;by_cases hlt:k<s.size
  .have A0:(k:Int)<(s.size:Int):=by omega
   by_cases h0:s[k]=0
   .have C:((s[k].toNat:Int) !=0)=O:=by rw[h0];rfl
    have D:=zA (UV s k hlt h0);clear h0;go_wp2
    go_round
    case rel=>exact⟨k+1,by omega,by go_num,by rw[Hid,B.o,D.o]⟩
    case measure=>simp[intOf];omega
   .have C:((s[k].toNat:Int) !=0)=I:=by
     rw[bne_iff_ne];intro e;exact h0 (Ke.1 (by show s[k].toNat=0;omega))
    have D:=zA (Ha s k hlt h0);clear h0;go_wp2;go_ret;exact⟨by rw[B.o,D.o];rfl,rfl⟩
  .have D:=zA (zU s k (by omega));go_wp2;go_ret;exact⟨by rw[B.o,D.o];rfl,rfl⟩
theorem VV(s:ByteArray)(b:Bool)(w:K)(D:s.size<=maxLen):
  Calls Tryz.prog 125 #[A s,Y b] w λe B=>e=N (A (aB s b))/\w=B:=by
 unfold maxLen at D;go_enter Tryz.func125,Tryz.ntmps125
 cases b with
 |false=>
  go_wp2;go_ret;exact⟨by simp[aB],rfl⟩
 |true=>
  by_cases h4:s.size<4
  .go_wp2;go_ret;exact⟨by simp[aB,h4],rfl⟩
  .go_wp2;go_ret;exact⟨by simp[aB,h4],rfl⟩
