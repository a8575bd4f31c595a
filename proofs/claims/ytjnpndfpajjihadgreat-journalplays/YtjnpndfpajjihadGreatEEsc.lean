import Derived.Test.YtjnpndfpajjihadGreatGrJournalRuns13
namespace Go.Proofs.YtjnpndfpajjihadGreat
open Go.Proofs.Tryz
set_option maxRecDepth 100000
set_option maxHeartbeats 40000000
open Go.RowKit
open Value renaming int -> H,slice -> M,string -> A,bool -> Y,agg -> F,tuple -> S
open IntKind renaming i64 -> G
open Option renaming none -> Z,some -> J
open Bool renaming false -> O,true -> I
open Go renaming World -> K,Value -> E
open Obj renaming cells -> T
open Ending renaming returned -> N
open _root_.ByteArray renaming empty -> U
variable{Q:Exit->Act->World->Prop}{a:Act}{base k:Nat}{l:List (Int×ByteArray)}{o:Oper}{ops:Array Oper}{rest:List Oper}{v:Value}{w:World}{x:Int×ByteArray}
def tagsOf (l:List (Int×ByteArray)):List (Int×Bool):=l.map λc=>(c.1,isMagic c.2)
def textsOf (l:List (Int×ByteArray)):List ByteArray:=l.map λc=>escT c.2
theorem XM(h:l[k]?=J x):tagsOf (l.take (k+1))=tagsOf (l.take k)++[(x.1,isMagic x.2)]:=by
 rw[Oc,h,tagsOf,tagsOf,Ed];rfl
theorem kN(h:l[k]?=J x):textsOf (l.take (k+1))=textsOf (l.take k)++[escT x.2]:=by
 rw[Oc,h,textsOf,textsOf,Ed];rfl
def cellsG:List (Int×Bool)->List E
 |[]=>[]
 |x::r=>H G x.1:: Y x.2::cellsG r
theorem Mb(l:List (Int×Bool)):(cellsG l).length=l.length*2:=by
 induction l with
 |nil=>rfl
 |cons x r ih=>simp[cellsG,ih];omega
theorem TV(l r:List (Int×Bool)):cellsG (l++r)=cellsG l++cellsG r:=by
 induction l with
 |nil=>rfl
 |cons x r ih=>simp[cellsG,ih]
theorem IV(l:List (Int×Bool)):∀u∈cellsG l,u.oneCell'=I:=by
 induction l with
 |nil=>intro u A;simp[cellsG]at A
 |cons x r ih=>
  intro u A;simp only[cellsG,List.mem_cons]at A;rcases A with rfl|rfl|A
  .rfl
  .rfl
  .exact ih u A
theorem sV(l:List (Int×Bool))(i:Nat)(h:i<l.length):(cellsG l)[i*2]?=J (H G (l.getD i (0,O)).1)/\(cellsG l)[i*2+1]?=J (Y (l.getD i (0,O)).2):=by
 induction l generalizing i with
 |nil=>simp at h
 |cons x r ih=>
  cases i with
  |zero=>exact⟨rfl,rfl⟩
  |succ i=>
   have A:(i+1)*2=i*2+1+1:=by omega
   rw[cellsG,A]
   simpa using ih i (by simpa using h)
theorem SegG.of_owns{n:Nat}{l:List (Int×Bool)}(h:w.ownsRow base 123 2 v n (cellsG l)):∃a c,v=M a l.length c/\SegT w a l/\∀b B,a=J ⟨b,B,Z⟩->base<=b:=by
 have A:l.length=n:=by have:=h.1;rw[Mb]at this;omega
 subst A;rcases h.2 with⟨rfl,D⟩|⟨g,cap,A0,rfl,hb,L,rest⟩
 .exact⟨Z,0,by rw[D],.inl (Tc D),λ_ _ h=>by cases h⟩
 .refine⟨_,cap,rfl,.inr ⟨g,0,rfl,(Wb.1 L).1,λi R=>?_⟩,λ_ _ h=>by cases h;exact hb⟩;have e:=sV l i R;rw[Dc,h.cellAt (i*2) (by omega),h.cellAt (i*2+1) (by omega)];exact e
theorem bT:(prog.info? 123).map (λi=>(i.zero,i.size,i.bytes))=J (J (F #[H G 0,Y O]),2,16):=by kernel_rfl
def IH (w:K)(base:Nat)(v:E)(l:List (Int×Bool)):Prop:=w.ownsRow base 123 2 v l.length (cellsG l)
theorem IP(d:o.guard=Z)(s x:Operand)
  (e:o.op=.call {callee:=.builtin .append,args:=#[s,x],argTypes:=#[79,79]})
  (base:Nat) (v:E) (l:List (Int×Bool)) (i:a.eval s=v) (c:w.ownsRow base 123 2 v l.length (cellsG l)) (b:Nat) (y:Int×Bool) (m:a.eval x=M (J ⟨b,0,Z⟩) 1 1)
  (h0:w.cell? ⟨b,0,Z⟩=J (H G y.1)) (h1:w.cell? ⟨b,1,Z⟩=J (Y y.2)) (A0:l.length<=1000) (X:base<=w.heap.size)
  (h:∀R L,IH L base R (l++[y])->w.grownBy L v.ownBlock->wpList prog ops Q rest (a.put o.dst R) L):wpList prog ops Q (o::rest) a w:=by
 obtain⟨p,n,C,D,B⟩:=Gc bT;refine wd w d s x 79 e base 123 p (F #[H G 0,Y O]) 2 16 underlying79 n C D B rfl (by decide) v l.length (cellsG l) i c ⟨b,0,Z⟩ 1 1 (cellsG [y]) m rfl ?_ (IV _) (by unfold maxLen;omega) (by omega) X ?_
 .intro j u A;rw[qd,Dc]
  match j,A with
  |0,A=>simp[cellsG]at A;subst A;exact h0
  |1,A=>simp[cellsG]at A;subst A;exact h1
  |j+2,A=>simp[cellsG]at A
 .intro R L q I _;refine h R L ?_ I;rw[IH,TV,Yb];exact q
def cellsT1s (l:List ByteArray):List E:=l.map Value.string
theorem cU(l:List ByteArray):∀u∈cellsT1s l,u.oneCell'=I:=by
 intro u A;obtain⟨s,_,rfl⟩:=Wc.1 A;rfl
theorem jR:(prog.info? 9).map (λi=>(i.zero,i.size,i.bytes))=J (J (A ⟨#[]⟩),1,16):=by kernel_rfl
def OwnT (w:K)(base:Nat)(v:E)(l:List ByteArray):Prop:=w.ownsRow base 9 1 v l.length (cellsT1s l)
theorem SegX.of_owns{l:List ByteArray}(h:OwnT w base v l):∃a c,v=M a l.length c/\SegS w a l/\∀b B,a=J ⟨b,B,Z⟩->base<=b:=by
 rcases h.2 with⟨rfl,D⟩|⟨g,cap,A0,rfl,hb,L,rest⟩
 .exact⟨Z,0,by rw[D],.inl (Tc D),λ_ _ h=>by cases h⟩
 .refine⟨_,cap,rfl,.inr ⟨g,0,rfl,(Wb.1 L).1,λi R=>?_⟩,λ_ _ h=>by cases h;exact hb⟩;rw[Dc,Kg h i (by omega),cellsT1s,Ld,YA l i U R];rfl
theorem YH(e:o.guard=Z)(s x:Operand)
  (i:o.op=.call {callee:=.builtin .append,args:=#[s,x],argTypes:=#[42,42]})
  (base:Nat) (v:E) (l:List ByteArray) (m:a.eval s=v) (d:OwnT w base v l) (b:Nat) (y:ByteArray) (n:a.eval x=M (J ⟨b,0,Z⟩) 1 1)
  (h0:w.cell? ⟨b,0,Z⟩=J (A y)) (A0:l.length<=1000) (c:base<=w.heap.size)
  (h:∀X L,OwnT L base X (l++[y])->w.grownBy L v.ownBlock->wpList prog ops Q rest (a.put o.dst X) L):wpList prog ops Q (o::rest) a w:=by
 obtain⟨q,p,C,D,B⟩:=Gc jR;refine wd w e s x 42 i base 9 q (A ⟨#[]⟩) 1 16 underlying42 p C D B rfl (by decide) v l.length (cellsT1s l) m d ⟨b,0,Z⟩ 1 1 (cellsT1s [y]) n rfl ?_ (cU _) (by unfold maxLen;omega) (by omega) c ?_
 .intro j u R;rw[qd,Dc]
  match j,R with
  |0,R=>simp[cellsT1s]at R;subst R;exact h0
  |j+1,R=>simp[cellsT1s]at R
 .intro X L F I _;refine h X L ?_ I;rw[OwnT,Yb,cellsT1s,Ed];exact F
theorem cQ{c d h m n q:Nat}{X b:TypeId}{D R:E}{p j:List E}(h1:w.ownsRow c X h D n p)(h2:w.ownsRow d b m R q j)(L:X≠b):D.ownBlock=Z\/D.ownBlock≠R.ownBlock:=by
 rcases h1.2 with⟨rfl,_⟩|⟨g,cap,A2,rfl,_,i,_⟩
 .exact .inl rfl
 .refine .inr λe=>?_;rcases h2.2 with⟨rfl,_⟩|⟨g2,A1,A0,rfl,_,B,_⟩
  .simp[Value.ownBlock]at e
  .simp[Value.ownBlock]at e;subst e;rw[i]at B;simp only[Option.some.injEq,Obj.cells.injEq]at B;exact L B.2.1
theorem CU(a:Option Addr)(c:Nat)(l:List (Int×ByteArray))(w:K)(h:SegW w a l)(hn:l.length<=500)(hb:∀x∈l,x.2.size<=maxLen):
  Calls prog 179 #[M a l.length c] w λe w'=>∃v1 v2,e=N (S #[v1,v2])/\IH w' w.heap.size v1 (tagsOf l)/\OwnT w' w.heap.size v2 (textsOf l)/\Below w.heap.size w w':=by
 have u:=zA h;have Y:=zA hb;clear h hb;go_enter func179,ntmps179;go_wp2
 go_loopw [2,3,10] (λg s i wr=>∃k:Nat,k<=l.length/\i=H G k/\Hid (IH wr w.heap.size g (tagsOf (l.take k)))/\Hid (OwnT wr w.heap.size s (textsOf (l.take k)))/\Hid (Below w.heap.size w wr)) (λ_ _ i _=>l.length - (intOf i).toNat)
 case atStart=>exact⟨0,Vb _,rfl,Kc _ _ _ _,Kc _ _ _ _,Ub _ _⟩
 case round=>
  obtain⟨k,hk,rfl,D,E,z⟩:=hrel;by_cases hlt:k<l.length
  .obtain⟨b2,A2,rfl,hb,p⟩:=u.o.resolve_left (by intro e;rw[e]at hlt;simp at hlt);obtain⟨x,A7⟩:∃x,x=l.getD k (0,U):=⟨_,rfl⟩;obtain⟨L,A5⟩:=p k hlt;rw[<-A7]at L A5;have A4:l[k]?=J x:=by rw[A7];exact YA _ _ _ hlt
   have b:=Y.o x (Yc A4);have r:=xA z.o hb L;have q:=xA z.o hb A5;have d:=zA (XM A4);have m:=zA (kN A4);have A1:(tagsOf (l.take k)).length<=500:=by rw[tagsOf,xd,Nc];omega
   have A3:(textsOf (l.take k)).length<=500:=by rw[textsOf,xd,Nc];omega
   have A0:(k:Int)<(l.length:Int):=by omega
   clear A7 p L A5 A4;obtain⟨n,s⟩:=x;generalize tagsOf (l.take k)=q1 at *;generalize textsOf (l.take k)=q2 at *;have R:=zA (vA z.o (qA wr (T #[H G n,A s] 99)));go_wp2_with fail;refine(Bb s _ b).mono ?_;rintro e w3 ⟨rfl,rfl⟩;generalize escT s=es at *;generalize isMagic s=im at *;go_wp2_with (at_builtin;refine IP rfl _ _ rfl w.heap.size _ q1 rfl (dA (dA D.o (qA _ _)) (qA _ _)) (wr.heap.size+1) (n,im) rfl (by simp[go_sem]) (by simp[go_sem]) (by omega) (ac z.o.size (by simp;omega)) ?_);intro v1 A8 B F;have O:Below w.heap.size w A8:=(R.o.alloc R.o.size _).grown F (ac z.o.size (by simp;omega)) (λj hj=>(Od D.o j hj).1);have A6:=zA (World.ownsRow.kept (dA (dA E.o (qA _ _)) (qA _ _)) F (cQ E.o D.o (by decide)));have Q:=zA B;have C:=zA O;clear B F O D E z R r q;go_wp2_with (at_builtin;refine YH rfl _ _ rfl w.heap.size _ q2 rfl (dA A6.o (qA _ _)) A8.heap.size es rfl (by simp[go_sem]) (by omega) (ac C.o.size (by simp)) ?_);intro v2 y A9 I;have Z:Below w.heap.size w y:=(C.o.alloc C.o.size _).grown I (ac C.o.size (by simp)) (λj hj=>(Od A6.o j hj).1);have X:=zA (World.ownsRow.kept (dA Q.o (qA _ _)) I (cQ Q.o A6.o (by decide)));clear I;go_wp2
   go_roundw
   case rel=>exact⟨k+1,by omega,by go_num,by rw[d.o];exact X.o,by rw[m.o];exact A9,Z⟩
   case measure=>simp[intOf];omega
  .have e:k=l.length:=by omega
   subst e;rw[Lc]at D E;go_wp2
   go_ret2
   exact⟨_,_,rfl,D.o,E.o,z.o⟩
