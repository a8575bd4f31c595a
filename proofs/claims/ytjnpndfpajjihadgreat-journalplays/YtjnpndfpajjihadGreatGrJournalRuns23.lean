import Derived.Test.YtjnpndfpajjihadGreatGrJournalRuns29
import Derived.Test.YtjnpndfpajjihadGreatEEsc
set_option maxRecDepth 100000
set_option maxHeartbeats 40000000
namespace Go.Proofs.YtjnpndfpajjihadGreat
open Go.Proofs.Tryz
open Go.RowKit
open Value renaming int -> H,slice -> M,string -> A,bool -> Y,agg -> F,tuple -> S
open IntKind renaming i64 -> G
open Option renaming none -> Z,some -> J
open Bool renaming false -> O,true -> I
open Go renaming World -> K,Value -> E
open Ending renaming returned -> N
variable{Bp Bs base:Nat}{d:List ByteArray}{ps:List Int}{row:Option Nat}{w w':World}
def wD (x:Int×ByteArray):Bool:= !(sA x.1 0 11&&decide (x.2.size=32))
def superMk (p seq:Int):Mk:=⟨1,seq,p,[],[]⟩
def pB (l:List (Int×ByteArray))(p seq:Int):Int:=if goodM (superMk p seq)≠0 then goodM (superMk p seq) else if l.any wD=I then 1 else 0
def checkS (l:List (Int×ByteArray))(p seq:Int):List St:=if pB l p seq=0 then homeS l++[AA 0 (encT (superMk p seq)),flushS] else[]
theorem OX(n:Int)(s:ByteArray)(w:K):
  Calls prog 148 #[F #[H G n,A s]] w λe w'=>e=N (Y (wD (n,s)))/\Below w.heap.size w w':=by
 have C:wD (n,s)=(decide (n<0)||decide (12<=n)||((s.size:Int) !=32)):=by
  unfold wD sA;by_cases h0:n<0
  .have:¬0<=n:=by omega
   simp[h0,this]
  .by_cases h1:12<=n
   .have L:¬n<=11:=by omega
    simp[h1,L]
   .have L:n<=11:=by omega
    have E:0<=n:=by omega
    have D:¬12<=n:=h1;by_cases h5:s.size=32
    .simp[h0,L,E,D,h5]
    .have Q:((s.size:Int) !=32)=I:=by rw[bne_iff_ne];omega
     simp[h0,L,E,D,h5,Q]
 have B:=zA C;clear C;go_enter func148,ntmps148;by_cases h0:n<0
 .go_wp2;go_ret;exact⟨by rw[B.o];simp[h0],qA _ _⟩
 .by_cases h1:12<=n
  .go_wp2;go_ret;exact⟨by rw[B.o];simp[h1],qA _ _⟩
  .go_wp2;go_ret;exact⟨by rw[B.o,show decide (n<0)=O from xg (by omega),show decide (12<=n)=O from xg (by omega)];rfl,qA _ _⟩
theorem NJ{b:Nat}{x y:St}(h0:w.cell? ⟨b,0,Z⟩=J (H G x.1))(h1:w.cell? ⟨b,1,Z⟩=J (H G x.2.1))(h2:w.cell? ⟨b,2,Z⟩=J (A x.2.2))(Q:w.cell? ⟨b,3,Z⟩=J (H G y.1))(D:w.cell? ⟨b,4,Z⟩=J (H G y.2.1))(L:w.cell? ⟨b,5,Z⟩=J (A y.2.2)):
  ∀j u,(cellsSt [x,y])[j]?=J u->w.cell? (Addr.add ⟨b,0,Z⟩ j)=J u:=by
 intro j u B;rw[qd,Dc]
 match j,B with
 |0,B=>simp[cellsSt]at B;subst B;exact h0
 |1,B=>simp[cellsSt]at B;subst B;exact h1
 |2,B=>simp[cellsSt]at B;subst B;exact h2
 |3,B=>simp[cellsSt]at B;subst B;exact Q
 |4,B=>simp[cellsSt]at B;subst B;exact D
 |5,B=>simp[cellsSt]at B;subst B;exact L
 |j+6,B=>simp[cellsSt]at B
theorem SJ{c:Array Oper}{rest:List Oper}{o:Oper}{a:Act}{Q:Exit->Act->K->Prop}(i:o.guard=Z)(s x:Operand)
  (k:o.op=.call {callee:=.builtin .append,args:=#[s,x],argTypes:=#[55,55]})
  (base:Nat) (v:E) (l:List St) (m:a.eval s=v) (e:w.ownsRow base 108 3 v l.length (cellsSt l)) (b:Nat) (y z:St) (n:a.eval x=M (J ⟨b,0,Z⟩) 2 2)
  (L:∀j u,(cellsSt [y,z])[j]?=J u->w.cell? (Addr.add ⟨b,0,Z⟩ j)=J u) (A0:l.length*24<=140737488380000) (X:base<=w.heap.size)
  (h:∀R w',LD w' base R (l++[y,z])->w.grownBy w' v.ownBlock->wpList prog c Q rest (a.put o.dst R) w'):wpList prog c Q (o::rest) a w:=by
 obtain⟨D,I,B,C,p⟩:=Gc rK;refine wpList_append_own_wide w i s x 55 k base 108 D (F #[H G 0,H G 0,A ⟨#[]⟩]) 3 32 underlying55 I B C p rfl (by decide) v l.length (cellsSt l) m e ⟨b,0,Z⟩ 2 2 (cellsSt [y,z]) n rfl L (ML _) (by unfold maxLen;omega) (by omega) X ?_;intro R w' q r _;refine h R w' ?_ r;rw[LD,iK,Yb];exact q
theorem XX(l:List (Int×ByteArray)):(homeS l).length<=l.length+1:=by
 rw[homeS,Yb,yD];split<;>simp
theorem NZ(a:Option Addr)(c:Nat)(l:List (Int×ByteArray))(p seq:Int)(w:K)(h:SegW w a l)(hn:l.length*24<=140737488355328):
  Calls prog 100 #[M a l.length c,H .i64 p,H .i64 seq] w λe w'=>∃a2 c2,e=N (S #[M a2 (checkS l p seq).length c2,H .i64 (pB l p seq)])/\(checkS l p seq).length<=c2/\SegSt w' a2 (checkS l p seq)/\Below w.heap.size w w'/\∀b A9,a2=J ⟨b,A9,Z⟩->w.heap.size<=b:=by
 have HS:=zA h;clear h;obtain⟨m,r⟩:∃m,m=superMk p seq:=⟨_,rfl⟩;have A4:=zA r
 have hI:∀W,IsMk W (F #[H .i64 1,H .i64 seq,H .i64 p,M Z 0 0,M Z 0 0]) m:=by
  intro W;rw[r];exact⟨Z,0,Z,0,rfl,.inl rfl,.inl rfl,Vb _,Vb _⟩
 have y:=zA hI;clear r hI;go_enter func100,ntmps100;go_wp2_with fail;refine(wI _ m _ (y.o _)).mono ?_;rintro e w1 ⟨rfl,A5⟩;by_cases hg:goodM m=0
 .rw[hg];have A0:l.length<=maxLen:=by unfold maxLen;omega
  obtain⟨s,q⟩:∃s,s=encT m:=⟨_,rfl⟩;rw[<-q];have Y:=zA q;clear q;have D:=zA A5;clear A5;go_wp2_with fail;refine(AM wD 148 #[] (Go.Proofs.enters_of func148 (by kernel_rfl) rfl) a c l _ (HS.o.below D.o) A0 (λx W hb=>(OX x.1 x.2 W).mono λ_ _ ⟨h1,h2⟩=>⟨h1,hb.trans (h2.mono hb.size)⟩)).mono ?_;rintro e w2 ⟨rfl,B0⟩;have E:=zA (vA D.o B0);clear B0 D
  cases hc:l.any wD with
  |true=>
   have A3:Hid (pB l p seq=1):=by rw[Hid,pB,<-A4.o,Qb (by simp[hg]),Rb hc]
   have A:Hid (checkS l p seq=[]):=by rw[Hid,checkS,A3.o];rfl
   go_wp2;exact Tb (v:=S #[M Z 0 0,H .i64 1]) (by simp[results,results100,go_sem]) rfl ⟨Z,0,by rw[A3.o,A.o];rfl,by rw[A.o];exact Sb _,by rw[A.o];exact .inl rfl,E.o,λ_ _ e=>by cases e⟩
  |false=>
   have A3:Hid (pB l p seq=0):=by rw[Hid,pB,<-A4.o,Qb (by simp[hg]),Qb (by simp[hc])]
   have A:Hid (checkS l p seq=homeS l++[AA 0 s,flushS]):=by rw[Hid,checkS,Rb A3.o,<-A4.o,<-Y.o]
   have u:Hid (∀x∈l,0<=x.1/\x.1<=11):=by
    intro x hx;have:=kg.1 hc x hx;simp[wD,sA]at this;exact this.1
   have hq:=XX l;clear Y hc A4 y hg;go_wp2_with fail;refine(nQ a c l _ (HS.o.below E.o) hn u.o).mono ?_;rintro e w3 ⟨v3,rfl,B1,k⟩;have U:=zA (qB B1 E.o.size);have Q:=zA (vA E.o k);clear B1 k E;generalize homeS l=L at *;go_wp2_with fail;refine(GL 0 s _).mono ?_;rintro e w4 ⟨rfl,A8⟩;have d:=zA (dA U.o A8);have i:=zA (vA Q.o A8);clear A8 U Q;go_wp2_with fail;refine(BL _).mono ?_;rintro e w5 ⟨rfl,A6⟩;have O:=zA (dA d.o A6);have C:=zA (vA i.o A6);clear A6 d i;go_wp2_with (at_builtin;refine SJ rfl _ _ rfl w.heap.size _ L rfl (dA O.o (qA _ _)) w5.heap.size (AA 0 s) flushS rfl (NJ (by simp[go_sem,AA]) (by simp[go_sem,AA]) (by simp[go_sem,AA]) (by simp[go_sem,flushS]) (by simp[go_sem,flushS]) (by simp[go_sem,flushS])) (by omega) (ac C.o.size (by simp)) ?_);intro v' w' B A7;have A2:Hid (Below w.heap.size w w'):=(C.o.alloc C.o.size _).grown A7 (ac C.o.size (by simp)) (λj hj=>(O.o.lt j hj).1);obtain⟨a2,c2,hv,X,R⟩:=SegSt.of_owns B;have A1:=zA R;have n:=zA (OG B hv);have z:=zA X;subst hv;clear B A7 X R O C;go_wp2;exact Tb (v:=S #[M a2 (L++[AA 0 s,flushS]).length c2,H .i64 0]) (by simp[results,results100,go_sem]) rfl ⟨a2,c2,by rw[A3.o,A.o],by rw[A.o];exact n.o,by rw[A.o];exact z.o,A2.o,A1.o⟩
 .have A3:Hid (pB l p seq=goodM m):=by rw[Hid,pB,<-A4.o,Rb (by simpa using hg)]
  have A:Hid (checkS l p seq=[]):=by rw[Hid,checkS,A3.o,Qb hg]
  have A7:(goodM m !=0)=I:=by simpa using hg
  have D:=zA A5;clear A5;generalize goodM m=G at *;go_wp2;exact Tb (v:=S #[M Z 0 0,H .i64 G]) (by simp[results,results100,go_sem]) rfl ⟨Z,0,by rw[A3.o,A.o];rfl,by rw[A.o];exact Sb _,by rw[A.o];exact .inl rfl,D.o,λ_ _ e=>by cases e⟩
def partOf (l:List (Int×ByteArray))(k:Nat):List (Int×ByteArray):=(l.drop (10*k)).take 10
def revB (t:Tx):List ByteArray:=if t.rev.length=0 then[] else[encT ⟨3,t.seq,0,[],t.rev⟩]
def ME (q:Int)(l:List (Int×ByteArray))(k:Nat):List ByteArray:=encT ⟨2,q,0,tagsOf (partOf l k),[]⟩::textsOf (partOf l k)
def metaB (q:Int)(l:List (Int×ByteArray))(k:Nat):List ByteArray:=(List.range k).flatMap (ME q l)
def logB (t:Tx):List ByteArray:=revB t++metaB t.seq t.info (WA t.info.length 10)
def lastB (t:Tx):ByteArray:=encT ⟨4,t.seq,0,[],[]⟩
def putS (ps:List Int)(l:List ByteArray):List St:=List.zipWith (λp s=>AA (1+p) s) ps l
def commitS (h u:Int)(t:Tx):List St:=if NA h u t=0 then
 (homeS t.data++putS (sealP h u t) (logB t)++(if 0<t.rev.length+t.info.length then[flushS] else[]))++[AA (1+(sealP h u t).getD (logB t).length 0) (lastB t)]++[flushS] else[]
theorem GF(q:Int)(l:List (Int×ByteArray))(k:Nat):metaB q l (k+1)=metaB q l k++ME q l k:=by
 rw[metaB,metaB,ce,de];simp
theorem qR(h:d.length<ps.length)(s:ByteArray):putS ps (d++[s])=putS ps d++[AA (1+ps.getD d.length 0) s]:=by
 induction ps generalizing d with
 |nil=>simp at h
 |cons p r ih=>
  cases d with
  |nil=>simp[putS]
  |cons x d=>
   have:=ih (d:=d) (by simpa using h);simp only[putS,List.cons_append,List.zipWith_cons_cons,List.length_cons,List.getD_cons_succ]at this|-;rw[this]
theorem MF(h:d.length<=ps.length):(putS ps d).length=d.length:=by
 simp[putS];omega
theorem tJ{i:Nat}(h:i<ps.length):ps.drop i=ps.getD i 0::ps.drop (i+1):=by
 rw[me h,List.getD,Ic h];rfl
theorem LI(l:List (Int×ByteArray))(k:Nat):(partOf l k).length=UB l.length 10 k:=by
 rw[partOf,Nc,Uc,UB,Zf];split<;>omega
theorem WJ(q:Int)(l:List (Int×ByteArray))(k:Nat):(ME q l k).length=1+UB l.length 10 k:=by
 rw[ME,Td,textsOf,xd,LI];omega
theorem wO(q:Int)(l:List (Int×ByteArray))(h:l.length<=12):(metaB q l (WA l.length 10)).length=l.length+(if 0<l.length then 1 else 0)+(if 10<l.length then 1 else 0):=by
 by_cases h0:l.length=0
 .rw[h0];rfl
 .by_cases h1:l.length<=10
  .have e:WA l.length 10=1:=by unfold WA;omega
   rw[e,GF,Yb,WJ,UB,Rb (show 0<l.length by omega),Qb (show¬10<l.length by omega)];simp[metaB];split<;>omega
  .have e:WA l.length 10=2:=by unfold WA;omega
   rw[e,GF,GF,Yb,Yb,WJ,WJ,UB,UB,Rb (show 0<l.length by omega),Rb (show 10<l.length by omega),Rb (show 10<=l.length - 0*10 by omega),Qb (show¬10<=l.length - (0+1)*10 by omega)];simp[metaB];omega
theorem IF(t:Tx)(h1:t.info.length<=12)(h2:t.rev.length<=12):((logB t).length:Int)+1=needN t.info.length t.rev.length:=by
 have A:LC (t.info.length:Int) (t.rev.length:Int)=0:=by rw[LC,Qb];omega
 have B:=wO t.seq t.info h1;rw[needN,Rb A,logB,Yb,B,revB];by_cases h0:t.rev.length=0
 .simp[h0];split<;>split<;>omega
 .rw[Qb h0];simp;split<;>split<;>split<;>omega
theorem wF(h:Int)(n k:Nat)(B:k<n):(OB h n).getD k 0=(h+(k:Int))%24:=by
 rw[List.getD,OB,Ld,Cf B];rfl
theorem cK{rh ru:Int}{t:Tx}(L:NA rh ru t=0):nA t=I/\uC t=O/\(sealP rh ru t).length=(logB t).length+1/\∀i,0<=(sealP rh ru t).getD i 0/\(sealP rh ru t).getD i 0<=23:=by
 have A:=L;unfold NA at A;by_cases hc:mB rh ru=O\/nA t=O\/uC t=I
 .rw[Rb hc]at A;cases A
 .rw[Qb hc]at A;have C:nA t=I:=by cases e:nA t;exact absurd (.inr (.inl e)) hc;rfl
  have D:uC t=O:=by cases e:uC t;rfl;exact absurd (.inr (.inr e)) hc
  have B:=iB C;have hl:=IF t B.1 B.2.2;refine⟨C,D,?_,?_⟩
  .rw[sealP,Rb L,takeL,Rb A,xD];omega
  .intro i;rw[sealP,Rb L,takeL,Rb A]
   by_cases hi:i<(needN t.info.length t.rev.length).toNat
   .rw[wF _ _ _ hi];omega
   .rw[List.getD,cd (by rw[xD];omega)];exact⟨Le _,by decide⟩
def LogAt (w:K)(base Bs Bp:Nat)(H:List St)(ps:List Int)(d:List ByteArray):Prop:=StepsAt w base Bs (H++putS ps d)/\PlacesAt w base Bp (ps.drop d.length)/\d.length<=ps.length
theorem LogAt.below{H:List St}(h:LogAt w base Bs Bp H ps d)(hb:Below w.heap.size w w'):LogAt w' base Bs Bp H ps d:=⟨h.1.below hb,h.2.1.below hb,h.2.2⟩
theorem LogAt.next{H:List St}(h:d.length<ps.length){s:ByteArray}
  (h1:StepsAt w' base Bs (H++putS ps d++[AA (1+ps.getD d.length 0) s])) (h2:PlacesAt w' base Bp (ps.drop (d.length+1))):LogAt w' base Bs Bp H ps (d++[s]):=by
 refine⟨?_,?_,?_⟩
 .rw[qR h,<-od];exact h1
 .rw[Yb];exact h2
 .rw[Yb];show d.length+1<=_;omega
theorem StepsAt.kept{l:List St}(h:StepsAt w base Bs l)(Q:w.grownBy w' row)(L:∀r,row=J r->∃o:Obj,w.heap[r]?=J o/\o.isCells=O):StepsAt w' base Bs l:=by
 obtain⟨v,D,C⟩:=h;refine⟨v,D.kept Q ?_,C.kept Q ?_⟩
 .intro e;obtain⟨o,A,B⟩:=L Bs e.symm;rw[show w.heap[Bs]?=_ from D]at A;cases A;cases B
 .rcases C.2 with⟨rfl,_⟩|⟨g,cap,A0,rfl,_,R,_⟩
  .exact .inl rfl
  .refine .inr λe=>?_;obtain⟨o,A,B⟩:=L g e.symm;rw[R]at A;cases A;cases B
theorem PlacesAt.kept{l:List Int}(h:PlacesAt w base Bp l)(L:w.grownBy w' row)(X:∀r,row=J r->∃o:Obj,w.heap[r]?=J o/\o.isCells=O):PlacesAt w' base Bp l:=by
 obtain⟨a,c,C,D,E⟩:=h;refine⟨a,c,C.kept L ?_,?_,E⟩
 .intro e;obtain⟨o,B,A⟩:=X Bp e.symm;rw[show w.heap[Bp]?=_ from C]at B;cases B;cases A
 .rcases D with e|⟨b,R,rfl,Q,A⟩
  .exact .inl e
  .exact .inr ⟨b,R,rfl,Xb Q L.size,λi j=>cell_kept (A i j) L X⟩
theorem Fr.kept{W A B:K}(h:Fr Bs Bp base W A)(D:A.grownBy B row)(X:∀r,row=J r->W.heap.size<=r)(hb:base<=W.heap.size):Fr Bs Bp base W B:=by
 have ne:∀k,k<W.heap.size->J k≠row:=λk C e=>by have:=X k e.symm;omega
 refine⟨D.os.trans h.os,D.tape.trans h.tape,D.output.trans h.output,ac h.size D.size,λk C L Q=>(D.block k (Xb (by omega) h.size) (ne k (by omega))).trans (h.low k C L Q),λk o R a L Q=>?_⟩;have C:=(Wb.1 R).1;exact(D.block k (Xb C h.size) (ne k C)).trans (h.box k o R a L Q)
theorem LogAt.kept{H:List St}(h:LogAt w base Bs Bp H ps d)(B:w.grownBy w' row)(D:∀r,row=J r->∃o:Obj,w.heap[r]?=J o/\o.isCells=O):LogAt w' base Bs Bp H ps d:=
 ⟨h.1.kept B D,h.2.1.kept B D,h.2.2⟩
