import Derived.Test.YtjnpndfpajjihadGreatGrJournalRuns11
import Derived.Test.YtjnpndfpajjihadGreatGrJournalRuns13
import Derived.Lib.ConvBytes
set_option maxRecDepth 100000
set_option maxHeartbeats 40000000
namespace Go.Proofs.YtjnpndfpajjihadGreat
open Go.Proofs.Tryz
open Go.RowKit
open Value renaming int -> H,slice -> M,pointer -> C,string -> A,bool -> Y,agg -> F,tuple -> S
open IntKind renaming i64 -> G
open Option renaming none -> Z,some -> J
open Bool renaming false -> O,true -> I
open Go renaming World -> K,Value -> E
open Obj renaming cells -> T
open Ending renaming returned -> N
open _root_.ByteArray renaming empty -> U
variable{B R base c c' i n p0:Nat}{a a':Option Addr}{d:Dk}{p:Addr}{s t:ByteArray}{w w':World}
theorem Ja(t:ByteArray)(w:K):∃(c':Nat) (w':K),(convert 9 117 (A t)).run prog w=.ok (M (J ⟨w.heap.size,0,Z⟩) t.size c') w'/\Below w.heap.size w w'/\w'.heap.size=w.heap.size+1/\
  ∀j,j<t.size->w'.cell? ⟨w.heap.size,j,Z⟩=J (H .u8 (at8 t j)):=by
 have h:=run_bytes_of_string (P:=prog) w 9 117 5 t underlying9 underlying117 underlying5;refine⟨_,_,h,((Ub _ _).drew).alloc (by simp) _,by simp,λj D=>?_⟩;have e:(w.drew).heap.size=w.heap.size:=by simp
 rw[<-e,af,bytesRow,Array.getElem?_append_left (by simpa using D),Array.getElem?_map];have L:j<t.data.size:=D;rw[Df L];have:=SC t j D;simp only[Option.map_some,Option.some.injEq,Value.int.injEq,true_and];exact this
theorem Qa(s:ByteArray)(a b j:Nat)(hb:b<=s.size)(h:a+j<b):at8 (s.extract a b) j=at8 s (a+j):=by
 have A:j<(s.extract a b).size:=by rw[Tf];omega
 rw[<-SC _ j A,<-SC s (a+j) (by omega),ByteArray.getElem_extract]
theorem Sa(q c:Int)(D:0<=q/\q<=4294967295)(L:0<=c/\c<=255):bits .or G (q*256) c=256*q+c:=by
 obtain⟨a,rfl⟩:=Jd D.1;obtain⟨b,rfl⟩:=Jd L.1;have e:((a:Int)*256)=((a*256:Nat):Int):=by omega
 have A:(BitVec.ofInt 64 ((a*256:Nat):Int)).toNat=a*256:=by
  rw[BitVec.ofInt_natCast,BitVec.toNat_ofNat];exact Nat.mod_eq_of_lt (by omega)
 have C:(BitVec.ofInt 64 (b:Int)).toNat=b:=by
  rw[BitVec.ofInt_natCast,BitVec.toNat_ofNat];exact Nat.mod_eq_of_lt (by omega)
 have B:a*256|||b=a*256+b:=by
  have:=Nat.shiftLeft_add_eq_or_of_lt (show b<2^8 by omega) a;rw[Nat.shiftLeft_eq]at this;exact this.symm
 rw[e];show IntKind.i64.wrap ((BitVec.ofInt 64 ((a*256:Nat):Int)|||BitVec.ofInt 64 (b:Int)).toNat:Int)=_;rw[BitVec.toNat_or,A,C,B,Bc];omega
def gsM (s:ByteArray):Mk:=⟨at8 s 4,mA s 4,if at8 s 4=1 then at8 s 9 else 0,if at8 s 4=2 then SA s else[],if at8 s 4=3 then vB s else[]⟩
theorem GY(s:ByteArray)(w:K)(hs:s.size=32):
  Calls prog 192 #[A s] w λe w'=>∃v2,e=N v2/\IsMkN w' w.heap.size v2 (gsM s)/\Below w.heap.size w w':=by
 have hB:∀k (hk:k<s.size),((s[k]'hk).toNat:Int)=at8 s k:=SC s;have hW:=ZD s;have A6:∀k,IntKind.i64.wrap (at8 s k)=at8 s k:=λk=>by have:=oB s k;rw[Bc];omega
 have hz:(s.extract 5 9).size=4:=by rw[Tf];omega
 obtain⟨c2,w2,A3,x,m,r⟩:=Ja (s.extract 5 9) ((w.alloc (T #[H G 0,H G 0,H G 0,M Z 0 0,M Z 0 0] 81)).alloc (T #[H G (at8 s 4),H G 0,H G 0,M Z 0 0,M Z 0 0] 81));have B5:((w.alloc (T #[H G 0,H G 0,H G 0,M Z 0 0,M Z 0 0] 81)).alloc (T #[H G (at8 s 4),H G 0,H G 0,M Z 0 0,M Z 0 0] 81)).heap.size=w.heap.size+2:=by simp
 have A2:Hid (∀j,j<4->w2.cell? ⟨w.heap.size+2,j,Z⟩=J (H .u8 (at8 s (5+j)))):=by
  intro j hj;rw[<-B5,r j (by omega),Qa s 5 9 j (by omega) (by omega)]
 have u:=zA x;have A1:Hid (w2.heap.size=w.heap.size+3):=by rw[Hid,m,B5]
 rw[B5,hz]at A3;clear r x m B5;go_enter func192,ntmps192;go_wp2
 go_loopw [14] (λi wr=>∃k:Nat,k<=4/\i=H G k/\wr.heap[w.heap.size+1]?=J (T #[H G (at8 s 4),H G (mA s k),H G 0,M Z 0 0,M Z 0 0] 81 (0,0))/\
  Hid (∀j,j<4->wr.cell? ⟨w.heap.size+2,j,Z⟩=J (H .u8 (at8 s (5+j))))/\w.heap.size+2<wr.heap.size/\
  Below (w.heap.size+1) (w.alloc (T #[H G 0,H G 0,H G 0,M Z 0 0,M Z 0 0] 81)) wr) (λi _=>4 - (intOf i).toNat)
 case atStart=>
  refine⟨0,Vb _,rfl,jZ u.o,A2,by rw[A1.o];omega,?_⟩;exact((Ub _ _).alloc (by simp) _).trans (u.o.mono (by simp))
 case round=>
  obtain⟨k,hk,rfl,L,Y,B7,Q⟩:=hrel;have B6:=zA L;obtain⟨⟨x0,z,x2,x3,x4⟩,e0,e1,e2,e3,e4⟩:=LA L;clear L;have p:w.heap.size+1<wr.heap.size:=by omega
  have A4:w.heap.size<wr.heap.size:=by omega
  by_cases hlt:k<4
  .have A5:(k:Int)<4:=by omega
   have A7:=Y.o k hlt;obtain⟨q,hq⟩:∃q,q=mA s k:=⟨_,rfl⟩;have n:=dD s k (by omega);rw[<-hq]at z n;have HQ:=zA hq;clear hq;have A8:=Sa q (at8 s (5+k)) n (oB s (5+k));go_wp2
   go_roundw
   case rel=>
    refine⟨k+1,by omega,by go_num,?_,?_,by simpa using B7,Q.setCell (by simp) _⟩
    .refine(zc wr _ _ _ _ _ B6.o).trans ?_;rw[mA,<-HQ.o,Nat.add_comm k 5];rfl
    .intro j hj;exact lC (Y.o j hj) (by simp)
   case measure=>simp[intOf];omega
  .obtain rfl:k=4:=by omega
   obtain⟨⟨D,E,B1,B,I⟩,d,f1,a,l,c⟩:=LA (PD Q);have h:=zA (vA (qA _ _) (Q.mono (by simp)));clear Q hlt hk Y B7;by_cases h1:at8 s 4=1
   .have B3:Hid (gsM s=⟨at8 s 4,mA s 4,at8 s 9,[],[]⟩):=by
     rw[Hid,gsM,Rb h1,Qb (by omega),Qb (by omega)]
    go_wp2;refine Tb (v:=F #[H G (at8 s 4),H G (mA s 4),H G (at8 s 9),M Z 0 0,M Z 0 0]) (by simp[results,results192,go_sem,D,E,B1,B,I,h1]) rfl ⟨_,rfl,?_,?_⟩
    .rw[B3.o];exact⟨Z,0,Z,0,rfl,.inl rfl,.inl rfl,Vb _,Vb _,λ_ _ e=>(by cases e),λ_ _ e=>(by cases e)⟩
    .repeat refine Zb ?_ (by simp) _
     exact h.o
   .by_cases h2:at8 s 4=2
    .have B3:Hid (gsM s=⟨at8 s 4,mA s 4,0,SA s,[]⟩):=by
      rw[Hid,gsM,Qb h1,Rb h2,Qb (by omega)]
     go_wp2_with fail;refine(ZW s _ hs).mono ?_;rintro e X ⟨B2,c3,rfl,C,B0⟩;have B4:=zA C;have A0:w.heap.size+1<X.heap.size:=by have:=B0.size;omega
     have y:w.heap.size<X.heap.size:=by omega
     obtain⟨⟨z0,z1,z2,z3,z4⟩,g0,g1,g2,g3,g4⟩:=LA ((B0.block _ p).trans B6.o)
     replace D:=xA B0 (by omega) D
     replace E:=xA B0 (by omega) E
     replace B1:=xA B0 (by omega) B1
     replace B:=xA B0 (by omega) B
     replace I:=xA B0 (by omega) I
     replace d:=bA B0 (by omega) d
     replace f1:=bA B0 (by omega) f1
     replace a:=bA B0 (by omega) a
     replace l:=bA B0 (by omega) l
     replace c:=bA B0 (by omega) c
     have S:=zA (vA h.o B0);have R:∀b A9,B2=J ⟨b,A9,Z⟩->w.heap.size+2<=b:=λb A9 e=>by have:=B4.o.2 b A9 e;omega
     have U:=zA R;clear C B0 x0 z x2 x3 x4 e0 e1 e2 e3 e4 R;go_wp2;refine Tb (v:=F #[H G (at8 s 4),H G (mA s 4),H G 0,M B2 (SA s).length c3,M Z 0 0]) (by simp[results,results192,go_sem,D,E,B1,B,I,h2]) rfl ⟨_,rfl,?_,?_⟩
     .rw[B3.o];refine⟨B2,c3,Z,0,rfl,?_,.inl rfl,?_,Vb _,λb A9 e=>(by have:=U.o b A9 e;omega),λ_ _ e=>(by cases e)⟩
      .repeat refine SegT.setNe ?_ (λb A9 e=>by have:=U.o b A9 e;simp;omega) _
       exact B4.o.1
      .show(SA s).length<=maxLen;rw[TE,WB];unfold maxLen;omega
     .repeat refine Zb ?_ (by simp) _
      exact S.o
    .by_cases h3:at8 s 4=3
     .have B3:Hid (gsM s=⟨at8 s 4,mA s 4,0,[],vB s⟩):=by
       rw[Hid,gsM,Qb h1,Qb h2,Rb h3]
      go_wp2_with fail;refine(UW s _ hs).mono ?_;rintro e X ⟨B2,c3,rfl,C,B0⟩;have B4:=zA C;have A0:w.heap.size+1<X.heap.size:=by have:=B0.size;omega
      have y:w.heap.size<X.heap.size:=by omega
      obtain⟨⟨z0,z1,z2,z3,z4⟩,g0,g1,g2,g3,g4⟩:=LA ((B0.block _ p).trans B6.o)
      replace D:=xA B0 (by omega) D
      replace E:=xA B0 (by omega) E
      replace B1:=xA B0 (by omega) B1
      replace B:=xA B0 (by omega) B
      replace I:=xA B0 (by omega) I
      replace d:=bA B0 (by omega) d
      replace f1:=bA B0 (by omega) f1
      replace a:=bA B0 (by omega) a
      replace l:=bA B0 (by omega) l
      replace c:=bA B0 (by omega) c
      have S:=zA (vA h.o B0);have R:∀b A9,B2=J ⟨b,A9,Z⟩->w.heap.size+2<=b:=λb A9 e=>by have:=B4.o.2 b A9 e;omega
      have U:=zA R;clear C B0 x0 z x2 x3 x4 e0 e1 e2 e3 e4 R;go_wp2;refine Tb (v:=F #[H G (at8 s 4),H G (mA s 4),H G 0,M Z 0 0,M B2 (vB s).length c3]) (by simp[results,results192,go_sem,D,E,B1,B,I,h3]) rfl ⟨_,rfl,?_,?_⟩
      .rw[B3.o];refine⟨Z,0,B2,c3,rfl,.inl rfl,?_,Vb _,?_,λ_ _ e=>(by cases e),λb A9 e=>(by have:=U.o b A9 e;omega)⟩
       .repeat refine SegI.setNe ?_ (λb A9 e=>by have:=U.o b A9 e;simp;omega) _
        exact B4.o.1
       .show(vB s).length<=maxLen;rw[VE,WB];unfold maxLen;omega
      .repeat refine Zb ?_ (by simp) _
       exact S.o
     .have B3:Hid (gsM s=⟨at8 s 4,mA s 4,0,[],[]⟩):=by
       rw[Hid,gsM,Qb h1,Qb h2,Qb h3]
      have k1:(at8 s 4==1)=O:=by simpa using h1
      have k2:(at8 s 4==2)=O:=by simpa using h2
      have k3:(at8 s 4==3)=O:=by simpa using h3
      go_wp2;refine Tb (v:=F #[H G (at8 s 4),H G (mA s 4),H G 0,M Z 0 0,M Z 0 0]) (by simp[results,results192,go_sem,D,E,B1,B,I]) rfl ⟨_,rfl,?_,?_⟩
      .rw[B3.o];exact⟨Z,0,Z,0,rfl,.inl rfl,.inl rfl,Vb _,Vb _,λ_ _ e=>(by cases e),λ_ _ e=>(by cases e)⟩
      .repeat refine Zb ?_ (by simp) _
       exact h.o
theorem KV(h:¬t=s):(t.toList==s.toList)=O:=by
 rw[Ec];intro e;rw[yg,yg]at e;exact h (Lf (Ce e))
def EA (s:ByteArray):Mk×Int:=if s.size=32/\goodM (gsM s)=0/\encT (gsM s)=s then(gsM s,0) else(yC,1)
theorem pS(s:ByteArray)(w:K)(h:¬s.size=32):
  Calls prog 144 #[A s] w λe w'=>∃D,e=N (S #[D,H G 1])/\IsMkN w' w.heap.size D yC/\Below w.heap.size w w':=by
 have h':((s.size:Int) !=32)=I:=by
  rw[bne_iff_ne];omega
 go_enter func144,ntmps144;go_wp2;refine Tb (v:=S #[F #[H G 0,H G 0,H G 0,M Z 0 0,M Z 0 0],H G 1]) (by simp[results,results144,go_sem]) rfl ⟨_,rfl,KC _ _,?_⟩
 repeat refine Zb ?_ (by simp) _
 exact qA _ _
theorem WX(s:ByteArray)(w:K)(h:s.size=32):
  Calls prog 144 #[A s] w λe w'=>∃v2,e=N (S #[v2,H G (EA s).2])/\IsMkN w' w.heap.size v2 (EA s).1/\Below w.heap.size w w':=by
 go_enter func144,ntmps144;go_wp2_with fail;refine(GY s _ h).mono ?_;rintro e X ⟨v1,rfl,hd1,D⟩;obtain⟨m,j⟩:∃m,m=gsM s:=⟨_,rfl⟩;rw[<-j]at hd1;obtain⟨a,c,A8,Q,rfl,B2,d,i,B3,n,U⟩:=hd1;have y:Hid (IsMk X (F #[H G m.kind,H G m.seq,H G m.pos,M a m.tags.length c,M A8 m.blocks.length Q]) m):=⟨a,c,A8,Q,rfl,B2,d,i,B3⟩;have HT:=zA B2;have HI:=zA d;have p:=zA (And.intro i B3);have R:Hid ((∀b A5,a=J ⟨b,A5,Z⟩->w.heap.size+1<=b)/\∀b A5,A8=J ⟨b,A5,Z⟩->w.heap.size+1<=b):=⟨λb A5 e=>(by have:=n b A5 e;simp at this;omega),λb A5 e=>(by have:=U b A5 e;simp at this;omega)⟩;clear B2 d i B3 n U;have A3:w.heap.size<X.heap.size:=by have:=D.size;simp at this;omega
 obtain⟨⟨B0,B1,O,A9,A7⟩,l,f1,q,u,r⟩:=LA (BI D);have B4:=zA (vA (qA _ _) D);have Y:=zA j;clear D j;go_wp2_with fail;refine(wI _ m _ (y.o.below (qA _ _))).mono ?_;rintro e w2 ⟨rfl,C⟩;have A4:X.heap.size<w2.heap.size:=by have:=C.size;simp at this;omega
 have A0:w.heap.size<w2.heap.size:=by omega
 obtain⟨⟨x0,x1,x2,x3,x4⟩,_⟩:=LA (BI C);have A6:=vA (qA _ _) C
 replace B0:=xA A6 (by omega) B0
 replace B1:=xA A6 (by omega) B1
 replace O:=xA A6 (by omega) O
 replace A9:=xA A6 (by omega) A9
 replace A7:=xA A6 (by omega) A7
 replace l:=bA A6 (by omega) l
 replace f1:=bA A6 (by omega) f1
 replace q:=bA A6 (by omega) q
 replace u:=bA A6 (by omega) u
 replace r:=bA A6 (by omega) r
 have z:=zA (HT.o.below A6);have k:=zA (HI.o.below A6);have L:=zA (vA B4.o A6);clear C A6 B4;by_cases hg:goodM m=0
 .obtain⟨t,E⟩:∃t,t=encT m:=⟨_,rfl⟩;rw[<-E,hg];by_cases hE:t=s
  .have B:Hid (EA s=(m,0)):=by
    rw[Hid,EA,<-Y.o,Rb ⟨h,hg,by rw[<-E];exact hE⟩]
   clear E hg;subst hE;go_wp2;refine Tb (v:=S #[F #[H G m.kind,H G m.seq,H G m.pos,M a m.tags.length c,M A8 m.blocks.length Q],H G 0]) (by simp[results,results144,go_sem,B0,B1,O,A9,A7]) rfl ⟨_,by rw[B.o],?_,?_⟩
   .rw[B.o];refine⟨a,c,A8,Q,rfl,?_,?_,p.o.1,p.o.2,λb A5 e=>(by have:=R.o.1 b A5 e;omega),λb A5 e=>(by have:=R.o.2 b A5 e;omega)⟩
    .repeat refine SegT.setNe ?_ (λb A5 e=>by have:=R.o.1 b A5 e;simp;omega) _
     exact z.o
    .repeat refine SegI.setNe ?_ (λb A5 e=>by have:=R.o.2 b A5 e;simp;omega) _
     exact k.o
   .repeat refine Zb ?_ (by simp) _
    exact L.o
  .have B:Hid (EA s=(yC,1)):=by
    rw[Hid,EA,<-Y.o,Qb (λx=>hE (by rw[E];exact x.2.2))]
   have A1:=KV hE;clear E hg;go_wp2;refine Tb (v:=S #[F #[H G 0,H G 0,H G 0,M Z 0 0,M Z 0 0],H G 1]) (by simp[results,results144,go_sem,B0,B1,O,A9,A7]) rfl ⟨_,by rw[B.o],by rw[B.o];exact KC _ _,?_⟩
   repeat refine Zb ?_ (by simp) _
   exact L.o
 .have B:Hid (EA s=(yC,1)):=by
   rw[Hid,EA,<-Y.o,Qb (λx=>hg x.2.1)]
  have A2:(goodM m !=0)=I:=by simpa using hg
  go_wp2;refine Tb (v:=S #[F #[H G 0,H G 0,H G 0,M Z 0 0,M Z 0 0],H G 1]) (by simp[results,results144,go_sem,B0,B1,O,A9,A7]) rfl ⟨_,by rw[B.o],by rw[B.o];exact KC _ _,?_⟩
  repeat refine Zb ?_ (by simp) _
  exact L.o
theorem bQ(s:ByteArray)(w:K):
  Calls prog 144 #[A s] w λe w'=>∃D,e=N (S #[D,H G (EA s).2])/\IsMkN w' w.heap.size D (EA s).1/\Below w.heap.size w w':=by
 by_cases h:s.size=32
 .exact WX s w h
 .have e:EA s=(yC,1):=Qb λx=>h x.1;rw[e];exact pS s w h
theorem QV(s:ByteArray)(w:K):
  Calls prog 144 #[A s] w λe w'=>∃D,e=N (S #[D,H G (EA s).2])/\IsMk w' D (EA s).1/\Below w.heap.size w w':=
 (bQ s w).mono λ_ _ ⟨D,h1,h2,h3⟩=>⟨D,h1,h2.is,h3⟩
def gA (seq:Int):Tx:=⟨seq,[],[],[],⟨O,0⟩,⟨O,0⟩,⟨O,0⟩⟩
def copiesAt (log:List ByteArray):Nat->List (Int×Bool)->List (Int×ByteArray)
 |_,[]=>[]
 |i,x::r=>(x.1,aB (log.getD i U) x.2)::copiesAt log (i+1) r
theorem wJ(log:List ByteArray)(i:Nat)(l:List (Int×Bool)):(copiesAt log i l).length=l.length:=by
 induction l generalizing i with
 |nil=>rfl
 |cons x r ih=>simp[copiesAt,ih]
theorem CM{l:List (Int×Bool)}{k:Nat}{x:Int×Bool}(h:l[k]?=J x)(log:List ByteArray)(i:Nat):copiesAt log i (l.take (k+1))=copiesAt log i (l.take k)++[(x.1,aB (log.getD (i+k) U) x.2)]:=by
 induction l generalizing i k with
 |nil=>simp at h
 |cons y r ih=>
  cases k with
  |zero=>simp at h;subst h;rfl
  |succ k=>
   have:=ih (k:=k) (by simpa using h) (i+1);rw[qg,qg,copiesAt,copiesAt,this,show i+1+k=i+(k+1) from by omega];rfl
def more (log:List ByteArray)(i:Nat)(t:Tx)(m:Mk):Tx:={t with rev:=t.rev++m.blocks,info:=t.info++copiesAt log (i+1) m.tags}
def FA (log:List ByteArray)(seq:Int)(i:Nat)(t:Tx):Option (Nat×Tx):=
 if _h:i<log.length then
  if(EA (log.getD i U)).2≠0\/(EA (log.getD i U)).1.seq≠seq\/(EA (log.getD i U)).1.kind=1 then Z
  else if(EA (log.getD i U)).1.kind=4 then J (i+1,t)
  else if i+1+(EA (log.getD i U)).1.tags.length<=log.length then FA log seq (i+1+(EA (log.getD i U)).1.tags.length) (more log i t (EA (log.getD i U)).1)
  else Z
 else Z
termination_by log.length - i
decreasing_by omega
def scanP (log:List ByteArray)(pos:Nat)(seq:Int)(D:List Tx):List Tx×Nat:=
 if _h:seq<2147483647 then
  match FA log seq pos (gA seq) with
  |none=>(D,pos)
  |some (n,t)=>scanP log n (seq+1) (D++[t])
 else(D,pos)
termination_by (2147483647 - seq).toNat
decreasing_by omega
def logOf (d:Dk)(D:Int):List ByteArray:=(List.range 24).map λi:Nat=>jA d (1+(D+(i:Int))%24)
theorem TA(d:Dk)(a:Int):(logOf d a).length=24:=by simp[logOf]
theorem qG(d:Dk)(a:Int)(i:Nat)(h:i<24):(logOf d a).getD i U=jA d (1+(a+(i:Int))%24):=by
 rw[logOf,List.getD,Ld,Cf h];rfl
def pA (d:Dk):Mk:=(EA (jA d 0)).1
def MA (d:Dk):Int:=if readE d 0≠0 then readE d 0 else if(EA (jA d 0)).2≠0\/(pA d).kind≠1 then 1 else 0
def GA (d:Dk):List Tx×Nat:=scanP (logOf d (pA d).pos) 0 (pA d).seq []
theorem mE(log:List ByteArray)(seq:Int):∀(f i:Nat) (t:Tx) (n:Nat) (u:Tx),log.length - i<=f->FA log seq i t=J (n,u)->i<n/\n<=log.length:=by
 intro f
 induction f with
 |zero=>intro i t n u A h;rw[FA,Bd (by omega)]at h;cases h
 |succ f ih=>
  intro i t n u A h;rw[FA]at h;split at h
  .split at h
   .cases h
   .split at h
    .cases h;omega
    .split at h
     .have:=ih _ _ _ _ (by omega) h;omega
     .cases h
  .cases h
theorem uJ{α:Type}(l:List α)(p i:Nat)(x:α):(l.drop p).getD i x=l.getD (p+i) x:=by
 rw[List.getD,List.getD,ze]
theorem AZ(log:List ByteArray)(p i:Nat)(l:List (Int×Bool)):copiesAt (log.drop p) i l=copiesAt log (p+i) l:=by
 induction l generalizing i with
 |nil=>rfl
 |cons x r ih=>rw[copiesAt,copiesAt,uJ,ih,Nat.add_assoc]
theorem qI(log:List ByteArray)(seq:Int)(p:Nat)(hp:p<=log.length):∀(f i:Nat) (t:Tx),log.length - (p+i)<=f->FA (log.drop p) seq i t=(FA log seq (p+i) t).map (λx=>(x.1 - p,x.2)):=by
 intro f
 induction f with
 |zero=>intro i t A;rw[FA.eq_def (log.drop p) seq i t,FA.eq_def log seq (p+i) t,Bd (by rw[Uc];omega),Bd (by omega)];rfl
 |succ f ih=>
  intro i t A;rw[FA.eq_def (log.drop p) seq i t,FA.eq_def log seq (p+i) t];by_cases h:p+i<log.length
  .rw[td (by rw[Uc];omega),td h,uJ];by_cases h1:(EA (log.getD (p+i) U)).2≠0\/(EA (log.getD (p+i) U)).1.seq≠seq\/(EA (log.getD (p+i) U)).1.kind=1
   .rw[Rb h1,Rb h1];rfl
   .rw[Qb h1,Qb h1];by_cases h2:(EA (log.getD (p+i) U)).1.kind=4
    .rw[Rb h2,Rb h2];simp only[Option.map_some];rw[show p+i+1 - p=i+1 from by omega]
    .rw[Qb h2,Qb h2];by_cases h3:p+i+1+(EA (log.getD (p+i) U)).1.tags.length<=log.length
     .rw[Rb (by rw[Uc];omega),Rb h3,ih _ _ (by omega)];rw[show p+(i+1+(EA (log.getD (p+i) U)).1.tags.length)=p+i+1+(EA (log.getD (p+i) U)).1.tags.length from by omega];unfold more;rw[AZ,show p+(i+1)=p+i+1 from by omega]
     .rw[Qb (by rw[Uc];omega),Qb h3];rfl
  .rw[Bd (by rw[Uc];omega),Bd h];rfl
open Go.Proofs.Tryz
def Rd (w:K)(R:Nat)(a:Option Addr)(c:Nat)(a':Option Addr)(c':Nat)(d:Dk)(p0 i:Nat):Prop:=
 w.heap[R]?=J (T #[M a d.safe.length c,M a' d.wr.length c',H G (((p0+i)%24:Nat):Int),H G ((24 - i:Nat):Int)] 144 (0,0))
theorem UE{Q L D X:E}{t:TypeId}(h:w.heap[B]?=J (T #[Q,L,D,X] t (0,0))):
  (w.cell? ⟨B,0,Z⟩=J Q/\w.cell? ⟨B,1,Z⟩=J L/\w.cell? ⟨B,2,Z⟩=J D/\w.cell? ⟨B,3,Z⟩=J X)/\∀k,w.frozen? ⟨B,k,Z⟩=O:=by
 refine⟨⟨?_,?_,?_,?_⟩,λk=>jd w _ _ _ _ h⟩<;>(rw[Hc w _ _ _ _ _ h];rfl)
theorem But.below{D:K}(h:But R w.heap.size w w')(hb:Below base D w)(hw:base<=w.heap.size)(hR:base<=R):Below base D w':=
 ⟨h.os.trans hb.os,h.tape.trans hb.tape,h.output.trans hb.output,ac hb.size h.size,λk L=>(h.block k (by omega) (by omega)).trans (hb.block k L)⟩
theorem But.setCell{o:Nat}(h:But R base w w')(u:E):But R base w (w'.setCell ⟨R,o,Z⟩ u):=by
 refine⟨h.os,h.tape,h.output,by simpa[World.setCell] using h.size,λk L D=>?_⟩;rw[World.setCell];simp only[Array.getElem?_modify];rw[Qb (λx=>D x.symm)];exact h.block k L D
theorem kb(h:cA d=I){p:Nat}(hp:p<24):readE d (1+(p:Int))=0:=by
 have:QA (1+(p:Int))=I:=by simp[QA];omega
 simp[readE,h,this]
theorem zO(R:Nat)(a:Option Addr)(c:Nat)(a':Option Addr)(c':Nat)(d:Dk)(p0:Nat)(w:K)(D:Rd w R a c a' c' d p0 24):
  Calls prog 193 #[C (J ⟨R,0,Z⟩)] w λe w'=>e=N (S #[A ⟨#[]⟩,Y O])/\w=w':=by
 obtain⟨⟨x0,x1,x2,L⟩,ff⟩:=UE D;clear D;simp only[Nat.sub_self]at L;go_enter func193,ntmps193;go_wp2;exact Tb (v:=S #[A ⟨#[]⟩,Y O]) (by simp[results,results193,go_sem]) rfl ⟨rfl,rfl⟩
theorem eM(R:Nat)(a:Option Addr)(c:Nat)(a':Option Addr)(c':Nat)(d:Dk)(p0 i:Nat)(w r:K)(q:Rd w R a c a' c' d p0 i)(hi:i<24)(y:IsDk r (F #[M a d.safe.length c,M a' d.wr.length c']) d)(hg:cA d=I)(hb:Below r.heap.size r w):
  Calls prog 193 #[C (J ⟨R,0,Z⟩)] w λe w'=>e=N (S #[A (jA d (1+(((p0+i)%24:Nat):Int))),Y I])/\Rd w' R a c a' c' d p0 (i+1)/\But R w.heap.size w w':=by
 have z:=zA q;have A7:R<w.heap.size:=(Wb.1 q).1;obtain⟨p,B⟩:∃p,p=(p0+i)%24:=⟨_,rfl⟩;have A6:p<24:=by omega
 have U:Hid ((p0+(i+1))%24=(p+1)%24):=by rw[Hid,B];omega
 have HP:=zA B;have B0:Hid ((((p0+i)%24:Nat):Int)=(p:Int)):=by rw[Hid,<-B]
 obtain⟨⟨A8,l,Q,L⟩,j⟩:=UE q;rw[<-B]at Q|-;have X:=zA y;have E:=zA hb;have k:=zA (kb hg A6);clear q y hb B;have D:((24 - i:Nat):Int)=24 - (i:Int):=by omega
 rw[D]at L;have A0:((24 - (i:Int))==0)=O:=by rw[Ec];omega
 have ew:IntKind.i64.wrap (1+(p:Int))=1+(p:Int):=by rw[Bc];omega
 have A1:IntKind.i64.wrap ((p:Int)+1)=(p:Int)+1:=by rw[Bc];omega
 have em:((p:Int)+1).tmod 24=(((p+1)%24:Nat):Int):=by rw[Qd (by omega)];omega
 go_enter func193,ntmps193;go_wp2
 go_region_with (go_at_call 143;refine(vK _ d (1+(p:Int)) _ (X.o.below (vA E.o ((Ub _ _).drew)))).mono ?_;rintro e A2 ⟨rfl,A3⟩;rw[k.o];have x:Below w.heap.size w A2:=((Ub _ _).drew).trans A3;have u:=yA x A7 z.o;obtain⟨⟨y0,y1,m,b⟩,fg⟩:=UE u)
 all_goals
  have A9:=zA u;have A5:=zA x;rw[B0.o]at m;rw[D]at b;clear A3 x u A8 l Q L j X E z;go_wp2;refine Tb (v:=S #[A (jA d (1+(p:Int))),Y I]) (by simp[results,results193,go_sem]) rfl ⟨rfl,?_,?_⟩
  .have h:=zc A2 R 2 _ _ (H G (((p+1)%24:Nat):Int)) A9.o;have A4:=zc _ R 3 _ _ (H G (24 - (i:Int) - 1)) h;rw[Rd,U.o,show((24 - (i+1):Nat):Int)=24 - (i:Int) - 1 from by omega];exact A4
  .exact((But.of_below A5.o).setCell _).setCell _
theorem sO(d:Dk)(p0 i:Nat)(h:i<24):jA d (1+(((p0+i)%24:Nat):Int))=(logOf d p0).getD i U:=by
 rw[qG d p0 i h]
 congr 2
theorem Rd.lt(h:Rd w R a c a' c' d p0 i):R<w.heap.size:=(Wb.1 h).1
theorem Rd.below(h:Rd w R a c a' c' d p0 i)(hb:Below w.heap.size w w'):Rd w' R a c a' c' d p0 i:=yA hb h.lt h
theorem Rd.setNe(h:Rd w R a c a' c' d p0 i)(D:R≠p.block)(u:E):Rd (w.setCell p u) R a c a' c' d p0 i:=by
 rw[Rd,World.setCell];simp only[Array.getElem?_modify];rw[Qb (λx=>D x.symm)];exact h
theorem But.setNew(h:But R base w w')(hp:base<=p.block)(u:E):But R base w (w'.setCell p u):=by
 refine⟨h.os,h.tape,h.output,by simpa[World.setCell] using h.size,λk D L=>?_⟩;rw[World.setCell];simp only[Array.getElem?_modify];rw[Qb (by omega)];exact h.block k D L
theorem But.low{D:Nat}(h:But R base w w')(hb:D<=base):But R D w w':=⟨h.os,h.tape,h.output,h.size,λk hk L=>h.block k (by omega) L⟩
theorem YJ{q l j m k:E}{t:TypeId}(h:w.heap[B]?=J (T #[q,l,j,m,k] t (0,0)))(b X Q L e:E)(o:Obj):
  ((((((w.setCell ⟨B,0,Z⟩ b).setCell ⟨B,1,Z⟩ X).setCell ⟨B,2,Z⟩ Q).setCell ⟨B,3,Z⟩ L).setCell ⟨B,4,Z⟩ e).alloc o).drew.heap[B]?=J (T #[b,X,Q,L,e] t (0,0)):=by
 have r:=zc w B 0 _ _ b h;have D:=zc _ B 1 _ _ X r;have C:=zc _ B 2 _ _ Q D;have F:=zc _ B 3 _ _ L C;have A:=zc _ B 4 _ _ e F;exact(yA (vA (qA _ o) ((Ub _ _).drew)) (Wb.1 A).1 A)
theorem UZ(R:Nat)(a:Option Addr)(c:Nat)(a':Option Addr)(c':Nat)(d:Dk)(p0:Nat)(seq:Int)(w:K)(D:Rd w R a c a' c' d p0 24):
  Calls prog 145 #[C (J ⟨R,0,Z⟩),H G seq] w λe w'=>e=N (S #[F #[H G 0,H G 0,H G 0,M Z 0 0,M Z 0 0],Y O])/\Below w.heap.size w w':=by
 have A:=zA D;clear D;go_enter func145,ntmps145;go_wp2_with fail;refine(zO R a c a' c' d p0 _ (A.o.below (qA _ _))).mono ?_;rintro e w1 ⟨rfl,rfl⟩;go_wp2;refine Tb (v:=S #[F #[H G 0,H G 0,H G 0,M Z 0 0,M Z 0 0],Y O]) (by simp[results,results145,go_sem]) rfl ⟨rfl,?_⟩
 repeat refine Zb ?_ (by simp) _
 exact qA _ _
theorem uT(R:Nat)(a:Option Addr)(c:Nat)(a':Option Addr)(c':Nat)(d:Dk)(p0 i:Nat)(seq:Int)(w w0:K)(hR:Rd w R a c a' c' d p0 i)(hi:i<24)(hD:IsDk w0 (F #[M a d.safe.length c,M a' d.wr.length c']) d)(hg:cA d=I)(hb:Below w0.heap.size w0 w):
  Calls prog 145 #[C (J ⟨R,0,Z⟩),H G seq] w λe w'=>∃v,e=N (S #[v,Y (decide ((EA ((logOf d p0).getD i U)).2=0)&&decide ((EA ((logOf d p0).getD i U)).1.seq=seq))])/\IsMkN w' w.heap.size v (EA ((logOf d p0).getD i U)).1/\Rd w' R a c a' c' d p0 (i+1)/\But R w.heap.size w w':=by
 have HR:=zA hR;have A2:=hR.lt;have HD:=zA hD;have n:=zA hb;clear hR hD hb;go_enter func145,ntmps145;go_wp2_with fail;refine(eM R a c a' c' d p0 i _ w0 (HR.o.below (qA _ _)) hi HD.o hg (vA n.o (qA _ _))).mono ?_;rintro e u ⟨rfl,r,L⟩;rw[sO d p0 i hi];obtain⟨s,B6⟩:∃s,s=(logOf d p0).getD i U:=⟨_,rfl⟩;rw[<-B6];have A9:=zA B6;clear B6;have k:=zA r;have q:=zA L;have l:w.heap.size+1<=u.heap.size:=by have:=L.size;simpa using this
 have A0:w.heap.size<u.heap.size:=by omega
 have K4:Hid (u.heap[w.heap.size]?=J (T #[H G 0,H G 0,H G 0,M Z 0 0,M Z 0 0] 81 (0,0))):=(L.block _ (by simp) (by omega)).trans (Cc w _);clear r L HR HD n;go_wp2_with fail;refine(bQ s _).mono ?_;rintro e h ⟨v2,rfl,hN,B3⟩;obtain⟨B,c2,A,c3,rfl,hT,hI,n1,n2,t1,t2⟩:=hN;obtain⟨m,hm⟩:∃m,m=EA s:=⟨_,rfl⟩;rw[<-hm]at hT hI n1 n2|-;have HT:=zA hT;have HI:=zA hI;have A6:Hid ((∀b A5,B=J ⟨b,A5,Z⟩->w.heap.size+1<=b)/\∀b A5,A=J ⟨b,A5,Z⟩->w.heap.size+1<=b):=⟨λb A5 e=>ac l (t1 b A5 e),λb A5 e=>ac l (t2 b A5 e)⟩;have B7:=zA (k.o.below B3);have j:=zA (yA B3 A0 K4.o);have X:Hid (But R w.heap.size w h):=(((But.of_below (qA _ _)).trans q.o (by simp)).trans (But.of_below B3) (by omega));have A4:w.heap.size<h.heap.size:=by have:=B3.size;omega
 have B0:=zA (And.intro n1 n2);have A8:=zA hm;clear hT hI n1 n2 t1 t2 B3 k q K4 hm;obtain⟨⟨y0,x,y2,z,y4⟩,y,f1,f2,f3,f4⟩:=LA j.o;obtain⟨mk,er⟩:=m;by_cases he:er=0
 .subst he;by_cases hq:mk.seq=seq
  .have A1:(mk.seq==seq)=I:=by simpa using hq
   go_wp2
   go_region
   all_goals
    obtain⟨W,D⟩:∃W,W=((((((h.setCell ⟨w.heap.size,0,Z⟩ (H G mk.kind)).setCell ⟨w.heap.size,1,Z⟩ (H G seq)).setCell ⟨w.heap.size,2,Z⟩ (H G mk.pos)).setCell ⟨w.heap.size,3,Z⟩ (M B mk.tags.length c2)).setCell ⟨w.heap.size,4,Z⟩ (M A mk.blocks.length c3)).alloc (T #[H G mk.kind,H G seq,H G mk.pos,M B mk.tags.length c2,M A mk.blocks.length c3] 81)).drew:=⟨_,rfl⟩;have A7:=YJ j.o (H G mk.kind) (H G seq) (H G mk.pos) (M B mk.tags.length c2) (M A mk.blocks.length c3) (T #[H G mk.kind,H G seq,H G mk.pos,M B mk.tags.length c2,M A mk.blocks.length c3] 81);rw[<-D]at A7;obtain⟨⟨B1,B5,B2,B4,Q⟩,_⟩:=LA A7;have E:=zA D;rw[<-D];clear D A7 y0 x y2 z y4 y f1 f2 f3 f4;go_wp2;refine Tb (v:=S #[F #[H G mk.kind,H G seq,H G mk.pos,M B mk.tags.length c2,M A mk.blocks.length c3],Y I]) (by simp[results,results145,go_sem,B1,B5,B2,B4,Q]) rfl ⟨F #[H G mk.kind,H G seq,H G mk.pos,M B mk.tags.length c2,M A mk.blocks.length c3],by rw[<-A9.o,<-A8.o];simp[hq],?_,?_,?_⟩
    .rw[<-A9.o,<-A8.o];refine⟨B,c2,A,c3,by rw[hq],?_,?_,B0.o.1,B0.o.2,λb A5 e=>(by have:=A6.o.1 b A5 e;omega),λb A5 e=>(by have:=A6.o.2 b A5 e;omega)⟩
     .rw[E.o];refine SegT.below ?_ (vA (qA _ _) ((Ub _ _).drew))
      repeat refine SegT.setNe ?_ (λb A5 e=>by have:=A6.o.1 b A5 e;simp;omega) _
      exact HT.o
     .rw[E.o];refine SegI.below ?_ (vA (qA _ _) ((Ub _ _).drew))
      repeat refine SegI.setNe ?_ (λb A5 e=>by have:=A6.o.2 b A5 e;simp;omega) _
      exact HI.o
    .rw[E.o];refine Rd.below ?_ (vA (qA _ _) ((Ub _ _).drew))
     repeat refine Rd.setNe ?_ (show R≠w.heap.size by omega) _
     exact B7.o
    .rw[E.o];refine But.trans ?_ (But.of_below (vA (qA _ _) ((Ub _ _).drew))) (by simp[World.setCell];omega);exact(((((X.o.setNew (p:=⟨w.heap.size,0,Z⟩) (Sb _) _).setNew (p:=⟨w.heap.size,1,Z⟩) (Sb _) _).setNew (p:=⟨w.heap.size,2,Z⟩) (Sb _) _).setNew (p:=⟨w.heap.size,3,Z⟩) (Sb _) _).setNew (p:=⟨w.heap.size,4,Z⟩) (Sb _) _)
  .have A1:(mk.seq==seq)=O:=by simpa using hq
   go_wp2
   go_region
   all_goals
    obtain⟨W,D⟩:∃W,W=((((((h.setCell ⟨w.heap.size,0,Z⟩ (H G mk.kind)).setCell ⟨w.heap.size,1,Z⟩ (H G mk.seq)).setCell ⟨w.heap.size,2,Z⟩ (H G mk.pos)).setCell ⟨w.heap.size,3,Z⟩ (M B mk.tags.length c2)).setCell ⟨w.heap.size,4,Z⟩ (M A mk.blocks.length c3)).alloc (T #[H G mk.kind,H G mk.seq,H G mk.pos,M B mk.tags.length c2,M A mk.blocks.length c3] 81)).drew:=⟨_,rfl⟩;have A7:=YJ j.o (H G mk.kind) (H G mk.seq) (H G mk.pos) (M B mk.tags.length c2) (M A mk.blocks.length c3) (T #[H G mk.kind,H G mk.seq,H G mk.pos,M B mk.tags.length c2,M A mk.blocks.length c3] 81);rw[<-D]at A7;obtain⟨⟨B1,B5,B2,B4,Q⟩,_⟩:=LA A7;have E:=zA D;rw[<-D];clear D A7 y0 x y2 z y4 y f1 f2 f3 f4;go_wp2;refine Tb (v:=S #[F #[H G mk.kind,H G mk.seq,H G mk.pos,M B mk.tags.length c2,M A mk.blocks.length c3],Y O]) (by simp[results,results145,go_sem,B1,B5,B2,B4,Q]) rfl ⟨F #[H G mk.kind,H G mk.seq,H G mk.pos,M B mk.tags.length c2,M A mk.blocks.length c3],by rw[<-A9.o,<-A8.o];simp[hq],?_,?_,?_⟩
    .rw[<-A9.o,<-A8.o];refine⟨B,c2,A,c3,rfl,?_,?_,B0.o.1,B0.o.2,λb A5 e=>(by have:=A6.o.1 b A5 e;omega),λb A5 e=>(by have:=A6.o.2 b A5 e;omega)⟩
     .rw[E.o];refine SegT.below ?_ (vA (qA _ _) ((Ub _ _).drew))
      repeat refine SegT.setNe ?_ (λb A5 e=>by have:=A6.o.1 b A5 e;simp;omega) _
      exact HT.o
     .rw[E.o];refine SegI.below ?_ (vA (qA _ _) ((Ub _ _).drew))
      repeat refine SegI.setNe ?_ (λb A5 e=>by have:=A6.o.2 b A5 e;simp;omega) _
      exact HI.o
    .rw[E.o];refine Rd.below ?_ (vA (qA _ _) ((Ub _ _).drew))
     repeat refine Rd.setNe ?_ (show R≠w.heap.size by omega) _
     exact B7.o
    .rw[E.o];refine But.trans ?_ (But.of_below (vA (qA _ _) ((Ub _ _).drew))) (by simp[World.setCell];omega);exact(((((X.o.setNew (p:=⟨w.heap.size,0,Z⟩) (Sb _) _).setNew (p:=⟨w.heap.size,1,Z⟩) (Sb _) _).setNew (p:=⟨w.heap.size,2,Z⟩) (Sb _) _).setNew (p:=⟨w.heap.size,3,Z⟩) (Sb _) _).setNew (p:=⟨w.heap.size,4,Z⟩) (Sb _) _)
 .have A3:(er==0)=O:=by simpa using he
  go_wp2
  go_region
  all_goals
   obtain⟨W,D⟩:∃W,W=((((((h.setCell ⟨w.heap.size,0,Z⟩ (H G mk.kind)).setCell ⟨w.heap.size,1,Z⟩ (H G mk.seq)).setCell ⟨w.heap.size,2,Z⟩ (H G mk.pos)).setCell ⟨w.heap.size,3,Z⟩ (M B mk.tags.length c2)).setCell ⟨w.heap.size,4,Z⟩ (M A mk.blocks.length c3)).alloc (T #[H G mk.kind,H G mk.seq,H G mk.pos,M B mk.tags.length c2,M A mk.blocks.length c3] 81)).drew:=⟨_,rfl⟩;have A7:=YJ j.o (H G mk.kind) (H G mk.seq) (H G mk.pos) (M B mk.tags.length c2) (M A mk.blocks.length c3) (T #[H G mk.kind,H G mk.seq,H G mk.pos,M B mk.tags.length c2,M A mk.blocks.length c3] 81);rw[<-D]at A7;obtain⟨⟨B1,B5,B2,B4,Q⟩,_⟩:=LA A7;have E:=zA D;rw[<-D];clear D A7 y0 x y2 z y4 y f1 f2 f3 f4;go_wp2;refine Tb (v:=S #[F #[H G mk.kind,H G mk.seq,H G mk.pos,M B mk.tags.length c2,M A mk.blocks.length c3],Y O]) (by simp[results,results145,go_sem,B1,B5,B2,B4,Q]) rfl ⟨F #[H G mk.kind,H G mk.seq,H G mk.pos,M B mk.tags.length c2,M A mk.blocks.length c3],by rw[<-A9.o,<-A8.o];simp[he],?_,?_,?_⟩
   .rw[<-A9.o,<-A8.o];refine⟨B,c2,A,c3,rfl,?_,?_,B0.o.1,B0.o.2,λb A5 e=>(by have:=A6.o.1 b A5 e;omega),λb A5 e=>(by have:=A6.o.2 b A5 e;omega)⟩
    .rw[E.o];refine SegT.below ?_ (vA (qA _ _) ((Ub _ _).drew))
     repeat refine SegT.setNe ?_ (λb A5 e=>by have:=A6.o.1 b A5 e;simp;omega) _
     exact HT.o
    .rw[E.o];refine SegI.below ?_ (vA (qA _ _) ((Ub _ _).drew))
     repeat refine SegI.setNe ?_ (λb A5 e=>by have:=A6.o.2 b A5 e;simp;omega) _
     exact HI.o
   .rw[E.o];refine Rd.below ?_ (vA (qA _ _) ((Ub _ _).drew))
    repeat refine Rd.setNe ?_ (show R≠w.heap.size by omega) _
    exact B7.o
   .rw[E.o];refine But.trans ?_ (But.of_below (vA (qA _ _) ((Ub _ _).drew))) (by simp[World.setCell];omega);exact(((((X.o.setNew (p:=⟨w.heap.size,0,Z⟩) (Sb _) _).setNew (p:=⟨w.heap.size,1,Z⟩) (Sb _) _).setNew (p:=⟨w.heap.size,2,Z⟩) (Sb _) _).setNew (p:=⟨w.heap.size,3,Z⟩) (Sb _) _).setNew (p:=⟨w.heap.size,4,Z⟩) (Sb _) _)
def bl (s:ByteArray):List UInt8:=s.data.toList
theorem TI(s:ByteArray):(bl s).length=s.size:=rfl
theorem WM(h:bl s=bl t):s=t:=Lf (Ce h)
theorem zD(s t:ByteArray):bl (s++t)=bl s++bl t:=by simp[bl,ByteArray.data_append]
theorem ED(s:ByteArray)(k:Nat):at8 s k=(((bl s).getD k 0).toNat:Int):=by
 by_cases h:k<s.size
 .rw[<-SC s k h,List.getD,Ic (show k<(bl s).length from h)];rfl
 .have A:¬k<s.data.size:=h;rw[List.getD,cd (by rw[TI];omega)];unfold at8;show((s.data[k]!).toNat:Int)=_;rw[getElem!_neg s.data k A];rfl
theorem Aa(D:s.size=t.size)(h:∀k,k<s.size->at8 s k=at8 t k):s=t:=by
 apply WM;apply List.ext_getElem (by rw[TI,TI];exact D);intro k A B;have:=h k A;rw[ED,ED,List.getD,List.getD,Ic A,Ic B]at this;exact Ke.1 (Int.ofNat_inj.1 (by simpa using this))
theorem vL(s:ByteArray)(h:4<=s.size):isMagic s=I↔at8 s 0=87/\at8 s 1=66/\at8 s 2=75/\at8 s 3=49:=by
 have e:(s.extract 0 4).toList=(bl s).take 4:=by
  rw[yg];simp[bl,ByteArray.data_extract]
 rw[isMagic,Rb h,e,je,ED,ED,ED,ED];have A:4<=(bl s).length:=h
 match hb:bl s,A with
 |a::b::c::d::r,_=>
  simp only[List.take_succ_cons,List.take_zero,List.cons.injEq,and_true,List.getD_cons_zero,List.getD_cons_succ];constructor
  .rintro⟨rfl,rfl,rfl,rfl⟩;exact⟨rfl,rfl,rfl,rfl⟩
  .rintro⟨h1,h2,h3,h4⟩;exact⟨Ke.1 (by show a.toNat=87;omega),Ke.1 (by show b.toNat=66;omega),Ke.1 (by show c.toNat=75;omega),Ke.1 (by show d.toNat=49;omega)⟩
def WG (k q:Int):List UInt8:=[87,66,75,49,UInt8.ofNat k.toNat,UInt8.ofNat (q/16777216).toNat,UInt8.ofNat (q/65536%256).toNat,UInt8.ofNat (q/256%256).toNat,UInt8.ofNat (q%256).toNat]
def AD:List (Int×Bool)->List UInt8
 |[]=>[]
 |x::r=>UInt8.ofNat x.1.toNat::(if x.2 then 1 else 0)::AD r
def iE (l:List Int):List UInt8:=l.map λx=>UInt8.ofNat x.toNat
def FB (m:Mk):List UInt8:=
 if m.kind=1 then[UInt8.ofNat m.pos.toNat] else if m.kind=2 then UInt8.ofNat m.tags.length::AD m.tags else if m.kind=3 then UInt8.ofNat m.blocks.length::iE m.blocks else[]
theorem qE(n:Nat):bl (JA n)=[UInt8.ofNat n]:=rfl
theorem cI(k q:Int):bl (YB k q)=WG k q:=by
 rw[YB,zD,zD,zD,zD,zD,qE,qE,qE,qE,qE];rfl
theorem bX(s:ByteArray)(l:List (Int×Bool)):bl (RB s l)=bl s++AD l:=by
 induction l generalizing s with
 |nil=>simp[RB,AD]
 |cons x r ih=>
  rw[RB,ih,zD,zD,qE,AD];have:bl (if x.2 then(⟨#[1]⟩:ByteArray) else⟨#[0]⟩)=[if x.2 then 1 else 0]:=by cases x.2<;>rfl
  rw[this];simp
theorem CZ(s:ByteArray)(l:List Int):bl (TB s l)=bl s++iE l:=by
 induction l generalizing s with
 |nil=>simp[TB,iE]
 |cons x r ih=>rw[TB,ih,zD,qE];simp[iE]
theorem UM(m:Mk):bl (XC m)=WG m.kind m.seq++FB m:=by
 unfold XC FB;by_cases h1:m.kind=1
 .rw[Rb h1,Rb h1,zD,cI,qE]
 .rw[Qb h1,Qb h1];by_cases h2:m.kind=2
  .rw[Rb h2,Rb h2,bX,zD,cI,qE];simp
  .rw[Qb h2,Qb h2];by_cases h3:m.kind=3
   .rw[Rb h3,Rb h3,CZ,zD,cI,qE];simp
   .rw[Qb h3,Qb h3,cI];simp
theorem NP(l:List (Int×Bool)):(AD l).length=2*l.length:=by
 induction l with
 |nil=>rfl
 |cons x r ih=>simp only[AD,List.length_cons,ih];omega
theorem BP(l:List Int):(iE l).length=l.length:=by simp[iE]
theorem bP{m:Mk}(h:goodM m=0):(FB m).length<=21:=by
 obtain⟨_,_,_,A,hb,_,_⟩:=EG h;unfold FB;by_cases h1:m.kind=1
 .rw[Rb h1];simp
 .rw[Qb h1];by_cases h2:m.kind=2
  .rw[Rb h2,Td,NP];have:=A h2;omega
  .rw[Qb h2];by_cases h3:m.kind=3
   .rw[Rb h3,Td,BP];have:=hb h3;omega
   .rw[Qb h3];simp
theorem aK{m:Mk}(h:goodM m=0):bl (encT m)=WG m.kind m.seq++(FB m++List.replicate (23 - (FB m).length) 0):=by
 have hl:=bP h;have hb:(bl (XC m)).length=9+(FB m).length:=by rw[UM,Yb];rfl
 have A:(XC m).size=9+(FB m).length:=hb;rw[encT,Rb h];show bD (XC m)=_;rw[bD,A];show(bl (XC m)).take 32++_=_;rw[zd (by omega),UM,od,show 32 - (9+(FB m).length)=23 - (FB m).length from by omega]
theorem gE{m:Mk}(h:goodM m=0):(encT m).size=32:=by
 have hl:=bP h
 have:(bl (encT m)).length=32:=by
  rw[aK h,Yb,Yb,ef];show 9+_=32;omega
 exact this
theorem UG{m:Mk}(h:goodM m=0)(j:Nat):at8 (encT m) (9+j)=(((FB m).getD j 0).toNat:Int):=by
 rw[ED,aK h,List.getD,ke (show(WG m.kind m.seq).length<=9+j from Gg 9 j)];rw[show 9+j - (WG m.kind m.seq).length=j from by show 9+j - 9=j;omega];by_cases hj:j<(FB m).length
 .rw[ve hj,List.getD]
 .rw[ke (by omega),List.getD,cd (l:=FB m) (by omega),jg];split<;>rfl
theorem MD{x:Int}(h0:0<=x)(h1:x<=255):((UInt8.ofNat x.toNat).toNat:Int)=x:=by
 simp;omega
theorem fK{m:Mk}(h:goodM m=0):at8 (encT m) 0=87/\at8 (encT m) 1=66/\at8 (encT m) 2=75/\at8 (encT m) 3=49/\at8 (encT m) 4=m.kind/\at8 (encT m) 5=m.seq/16777216/\at8 (encT m) 6=m.seq/65536%256/\at8 (encT m) 7=m.seq/256%256/\at8 (encT m) 8=m.seq%256:=by
 obtain⟨_,_,_,_,_,_,_⟩:=EG h;simp only[ED,aK h,WG,List.cons_append,List.getD_cons_zero,List.getD_cons_succ];refine⟨rfl,rfl,rfl,rfl,MD (by omega) (by omega),MD (by omega) (by omega),MD (by omega) (by omega),MD (by omega) (by omega),MD (by omega) (by omega)⟩
theorem dW{m:Mk}(h:goodM m=0):isMagic (encT m)=I:=by
 obtain⟨B,A,D,C,_⟩:=fK h;exact(vL _ (by rw[gE h];omega)).2 ⟨B,A,D,C⟩
theorem KJ(l:List (Int×Bool))(i:Nat)(x:Int×Bool)(h:l[i]?=J x):(AD l).getD (2*i) 0=UInt8.ofNat x.1.toNat/\(AD l).getD (2*i+1) 0=if x.2 then 1 else 0:=by
 induction l generalizing i with
 |nil=>simp at h
 |cons y r ih=>
  cases i with
  |zero=>simp at h;subst h;exact⟨rfl,rfl⟩
  |succ i=>
   have:=ih i (by simpa using h);rw[show 2*(i+1)=2*i+1+1 from by omega,AD];simp only[List.getD_cons_succ];exact this
theorem CO(l:List Int)(i:Nat)(x:Int)(h:l[i]?=J x):(iE l).getD i 0=UInt8.ofNat x.toNat:=by
 rw[List.getD,iE,Ld,h];rfl
theorem back{m:Mk}(h:goodM m=0):gsM (encT m)=m:=by
 obtain⟨⟨k1,k2⟩,⟨q1,q2,p1,p2⟩,⟨f1,K,e⟩,S,hb,c,M⟩:=EG h;obtain⟨_,_,_,_,X,Z,d,Y,a⟩:=fK h
 have U:mA (encT m) 4=m.seq:=by
  simp only[mA];rw[show 0+5=5 from rfl,show 1+5=6 from rfl,show 2+5=7 from rfl,show 3+5=8 from rfl,Z,d,Y,a];omega
 have F:=UG h 0;rw[show 9+0=9 from rfl]at F;obtain⟨kind,seq,pos,B,A⟩:=m;dsimp only at *;unfold gsM;rw[U,X];by_cases e1:kind=1
 .rw[Rb e1,Qb (by omega),Qb (by omega),K (by omega),e (by omega)];rw[FB,Rb e1]at F;rw[K (by omega),e (by omega)]at F;rw[F];show Mk.mk kind seq ((UInt8.ofNat pos.toNat).toNat:Int) [] []=_;rw[MD (by omega) (by omega)]
 .obtain rfl:=f1 e1;rw[Qb e1];by_cases e2:kind=2
  .have b:=S e2;rw[Rb e2,Qb (by omega),e (by omega)]
   have C:WB (encT ⟨kind,seq,0,B,A⟩) 10=B.length:=by
    rw[WB,F,FB,Qb e1,Rb e2];show min (((UInt8.ofNat B.length).toNat:Int)).toNat 10=_;simp;omega
   have L:SA (encT ⟨kind,seq,0,B,A⟩)=B:=by
    apply Vf;intro i;by_cases hi:i<B.length
    .rw[JF _ i (by rw[C];exact hi)];obtain⟨x,E⟩:∃x,B[i]?=J x:=⟨_,Ic hi⟩;have O:=gG _ _ c (by omega) x.1 (Wc.2 ⟨x,Yc E,rfl⟩);have Q:=KJ B i x E;have D:=UG h (1+2*i);have I:=UG h (2+2*i);rw[FB,Qb e1,Rb e2]at D I;rw[show 9+(1+2*i)=10+2*i from by omega,show 1+2*i=2*i+1 from by omega]at D;rw[show 9+(2+2*i)=11+2*i from by omega,show 2+2*i=2*i+1+1 from by omega]at I;simp only[List.getD_cons_succ]at D I;rw[Q.1]at D;rw[Q.2]at I;rw[D,I,E,MD (by omega) (by omega)];obtain⟨xi,f⟩:=x;cases f<;>rfl
    .rw[cd (by rw[TE,C];omega),cd (by omega)]
   have N:=e (by omega);subst N;rw[L]
  .rw[Qb e2,K e2];by_cases e3:kind=3
   .have b:=hb e3;rw[Rb e3];have R:=K e2;subst R
    have C:WB (encT ⟨kind,seq,0,[],A⟩) 20=A.length:=by
     rw[WB,F,FB,Qb e1,Qb e2,Rb e3];show min (((UInt8.ofNat A.length).toNat:Int)).toNat 20=_;simp;omega
    have L:vB (encT ⟨kind,seq,0,[],A⟩)=A:=by
     apply Vf;intro i;by_cases hi:i<A.length
     .rw[vH _ i (by rw[C];exact hi)];obtain⟨x,E⟩:∃x,A[i]?=J x:=⟨_,Ic hi⟩;have O:=gG _ _ M (by omega) x (Yc E);have D:=UG h (1+i);rw[FB,Qb e1,Qb e2,Rb e3]at D;rw[show 9+(1+i)=10+i from by omega,show 1+i=i+1 from by omega]at D;simp only[List.getD_cons_succ]at D;rw[CO A i x E]at D;rw[D,E,MD (by omega) (by omega)]
     .rw[cd (by rw[VE,C];omega),cd (by omega)]
    rw[L]
   .rw[Qb e3,e e3]
theorem LG{m:Mk}(h:goodM m=0):EA (encT m)=(m,0):=by
 rw[EA,back h,Rb ⟨gE h,h,rfl⟩]
theorem nK(h:isMagic s=O):EA s=(yC,1):=by
 refine Qb λx=>?_;have:=dW x.2.1;rw[x.2.2,h]at this;cases this
theorem mR(D:isMagic s=I):(bl s).take 4=[87,66,75,49]:=by
 have e:(s.extract 0 4).toList=(bl s).take 4:=by
  rw[yg];simp[bl,ByteArray.data_extract]
 rw[isMagic,Rb (AG D),e,je]at D;exact D
theorem lL(s:ByteArray):(escT s).size=s.size:=by
 unfold escT
 cases hm:isMagic s with
 |false=>rfl
 |true=>
  have:=AG hm;rw[Rb rfl,Ge,Tf];show 4+_=_;omega
theorem XY(s:ByteArray):isMagic (escT s)=O:=by
 cases hm:isMagic s with
 |false=>rw[escT,hm];exact hm
 |true=>
  have A:=AG hm
  cases he:isMagic (escT s) with
  |false=>rfl
  |true=>
   have:=((vL _ (by rw[lL];exact A)).1 he).1;rw[escT,Rb hm,ED,zD]at this;exact absurd this (by show¬((0:Int)=87);decide)
theorem kU(s:ByteArray):aB (escT s) (isMagic s)=s:=by
 cases hm:isMagic s with
 |false=>rw[escT,hm,aB,Rb (.inl rfl)];rfl
 |true=>
  have h4:=AG hm;have hz:=lL s;rw[aB,Qb (by rintro(h|h);cases h;omega)]
  have A:bl (escT s)=[0,0,0,0]++(bl s).drop 4:=by
   rw[escT,Rb hm,zD]
   congr 1
   simp only[bl,ByteArray.data_extract,Array.toList_extract];rw[List.extract_eq_take_drop];apply zd;rw[Uc];exact Sb _
  have C:bl ((escT s).extract 4 (escT s).size)=(bl s).drop 4:=by
   have:bl ((escT s).extract 4 (escT s).size)=(bl (escT s)).drop 4:=by
    simp only[bl,ByteArray.data_extract,Array.toList_extract];rw[List.extract_eq_take_drop];apply zd;rw[Uc];exact Sb _
   rw[this,A];rfl
  apply WM;have B:bl (⟨#[87,66,75,49]⟩:ByteArray)=[87,66,75,49]:=rfl;rw[zD,C,B,<-mR hm,Mf]
theorem aI(s:ByteArray)(k:Nat)(h:s.size<=k):at8 s k=0:=by
 rw[ED,List.getD,cd (by rw[TI];exact h)];rfl
theorem vI(s:ByteArray)(k:Nat):eB s k=I↔∀j,at8 s (k+j)=0:=by
 unfold eB;rw[Zc];constructor
 .intro h j;rw[ED,List.getD]
  cases A:(bl s)[k+j]? with
  |none=>rfl
  |some x=>
   have:x∈s.data.toList.drop k:=by
    apply Yc (i:=j);rw[ze];exact A
   have:=h x this;rw[je]at this;rw[this];rfl
 .intro h x A;obtain⟨j,B⟩:=Hg A;rw[ze]at B;have:=h j;rw[ED,List.getD,show(bl s)[k+j]?=J x from B]at this;rw[je];exact Ke.1 (by show x.toNat=0;simpa using this)
theorem RF{M:Mk}(l:s.size=32)(m:isMagic s=I)(e:gsM s=M)(b:goodM M=0):
  encT M=s↔∀j,j<23->at8 s (9+j)=(((FB M).getD j 0).toNat:Int):=by
 constructor
 .intro h j _;have:=UG b j;rw[h]at this;exact this
 .intro h;obtain⟨_,⟨q1,q2,_,_⟩,_,_,_,_,_⟩:=EG b;obtain⟨K,S,F,L,R,X,Q,U,D⟩:=fK b;obtain⟨q,N,E,J⟩:=(vL s (by omega)).1 m;have O:M.kind=at8 s 4:=by rw[<-e];rfl
  have A:M.seq=256*(256*(256*(256*0+at8 s 5)+at8 s 6)+at8 s 7)+at8 s 8:=by rw[<-e];rfl
  have b5:=oB s 5;have b6:=oB s 6;have b7:=oB s 7;have b8:=oB s 8;have C:=gE b;apply Aa (by rw[C,l]);intro k B;rw[C]at B;by_cases h9:k<9
  .match k,h9 with
   |0,_=>rw[K,q]
   |1,_=>rw[S,N]
   |2,_=>rw[F,E]
   |3,_=>rw[L,J]
   |4,_=>rw[R,O]
   |5,_=>rw[X,A];omega
   |6,_=>rw[Q,A];omega
   |7,_=>rw[U,A];omega
   |8,_=>rw[D,A];omega
  .obtain⟨j,rfl⟩:∃j,k=9+j:=⟨k - 9,by omega⟩;rw[UG b j,h j (by omega)]
theorem eJ{M:Mk}{z:Bool}(D:s.size=32)(Q:gsM s=M)(L:goodM M=0->(z=I↔encT M=s)):GC M z=EA s:=by
 unfold GC EA;rw[Q];by_cases hg:goodM M=0
 .by_cases h:z=I
  .rw[Rb ⟨hg,h⟩,Rb ⟨D,hg,(L hg).1 h⟩]
  .rw[Qb (λx=>h x.2),Qb (λx=>h ((L hg).2 x.2.2))]
 .rw[Qb (λx=>hg x.1),Qb (λx=>hg x.2.1)]
theorem EY(D:s.size=32)(Q:isMagic s=I)(L:at8 s 4=1):GC ⟨1,mA s 4,at8 s 9,[],[]⟩ (eB s 10)=EA s:=by
 have A:gsM s=⟨1,mA s 4,at8 s 9,[],[]⟩:=by rw[gsM,Rb L,Qb (by omega),Qb (by omega),L]
 refine eJ D A λX=>?_;rw[RF D Q A X,vI];have B:FB ⟨1,mA s 4,at8 s 9,[],[]⟩=[UInt8.ofNat (at8 s 9).toNat]:=by rw[FB,Rb rfl]
 rw[B];constructor
 .intro h j _
  cases j with
  |zero=>exact(MD (oB s 9).1 (oB s 9).2).symm
  |succ j=>have:=h j;rw[show 9+(j+1)=10+j from by omega,this];rfl
 .intro h j;by_cases hj:j<22
  .have:=h (j+1) (by omega);rw[show 10+j=9+(j+1) from by omega,this];rfl
  .exact aI s _ (by omega)
theorem QR(D:s.size=32)(Q:isMagic s=I)(h1:¬at8 s 4=1)(h2:¬at8 s 4=2)(L:¬at8 s 4=3):GC ⟨at8 s 4,mA s 4,0,[],[]⟩ (eB s 9)=EA s:=by
 have A:gsM s=⟨at8 s 4,mA s 4,0,[],[]⟩:=by rw[gsM,Qb h1,Qb h2,Qb L]
 refine eJ D A λX=>?_;rw[RF D Q A X,vI];have B:FB ⟨at8 s 4,mA s 4,0,[],[]⟩=[]:=by rw[FB,Qb h1,Qb h2,Qb L]
 rw[B];constructor
 .intro h j _;rw[h j];rfl
 .intro h j;by_cases hj:j<23
  .rw[h j hj];rfl
  .exact aI s _ (by omega)
theorem kI(D:at8 s 4=3):gsM s=⟨3,mA s 4,0,[],vB s⟩:=by rw[gsM,Qb (by omega),Qb (by omega),Rb D,D]
theorem SO(s:ByteArray):FB ⟨3,mA s 4,0,[],vB s⟩=UInt8.ofNat (vB s).length::iE (vB s):=by
 rw[FB,Qb (show¬((3:Int)=1) by decide),Qb (show¬((3:Int)=2) by decide),Rb rfl]
theorem gP(l:List Int)(i:Nat)(h:l.length<=i):(iE l).getD i 0=0:=by
 rw[List.getD,cd (by rw[BP];exact h)];rfl
theorem eN(l:List (Int×Bool))(i:Nat)(h:2*l.length<=i):(AD l).getD i 0=0:=by
 rw[List.getD,cd (by rw[NP];exact h)];rfl
theorem zT(L:s.size=32)(b:isMagic s=I)(X:at8 s 4=3)(D:n<=20)(Q:at8 s 9=(n:Int)):GC ⟨3,mA s 4,0,[],vB s⟩ (eB s (10+n))=EA s:=by
 refine eJ L (kI X) λe=>?_;have B:(vB s).length=n:=by rw[VE,YD Q D]
 rw[RF L b (kI X) e,vI,SO];constructor
 .intro h j A
  cases j with
  |zero=>
   show at8 s 9=((UInt8.ofNat (vB s).length).toNat:Int);rw[B,Q];simp;omega
  |succ j=>
   rw[Yd,show 9+(j+1)=10+j from by omega];by_cases hjn:j<n
   .rw[CO _ j _ (vH s j (by rw[YD Q D];exact hjn)),MD (oB s _).1 (oB s _).2]
   .rw[gP _ _ (by omega)];have:=h (j - n);rw[show 10+n+(j - n)=10+j from by omega]at this;rw[this];rfl
 .intro h j;by_cases A:n+j<22
  .have:=h (n+j+1) (by omega);rw[Yd,gP _ _ (by omega),show 9+(n+j+1)=10+n+j from by omega]at this;rw[this];rfl
  .exact aI s _ (by omega)
theorem qb(L:s.size=32)(Q:isMagic s=I)(D:at8 s 4=3)(h9:20<at8 s 9):EA s=(yC,1):=by
 refine Qb fun⟨_,hg,he⟩=>?_;rw[kI D]at hg he;have:=(RF L Q (kI D) hg).1 he 0 (by omega);rw[SO,Ef,VE,mG (show((20:Nat):Int)<at8 s 9 by omega)]at this;have e:at8 s 9=20:=this;omega
theorem GG(D:at8 s 4=2):gsM s=⟨2,mA s 4,0,SA s,[]⟩:=by rw[gsM,Qb (by omega),Rb D,Qb (by omega),D]
theorem FK(s:ByteArray):FB ⟨2,mA s 4,0,SA s,[]⟩=UInt8.ofNat (SA s).length::AD (SA s):=by
 rw[FB,Qb (show¬((2:Int)=1) by decide),Rb rfl]
theorem xX(L:s.size=32)(b:isMagic s=I)(X:at8 s 4=2)(D:n<=10)(Q:at8 s 9=(n:Int))(e:∀i,i<n->at8 s (11+2*i)<=1):EA s=GC ⟨2,mA s 4,0,SA s,[]⟩ (eB s (10+2*n)):=by
 symm
 refine eJ L (GG X) λk=>?_;have B:(SA s).length=n:=by rw[TE,YD Q D]
 rw[RF L b (GG X) k,vI,FK];constructor
 .intro h j C
  cases j with
  |zero=>
   show at8 s 9=((UInt8.ofNat (SA s).length).toNat:Int);rw[B,Q];simp;omega
  |succ j=>
   rw[Yd,show 9+(j+1)=10+j from by omega];by_cases hjn:j<2*n
   .have A:=KJ (SA s) (j/2) _ (JF s (j/2) (by rw[YD Q D];omega));by_cases h0:j%2=0
    .rw[show j=2*(j/2) from by omega,A.1,MD (oB s _).1 (oB s _).2]
    .have h1:=e (j/2) (by omega);have h2:=oB s (11+2*(j/2));rw[show j=2*(j/2)+1 from by omega,A.2,show 10+(2*(j/2)+1)=11+2*(j/2) from by omega];have h01:at8 s (11+2*(j/2))=0\/at8 s (11+2*(j/2))=1:=by omega
     rcases h01 with h01|h01<;>rw[h01]<;>rfl
   .rw[eN _ _ (by omega)];have:=h (j - 2*n);rw[show 10+2*n+(j - 2*n)=10+j from by omega]at this;rw[this];rfl
 .intro h j;by_cases C:2*n+j<22
  .have:=h (2*n+j+1) (by omega);rw[Yd,eN _ _ (by omega),show 9+(2*n+j+1)=10+2*n+j from by omega]at this;rw[this];rfl
  .exact aI s _ (by omega)
theorem FU(Q:s.size=32)(X:isMagic s=I)(D:at8 s 4=2)(L:n<=10)(b:at8 s 9=(n:Int))(i:Nat)(h:i<n)(hf:1<at8 s (11+2*i)):EA s=(yC,1):=by
 refine Qb fun⟨_,hg,he⟩=>?_;rw[GG D]at hg he;have:=(RF Q X (GG D) hg).1 he (2*i+1+1) (by omega);rw[FK,Yd]at this;have A:=KJ (SA s) i _ (JF s i (by rw[YD b L];exact h));rw[A.2,show 9+(2*i+1+1)=11+2*i from by omega]at this;split at this
 .have e:at8 s (11+2*i)=1:=this;omega
 .have e:at8 s (11+2*i)=0:=this;omega
theorem aV(L:s.size=32)(Q:isMagic s=I)(D:at8 s 4=2)(h9:10<at8 s 9):EA s=(yC,1):=by
 refine Qb fun⟨_,hg,he⟩=>?_;rw[GG D]at hg he;have:=(RF L Q (GG D) hg).1 he 0 (by omega);rw[FK,Ef,TE,mG (show((10:Nat):Int)<at8 s 9 by omega)]at this;have e:at8 s 9=10:=this;omega
theorem AO(s:ByteArray)(w:K):
  Calls Tryz.prog 80 #[A s] w λe w'=>∃L,e=N (S #[L,H G (EA s).2])/\IsMkN w' w.heap.size L (EA s).1/\Below w.heap.size w w':=by
 by_cases h:s.size=32
 .cases hm:isMagic s with
  |false=>
   rw[nK hm];exact AV s w h hm
  |true=>
   by_cases h1:at8 s 4=1
   .have:=JW s w h hm h1;rw[EY h hm h1]at this;exact this
   .by_cases h2:at8 s 4=2
    .by_cases h10:at8 s 9<=10
     .obtain⟨n,D⟩:=Jd (oB s 9).1;exact xV s n (EA s) w h hm h2 (by omega) D (xX h hm h2 (by omega) D) (FU h hm h2 (by omega) D)
     .rw[aV h hm h2 (by omega)];exact zS s w h hm h2 (by omega)
    .by_cases h3:at8 s 4=3
     .by_cases h20:at8 s 9<=20
      .obtain⟨n,D⟩:=Jd (oB s 9).1;have:=gR s n w h hm h3 (by omega) D;rw[zT h hm h3 (by omega) D]at this;exact this
      .rw[qb h hm h3 (by omega)];exact QU s w h hm h3 (by omega)
     .have:=zZ s w h hm h1 h2 h3;rw[QR h hm h1 h2 h3]at this;exact this
 .have e:EA s=(yC,1):=Qb λx=>h x.1;rw[e];exact vZ s w h
theorem ZU(s:ByteArray)(w:K):
  Calls Tryz.prog 80 #[A s] w λe w'=>∃D,e=N (S #[D,H G (EA s).2])/\IsMk w' D (EA s).1/\Below w.heap.size w w':=
 (AO s w).mono λ_ _ ⟨D,h1,h2,h3⟩=>⟨D,h1,h2.is,h3⟩
