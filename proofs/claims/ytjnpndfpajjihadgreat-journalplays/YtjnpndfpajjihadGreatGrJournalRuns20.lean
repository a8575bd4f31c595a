import Derived.Test.YtjnpndfpajjihadGreatGrJournalRuns8
import Derived.Test.YtjnpndfpajjihadGreatGrJournalRuns19
import Derived.Test.YtjnpndfpajjihadGreatGrJournalRuns27
import Derived.Test.YtjnpndfpajjihadGreatGrJournalRuns23
import Derived.Test.YtjnpndfpajjihadGreatGrJournalRuns33
set_option maxRecDepth 100000
set_option maxHeartbeats 40000000
namespace Go.Proofs.YtjnpndfpajjihadGreat
open Go.RowKit
open Value renaming int -> H,slice -> M,pointer -> C,string -> A,bool -> Y,agg -> F,tuple -> S
open IntKind renaming i64 -> G
open Option renaming none -> Z,some -> J
open Bool renaming false -> O,true -> I
open Go renaming World -> K,Value -> E
variable{B k n:Nat}{D R X d:Dk}{L:Int->Int}{P b h m q:Int}{P0:Program}{cs:Array Value}{f:Int->Option ByteArray}{j j':Jn}{l:List Tx}{log log' r:List ByteArray}{s v:ByteArray}{t:Tx}{v0 v1 v2 z0 z1 z2:Value}{w w':World}{x:Int×ByteArray}
def wA (d:Dk)(s:St):Dk:=if s.1=2 then MB d else kB d s.2.1 s.2.2
def runK (d:Dk)(l:List St):Dk:=l.foldl wA d
theorem jJ{l:List St}{s:St}(h:l[k]?=J s)(d:Dk):runK d (l.take (k+1))=wA (runK d (l.take k)) s:=by
 rw[Oc,h,runK,He];rfl
theorem IsDk.setBox{v:E}{a1 a2:Option Addr}{n1 c1 n2 c2:Nat}{t:TypeId}(h:IsDk w v d)(hB:w.heap[B]?=J (.cells #[M a1 n1 c1,M a2 n2 c2] t (0,0)))(k:Nat)(u:E):IsDk (w.setCell ⟨B,k,Z⟩ u) v d:=by
 obtain⟨a,c,I,L,rfl,A0,A1,F,K⟩:=h
 have D:∀o x,w.cell? ⟨B,o,Z⟩=J x->x=M a1 n1 c1\/x=M a2 n2 c2:=by
  intro o x A;rw[Hc w _ _ _ _ _ hB]at A
  match o,A with
  |0,A=>simp at A;exact .inl A.symm
  |1,A=>simp at A;exact .inr A.symm
  |o+2,A=>simp at A
 refine⟨a,c,I,L,rfl,?_,?_,F,K⟩
 .rcases A0 with e|⟨b,z,rfl,y,Q⟩
  .exact .inl e
  .by_cases h0:d.safe.length=0
   .exact .inl (Tc h0)
   .have C:b≠B:=by
     intro e;subst e;rcases D _ _ (Q 0 (by omega)) with h|h<;>cases h
    exact .inr ⟨b,z,rfl,by simpa[World.setCell] using y,λi hi=>lC (Q i hi) (by simp;exact C)⟩
 .rcases A1 with e|⟨b,z,rfl,y,Q⟩
  .exact .inl e
  .by_cases h0:d.wr.length=0
   .exact .inl (Tc h0)
   .have C:b≠B:=by
     intro e;subst e;rcases D _ _ (Q 0 (by omega)).1 with h|h<;>cases h
    exact .inr ⟨b,z,rfl,by simpa[World.setCell] using y,λi hi=>⟨lC (Q i hi).1 (by simp;exact C),lC (Q i hi).2 (by simp;exact C)⟩⟩
theorem wQ{t:TypeId}(h:w.heap[B]?=J (.cells #[z0,z1] t (0,0)))(v0 v1:E):
  ((w.setCell ⟨B,0,Z⟩ v0).setCell ⟨B,1,Z⟩ v1).heap[B]?=J (.cells #[v0,v1] t (0,0)):=by
 have A:=zc w B 0 _ _ v0 h;exact zc _ B 1 _ _ v1 A
open Go.Proofs.Tryz
def dC (d:Dk)(s:St):Int:=if s.1=2 then SD d else dB d s.2.1 s.2.2
theorem aX(v:E)(d:Dk)(s:St)(w:K)(h:IsDk w v d):
  Calls prog 50 #[v,F #[H G s.1,H G s.2.1,A s.2.2]] w λe w'=>∃v2,e=.returned (S #[v2,H G (dC d s)])/\IsDk w' v2 (wA d s)/\Below w.heap.size w w'/\(v2=v\/VC w.heap.size v2):=by
 have i:=zA h;obtain⟨a,c,U,A4,rfl,_,_,_,_⟩:=h;obtain⟨k,p,t⟩:=s;by_cases hk:k=2
 .subst hk;have R:Hid (dC d (2,p,t)=SD d/\wA d (2,p,t)=MB d):=⟨rfl,rfl⟩;go_enter func50,ntmps50;go_wp2_with fail;refine(Ob _ d _ (i.o.below (vA (vA (qA _ _) (qA _ _)) (qA _ _)))).mono ?_;rintro e Y ⟨L,rfl,C,_,hb,A2⟩;obtain⟨X,A5,z,n⟩:=dF hb;have N:=zA (vA (vA (vA (qA _ _) (qA _ _)) (qA _ _)) hb);have A6:Hid (L=_\/VC w.heap.size L):=A2.imp id (fun⟨a,l,c,U,l',A4,h1,h2,h3⟩=>⟨a,l,c,U,l',A4,h1,λb o e=>by have:=h2 b o e;simp at this;omega,λb o e=>by have:=h3 b o e;simp at this;omega⟩);have Q:=zA C;have A1:=zA z;obtain⟨B,y,I,J,rfl,_,_,_,_⟩:=C;clear hb X A5 A2;obtain⟨⟨q,m⟩,j⟩:=XA z;clear z;go_wp2;obtain⟨W,D⟩:∃W,W=((Y.setCell ⟨w.heap.size+1+1,0,Z⟩ (M B (MB d).safe.length y)).setCell ⟨w.heap.size+1+1,1,Z⟩ (M I (MB d).wr.length J)):=⟨_,rfl⟩;have A3:=wQ A1.o (M B (MB d).safe.length y) (M I (MB d).wr.length J);rw[<-D]at A3|-;obtain⟨⟨u0,u1⟩,_⟩:=XA A3;refine Tb (v:=S #[F #[M B (MB d).safe.length y,M I (MB d).wr.length J],H G (SD d)]) (by simp[results,results50,go_sem,u0,u1]) rfl ⟨_,by rw[R.o.1],?_,?_,A6.o⟩
  .rw[R.o.2,D];exact(Q.o.setBox A1.o 0 _).setBox (zc _ _ 0 _ _ (M B (MB d).safe.length y) A1.o) 1 _
  .rw[D];exact(N.o.setCell (by simp;omega) _).setCell (by simp;omega) _
 .have A0:(k==2)=O:=by simpa using hk
  have R:Hid (dC d (k,p,t)=dB d p t/\wA d (k,p,t)=kB d p t):=⟨Qb hk,Qb hk⟩;clear hk;go_enter func50,ntmps50;go_wp2_with fail;refine(aZ _ d p t _ (i.o.below (vA (vA (qA _ _) (qA _ _)) (qA _ _)))).mono ?_;rintro e Y ⟨L,rfl,C,_,hb,A2⟩;obtain⟨X,A5,z,n⟩:=dF hb;have N:=zA (vA (vA (vA (qA _ _) (qA _ _)) (qA _ _)) hb);have A6:Hid (L=_\/VC w.heap.size L):=A2.imp id (fun⟨a,l,c,U,l',A4,h1,h2,h3⟩=>⟨a,l,c,U,l',A4,h1,λb o e=>by have:=h2 b o e;simp at this;omega,λb o e=>by have:=h3 b o e;simp at this;omega⟩);have Q:=zA C;have A1:=zA z;obtain⟨B,y,I,J,rfl,_,_,_,_⟩:=C;clear hb X A5 A2;obtain⟨⟨q,m⟩,j⟩:=XA z;clear z;go_wp2;obtain⟨W,D⟩:∃W,W=((Y.setCell ⟨w.heap.size+1+1,0,Z⟩ (M B (kB d p t).safe.length y)).setCell ⟨w.heap.size+1+1,1,Z⟩ (M I (kB d p t).wr.length J)):=⟨_,rfl⟩;have A3:=wQ A1.o (M B (kB d p t).safe.length y) (M I (kB d p t).wr.length J);rw[<-D]at A3|-;obtain⟨⟨u0,u1⟩,_⟩:=XA A3;refine Tb (v:=S #[F #[M B (kB d p t).safe.length y,M I (kB d p t).wr.length J],H G (dB d p t)]) (by simp[results,results50,go_sem,u0,u1]) rfl ⟨_,by rw[R.o.1],?_,?_,A6.o⟩
  .rw[R.o.2,D];exact(Q.o.setBox A1.o 0 _).setBox (zc _ _ 0 _ _ (M B (kB d p t).safe.length y) A1.o) 1 _
  .rw[D];exact(N.o.setCell (by simp;omega) _).setCell (by simp;omega) _
theorem yb(b:Int)(m:List (Int×ByteArray)):AE b m=(uA b m).map λs=>(b,s):=by
 induction m with
 |nil=>rfl
 |cons x m ih=>
  rw[AE,uA];by_cases e:x.1=b
  .subst e;simp
  .rw[Qb e,Qb e,ih]
theorem OR(b:Int)(m:List (Int×ByteArray)):(uA b m).isSome=tA (blksOf m) b:=by
 induction m with
 |nil=>rfl
 |cons x m ih=>
  rw[uA];by_cases e:x.1=b
  .subst e;simp[blksOf,tA]
  .rw[Qb e,ih];simp[blksOf,tA,e]
theorem tR:∀{K:Nat},(∀j,j<K->L b≠(j:Int))->jC l L K b=Z:=by
 intro K
 induction K with
 |zero=>intro _;rfl
 |succ K ih=>
  intro h;have A:=ih λj hj=>h j (by omega);have B:=h K (by omega);rw[jC,DC];split
  .rw[Qb B];exact A
  .exact A
theorem vU{Q:Int->Int}(h:L b=Q b)(K:Nat):jC l L K b=jC l Q K b:=by
 induction K with
 |zero=>rfl
 |succ K ih=>rw[jC,jC,DC,DC,h,ih]
theorem ET(l:List Tx)(b:Int):∀K,K<=l.length->jC l (lastK l K) K b=(newestF (l.take K) b).map λs=>(b,s):=by
 intro K
 induction K with
 |zero=>intro _;rfl
 |succ K ih=>
  intro hK;have E:l[K]?=J (l.getD K txz):=PH (by omega);have A:lastK l (K+1) b=if pG (l.getD K txz) b=I then(K:Int) else lastK l K b:=rfl
  rw[vR E,jC,DC,yb,oD];generalize l.getD K txz=t at *;have B:=OR b t.info;by_cases hn:pG t b=I
  .rw[Rb hn]at A;have C:jC l (lastK l (K+1)) K b=Z:=tR λj hj e=>by rw[A]at e;omega
   cases hx:uA b t.info with
   |some s=>simp[A]
   |none=>
    rw[hx]at B
    have D:tA t.rev b=I:=by
     unfold pG at hn;rw[<-B]at hn
     simpa using hn
    simp[C,D]
  .rw[Qb hn]at A;have C:=(vU (l:=l) A K).trans (ih (by omega));unfold pG at hn;simp only[Bool.or_eq_true,not_or,Bool.not_eq_true]at hn
   cases hx:uA b t.info with
   |some s=>rw[hx,hn.2]at B;cases B
   |none=>simp[C,hn.1]
theorem hQ(l:List Tx)(b:Int):jC l (lastK l l.length) l.length b=(newestF l b).map λs=>(b,s):=by
 have:=ET l b l.length (Sb _)
 rwa [Lc]at this
def fH (n:Nat)(t:Tx):Prop:=t.info.length<=n/\t.rev.length<=20*n/\t.data=[]/\t.h0=⟨O,0⟩/\t.h1=⟨O,0⟩/\t.h2=⟨O,0⟩
theorem sS{m:Mk}(h:goodM m=0):m.tags.length<=10/\m.blocks.length<=20:=by
 unfold goodM at h;split at h
 .cases h
 .split at h
  .cases h
  .split at h
   .cases h
   .rename_i B;split at h
    .cases h
    .rename_i A;constructor
     .by_cases e:m.kind=2
      .have:¬(m.tags.length<1\/10<m.tags.length):=λx=>A (.inl ⟨e,x⟩);omega
      .have:¬m.tags≠[]:=λx=>B (.inr (.inl ⟨e,x⟩));simp only[ne_eq,Decidable.not_not]at this;rw[this];exact Vb _
     .by_cases e:m.kind=3
      .have:¬(m.blocks.length<1\/20<m.blocks.length):=λx=>A (.inr (.inl ⟨e,x⟩));omega
      .have:¬m.blocks≠[]:=λx=>B (.inr (.inr ⟨e,x⟩));simp only[ne_eq,Decidable.not_not]at this;rw[this];exact Vb _
theorem MR(log:List ByteArray)(seq:Int):∀(f i:Nat) (t:Tx) (n:Nat) (u:Tx),log.length - i<=f->i<=log.length->fH i t->FA log seq i t=J (n,u)->fH log.length u/\u.seq=t.seq:=by
 intro f
 induction f with
 |zero=>intro i t n u B D A h;rw[FA,Bd (by omega)]at h;cases h
 |succ f ih=>
  intro i t n u B D A h;rw[FA]at h;split at h
  .split at h
   .cases h
   .rename_i F;split at h
    .cases h;obtain⟨a,b,c⟩:=A;exact⟨⟨by omega,by omega,c⟩,rfl⟩
    .split at h
     .rename_i C
      have E:(EA (log.getD i ByteArray.empty)).2=0:=by
       by_cases hx:(EA (log.getD i ByteArray.empty)).2=0
       .exact hx
       .exact absurd (.inl hx) F
      have hm:=sS (dG E);have:=ih _ _ _ _ (by omega) C ?_ h
      .exact⟨this.1,this.2⟩
      .obtain⟨a,b,c⟩:=A;refine⟨?_,?_,c⟩
       .show(t.info++copiesAt log (i+1) _).length<=_;rw[Yb,wJ];omega
       .show(t.rev++_).length<=_;rw[Yb];omega
     .cases h
  .cases h
theorem XN(log:List ByteArray):∀(f pos:Nat) (seq:Int) (Q:List Tx),log.length - pos<=f->(∀t∈Q,fH log.length t)->seq<=2147483647->(∀t∈(scanP log pos seq Q).1,fH log.length t)/\seq+((scanP log pos seq Q).1.length:Int)<=2147483647+(Q.length:Int)/\(pos<=log.length->(scanP log pos seq Q).2<=log.length):=by
 intro f
 induction f with
 |zero=>
  intro pos seq Q D A E;rw[scanP];split
  .rw[FA,Bd (by omega)];exact⟨A,by simp;omega,λh=>h⟩
  .exact⟨A,by simp;omega,λh=>h⟩
 |succ f ih=>
  intro pos seq Q D A E;rw[scanP];split
  .split
   .exact⟨A,by simp;omega,λh=>h⟩
   .rename_i h2 n t B;have hb:=mE log seq _ pos _ n t (Sb _) B;have F:=(MR log seq _ pos (gA seq) n t (Sb _) (by omega) ⟨Vb _,Vb _,rfl,rfl,rfl,rfl⟩ B).1
    have:=ih n (seq+1) (Q++[t]) (by omega) (λx e=>by
     rcases Mc.1 e with h|h
     .exact A x h
     .rw[Rc.1 h];exact F) (by omega)
    refine⟨this.1,?_,λ_=>this.2.2 hb.2⟩;have C:=this.2.1;rw[Yb,Ze]at C
    push_cast at C|-
    omega
  .exact⟨A,by simp;omega,λh=>h⟩
theorem XI(h:MA d=0):cA d=I/\(1<=(pA d).seq/\(pA d).seq<=2147483647)/\0<=(pA d).pos/\(pA d).pos<=23/\EA (jA d 0)=(pA d,0)/\(pA d).kind=1:=by
 unfold MA at h;split at h
 .rename_i C;exact absurd h C
 .rename_i C;split at h
  .cases h
  .rename_i E
   have F:(EA (jA d 0)).2=0:=by
    by_cases A:(EA (jA d 0)).2=0
    .exact A
    .exact absurd (.inl A) E
   have Q:(pA d).kind=1:=by
    by_cases A:(pA d).kind=1
    .exact A
    .exact absurd (.inr A) E
   have B:=dG F
   have D:readE d 0=0:=by
    by_cases A:readE d 0=0
    .exact A
    .exact absurd A C
   refine⟨?_,?_⟩
   .unfold readE at D;split at D
    .rename_i A;exact(ug.1 A).1
    .cases D
   .have h6:goodM (pA d)=0:=B;unfold goodM at B;split at B
    .cases B
    .split at B
     .cases B
     .rename_i A;have hy:¬((pA d).seq<1\/2147483647<(pA d).seq\/(pA d).pos<0\/23<(pA d).pos):=A;refine⟨by omega,by omega,by omega,?_,Q⟩;exact Prod.ext rfl F
theorem vN(h:MA d=0):(∀t∈fndL d,fH 24 t)/\(1<=fndN d/\fndN d<=2147483647)/\0<=fndP d/\fndP d<=23:=by
 obtain⟨_,⟨q1,A⟩,p1,p2,_,_⟩:=XI h;have:=XN (logOf d (pA d).pos) 24 0 (pA d).seq [] (by rw[TA];omega) (λt Q=>by cases Q) A;rw[TA]at this;rw[fndL,fndN,fndP,Rb h,Rb h,Rb h];have B:(pA d).seq+((GA d).1.length:Int)<=2147483647:=by have:=this.2.1;simpa[GA] using this
 exact⟨this.1,⟨by omega,B⟩,by omega,by omega⟩
theorem xN(h:∀t∈l,nA t=I)(b:Int):∀s,newestF l b=J s->oA s=I:=by
 have key:∀(l:List Tx) (o:Option ByteArray),(∀t∈l,nA t=I)->(∀s,o=J s->oA s=I)->∀s,l.foldl (oD b) o=J s->oA s=I:=by
  intro l
  induction l with
  |nil=>intro o _ E s B;exact E s B
  |cons t l ih=>
   intro o F E s B;rw[Af]at B;refine ih _ (λx C=>F x (by simp[C])) ?_ s B;intro u A;unfold oD at A;split at A
   .have Q:=((VA t).1 (F t (by simp))).2.1.1
    have:∀m:List (Int×ByteArray),NB m=I->uA b m=J u->oA u=I:=by
     intro m
     induction m with
     |nil=>intro _ h;cases h
     |cons y m ih2=>
      intro D C;simp only[NB,List.all_cons,Bool.and_eq_true]at D;rw[uA]at C;split at C
      .cases C;exact D.1
      .exact ih2 D.2 C
    exact this _ Q A
   .split at A
    .cases A
    .exact E u A
 exact key l Z h (λs B=>by cases B)
theorem gJ(h:x∈asN f n):0<=x.1/\x.1<n/\f x.1=J x.2:=by
 induction n with
 |zero=>simp[asN]at h
 |succ n ih=>
  rw[JD]at h;rcases Mc.1 h with h|h
  .have:=ih h;exact⟨this.1,by omega,this.2.2⟩
  .unfold vC at h
   cases hf:f (n:Int) with
   |none=>rw[hf]at h;simp at h
   |some s=>rw[hf]at h;simp at h;subst h;exact⟨by simp,by simp;omega,hf⟩
theorem jU(h:MA d=0)(Q:∀t∈fndL d,nA t=I):pB (newestL (fndL d)) (fndP d) (fndN d)=0:=by
 obtain⟨_,⟨q1,q2⟩,p1,p2⟩:=vN h
 have E:goodM (superMk (fndP d) (fndN d))=0:=by
  unfold goodM superMk;rw[Qb (by simp),Qb (by simp;omega),Qb (by simp),Qb];rintro(h|h|h|h)
  .have:=h.1;simp at this
  .have:=h.1;simp at this
  .revert h;simp[iA,UA]
  .revert h;simp[iA,UA]
 rw[pB,E,Qb (by simp),Qb];intro F;obtain⟨x,B,A⟩:=Ve.1 F;obtain⟨a,b,c⟩:=gJ B;have D:=xN Q x.1 x.2 c;have C:x.2.size=32:=by have:=D;simp[oA]at this;omega
 revert A
 simp[wD,sA,C];omega
theorem zb(n:Nat)(Q:n<37):∀(l:List St) (d:Dk),cA d=I->(∀s∈l,s.1≠2->s.2.1≠(n:Int))->jA (runK d l) n=jA d n/\cA (runK d l)=I:=by
 intro l
 induction l with
 |nil=>intro d A _;exact⟨rfl,A⟩
 |cons s l ih=>
  intro d A B
  have key:jA (wA d s) n=jA d n/\cA (wA d s)=I:=by
   unfold wA;by_cases hf:s.1=2
   .rw[Rb hf,MB,Rb A];exact⟨oQ A Q,pI A⟩
   .rw[Qb hf];by_cases he:dB d s.2.1 s.2.2=0
    .exact⟨(OS he n).2 (λe=>B s (by simp) hf e.symm),eE he⟩
    .rw[qW he];exact⟨rfl,A⟩
  have:=ih (wA d s) key.2 (λx i=>B x (by simp[i]));exact⟨this.1.trans key.1,this.2⟩
structure Ac where
 kind:Int
 h:Int
 b:Int
 n:Int
 text:ByteArray
structure Rp where
 code:Int
 n:Int
 text:ByteArray
def eA (e:Int):Rp:=⟨e,0,⟨#[]⟩⟩
def vAc (a:Ac):E:=F #[H G a.kind,H G a.h,H G a.b,H G a.n,A a.text]
def vRp (r:Rp):E:=F #[H G r.code,H G r.n,A r.text]
def ZA (f:Nat->Int)(b x:Int):Nat->Int:=λk=>if(k:Int)=b then x else f k
def runJ (j:Jn)(t:Tx)(e:Int):Jn×Rp:=if e=0 then({j with now:=t},eA 0) else(j,eA e)
def writeJ (j:Jn)(a:Ac):Jn×Rp:=
 if changeE j.now a.h a.b (fitT a.text)=0 then
  if j.role a.b.toNat=2 then(j,eA 8) else({j with role:=ZA j.role a.b 1,now:=ZB j.now a.h a.b (fitT a.text)},eA 0)
 else(j,eA (changeE j.now a.h a.b (fitT a.text)))
def fillJ (j:Jn)(a:Ac):Jn×Rp:=
 if fillE j.now a.h a.b (fitT a.text)=0 then
  if j.role a.b.toNat=1 then(j,eA 8) else if j.last<j.freed a.b.toNat then(j,eA 9)
  else({j with role:=ZA j.role a.b 2,now:=xC j.now a.h a.b (fitT a.text)},eA 0)
 else(j,eA (fillE j.now a.h a.b (fitT a.text)))
def revokeJ (j:Jn)(a:Ac):Jn×Rp:=
 if revokeE j.now a.h a.b=0 then
  if j.role a.b.toNat=0 then(j,eA 8)
  else({j with role:=ZA j.role a.b 0,freed:=ZA j.freed a.b (GB j.now a.h a.b).seq,now:=GB j.now a.h a.b},eA 0)
 else(j,eA (revokeE j.now a.h a.b))
def textJ (j:Jn)(b:Int):ByteArray×Int:=
 match uA b j.now.info with
 |some s=>(s,0)
 |none=>match uA b j.now.data with
  |some s=>(s,0)
  |none=>match uA b j.sealed.info with
   |some s=>(s,0)
   |none=>match uA b j.sealed.data with
    |some s=>(s,0)
    |none=>match uA b (newestL j.done) with
     |some s=>(s,0)
     |none=>(jA j.disk (25+b),readE j.disk (25+b))
def readJ (j:Jn)(b:Int):Rp:=
 if b<0\/11<b then eA 4
 else if(textJ j b).2=0 then⟨0,j.role b.toNat,(textJ j b).1⟩ else eA (textJ j b).2
def kC (t:Tx):Bool:=decide (t.info.length=0)&&decide (t.data.length=0)&&decide (t.rev.length=0)
def commitJ (j:Jn):Jn×Rp:=
 if j.steps≠[]\/uC j.now=I then(j,eA 9)
 else if kC j.now=I then(j,eA 4)
 else if 2147483645<j.now.seq then(j,eA 11)
 else if NA j.rh j.ru j.now=0 then
  ({j with rh:=lB j.rh j.ru j.now,ru:=cB j.rh j.ru j.now,sealed:=j.now,now:=gA (j.now.seq+1),work:=6,steps:=commitS j.rh j.ru j.now},⟨0,j.now.seq,⟨#[]⟩⟩)
 else(j,eA (NA j.rh j.ru j.now))
def ZF (j:Jn)(work:Int)(l:List (Int×ByteArray))(p q:Int):Jn×Int:=
 if pB l p q=0 then({j with work:=work,steps:=checkS l p q},0) else(j,pB l p q)
def checkJ (j:Jn):Jn×Rp:=
 if j.steps≠[] then(j,eA 9)
 else if j.done=[] then(j,eA 4)
 else((ZF j 7 (newestL j.done) j.rh (j.last+1)).1,eA (ZF j 7 (newestL j.done) j.rh (j.last+1)).2)
def WH (j:Jn):Jn×Rp:=({j with sealed:=gA 0,done:=j.done++[j.sealed],last:=j.sealed.seq},⟨0,j.sealed.seq,⟨#[]⟩⟩)
def LB:List Tx->Int->Int
 |[],_=>1
 |t::l,b=>if tA t.rev b=I then 0 else if(uA b t.info).isSome=I then 1 else LB l b
def gB (d:Dk)(p q:Int):Jn:=⟨0,d,p,0,q - 1,O,λ_=>0,λ_=>0,gA q,gA 0,[],[],0,0,0,[]⟩
def cF (j:Jn):Jn:={gB j.disk j.fP j.fN with acts:=j.acts,role:=λk=>LB j.fL.reverse k}
def finishJ (j:Jn):Jn×Rp:=
 if j.work=6 then WH j
 else if j.work=7 then({j with done:=[],ru:=0},eA 0)
 else if j.work=11 then(cF j,eA 0)
 else(j,eA 0)
def stepJ (j:Jn):Jn×Rp:=
 match j.steps with
 |[]=>(j,eA 4)
 |s::r=>
  if dC j.disk s=0 then
   if r=[] then finishJ {j with disk:=wA j.disk s,steps:=r} else({j with disk:=wA j.disk s,steps:=r},eA 0)
  else(j,eA (dC j.disk s))
def crashJ (j:Jn)(q:Int):Jn×Rp:=
 if crashE j.disk q=0 then(⟨j.acts,crashK j.disk q,0,0,j.last,I,λ_=>0,λ_=>0,gA 0,gA 0,[],[],0,0,0,[]⟩,eA 0)
 else(j,eA (crashE j.disk q))
def comeBackJ (j:Jn):Jn×Rp:=
 if j.down=O\/j.steps≠[] then(j,eA 9)
 else if MA j.disk=0 then
  if pB (newestL (fndL j.disk)) (fndP j.disk) (fndN j.disk)=0 then
   ({j with work:=11,steps:=checkS (newestL (fndL j.disk)) (fndP j.disk) (fndN j.disk),fL:=fndL j.disk,fN:=fndN j.disk,fP:=fndP j.disk},eA 0)
  else(j,eA (pB (newestL (fndL j.disk)) (fndP j.disk) (fndN j.disk)))
 else(j,eA (MA j.disk))
def poweredJ (j:Jn)(a:Ac):Jn×Rp:=
 if a.kind=1 then runJ j (beginT j.now a.h a.n (24 - j.ru)) (beginE j.now a.h a.n (24 - j.ru))
 else if a.kind=5 then runJ j (stopT j.now a.h) (stopE j.now a.h)
 else if a.kind=2 then writeJ j a
 else if a.kind=3 then fillJ j a
 else if a.kind=4 then revokeJ j a
 else if a.kind=6 then commitJ j
 else if a.kind=7 then checkJ j
 else(j,readJ j a.b)
def MC (j:Jn)(a:Ac):Jn×Rp:=
 if a.kind<1\/11<a.kind then(j,eA 3)
 else if a.kind=8 then stepJ j
 else if a.kind=10 then crashJ j a.n
 else if a.kind=11 then comeBackJ j
 else if j.down=I then(j,eA 10)
 else poweredJ j a
def doJ (j:Jn)(a:Ac):Jn×Rp:=if 400<=j.acts then(j,eA 11) else MC {j with acts:=j.acts+1} a
def XE:Jn:=gB ⟨encT (superMk 0 1)::List.replicate 36 (fitT ⟨#[]⟩),[]⟩ 0 1
inductive Move (j:Jn)(a:Ac):Jn->Rp->Prop
 |no (e:Int) (he:e≠0):Move j a j (eA e)
 |read (hd:j.down=false) (hk:a.kind=9) (hb:0<=a.b/\a.b<=11) (ht:(textJ j a.b).2=0):Move j a j ⟨0,j.role a.b.toNat,(textJ j a.b).1⟩
 |begin (hd:j.down=false) (hk:a.kind=1) (he:beginE j.now a.h a.n (24 - j.ru)=0):Move j a {j with now:=beginT j.now a.h a.n (24 - j.ru)} (eA 0)
 |stop (hd:j.down=false) (hk:a.kind=5) (he:stopE j.now a.h=0):Move j a {j with now:=stopT j.now a.h} (eA 0)
 |write (hd:j.down=false) (hk:a.kind=2) (he:changeE j.now a.h a.b (fitT a.text)=0) (hr:j.role a.b.toNat≠2):Move j a {j with role:=ZA j.role a.b 1,now:=ZB j.now a.h a.b (fitT a.text)} (eA 0)
 |fill (hd:j.down=false) (hk:a.kind=3) (he:fillE j.now a.h a.b (fitT a.text)=0) (hr:j.role a.b.toNat≠1) (hf:j.freed a.b.toNat<=j.last):Move j a {j with role:=ZA j.role a.b 2,now:=xC j.now a.h a.b (fitT a.text)} (eA 0)
 |revoke (hd:j.down=false) (hk:a.kind=4) (he:revokeE j.now a.h a.b=0) (hr:j.role a.b.toNat≠0):Move j a {j with role:=ZA j.role a.b 0,freed:=ZA j.freed a.b (GB j.now a.h a.b).seq,now:=GB j.now a.h a.b} (eA 0)
 |commit (hd:j.down=false) (hk:a.kind=6) (hs:j.steps=[]) (ho:uC j.now=false) (hm:kC j.now=false) (hq:j.now.seq<=2147483645) (he:NA j.rh j.ru j.now=0):
   Move j a {j with rh:=lB j.rh j.ru j.now,ru:=cB j.rh j.ru j.now,sealed:=j.now,now:=gA (j.now.seq+1),work:=6,steps:=commitS j.rh j.ru j.now} ⟨0,j.now.seq,⟨#[]⟩⟩
 |check (hd:j.down=false) (hk:a.kind=7) (hs:j.steps=[]) (hn:j.done≠[]) (he:pB (newestL j.done) j.rh (j.last+1)=0):
   Move j a {j with work:=7,steps:=checkS (newestL j.done) j.rh (j.last+1)} (eA 0)
 |step (hk:a.kind=8) (s:St) (r:List St) (hs:j.steps=s::r) (he:dC j.disk s=0) (hr:r≠[]):Move j a {j with disk:=wA j.disk s,steps:=r} (eA 0)
 |last (hk:a.kind=8) (s:St) (hs:j.steps=[s]) (he:dC j.disk s=0):Move j a (finishJ {j with disk:=wA j.disk s,steps:=[]}).1 (finishJ {j with disk:=wA j.disk s,steps:=[]}).2
 |crash (hk:a.kind=10) (he:crashE j.disk a.n=0):Move j a ⟨j.acts,crashK j.disk a.n,0,0,j.last,true,λ_=>0,λ_=>0,gA 0,gA 0,[],[],0,0,0,[]⟩ (eA 0)
 |back (hk:a.kind=11) (hd:j.down=true) (hs:j.steps=[]) (hE:MA j.disk=0) (hc:pB (newestL (fndL j.disk)) (fndP j.disk) (fndN j.disk)=0):
   Move j a {j with work:=11,steps:=checkS (newestL (fndL j.disk)) (fndP j.disk) (fndN j.disk),fL:=fndL j.disk,fN:=fndN j.disk,fP:=fndP j.disk} (eA 0)
theorem tQ{a:Ac}{e:Int}(h:e=0->Move j a {j with now:=t} (eA 0)):Move j a (runJ j t e).1 (runJ j t e).2:=by
 rw[runJ];split
 .rename_i A;exact h A
 .rename_i A;exact .no _ A
theorem dY{a:Ac}(hd:j.down=O)(h1:1<=a.kind)(h2:a.kind<=11)(h8:a.kind≠8)(A0:a.kind≠10)(A1:a.kind≠11):Move j a (poweredJ j a).1 (poweredJ j a).2:=by
 rw[poweredJ];split
 .rename_i B;exact tQ λA=>.begin hd B A
 split
 .rename_i B;exact tQ λA=>.stop hd B A
 split
 .rename_i B;rw[writeJ];split
  .rename_i A;split
   .exact .no _ (by decide)
   .rename_i C;exact .write hd B A C
  .rename_i A;exact .no _ A
 split
 .rename_i B;rw[fillJ];split
  .rename_i A;split
   .exact .no _ (by decide)
   .rename_i C;split
    .exact .no _ (by decide)
    .rename_i hf;exact .fill hd B A C (by omega)
  .rename_i A;exact .no _ A
 split
 .rename_i B;rw[revokeJ];split
  .rename_i A;split
   .exact .no _ (by decide)
   .rename_i C;exact .revoke hd B A C
  .rename_i A;exact .no _ A
 split
 .rename_i B;rw[commitJ];split
  .exact .no _ (by decide)
  .rename_i hb;simp only[not_or,ne_eq,Decidable.not_not,Bool.not_eq_true]at hb;split
   .exact .no _ (by decide)
   .rename_i E;split
    .exact .no _ (by decide)
    .rename_i hq;split
     .rename_i A;exact .commit hd B hb.1 hb.2 (by simpa using E) (by omega) A
     .rename_i A;exact .no _ A
 split
 .rename_i B;rw[checkJ];split
  .exact .no _ (by decide)
  .rename_i F;split
   .exact .no _ (by decide)
   .rename_i I;by_cases A:pB (newestL j.done) j.rh (j.last+1)=0
    .rw[ZF,Rb A];exact .check hd B (by simpa using F) I A
    .rw[ZF,Qb A];exact .no _ A
 .rename_i k1 k5 k2 k3 k4 k6 k7;have B:a.kind=9:=by omega
  rw[readJ];split
  .exact .no _ (by decide)
  .rename_i hb;split
   .rename_i D;exact .read hd B (by omega) D
   .rename_i D;exact .no _ D
theorem oZ(j:Jn)(a:Ac):Move j a (MC j a).1 (MC j a).2:=by
 rw[MC];split
 .exact .no _ (by decide)
 rename_i C;split
 .rename_i B;unfold stepJ
  cases hs:j.steps with
  |nil=>exact .no _ (by decide)
  |cons s r=>
   by_cases A:dC j.disk s=0
   .by_cases C:r=[]
    .subst C;simp only[A,if_true];exact .last B s hs A
    .simp only[A,if_true,C,if_false];exact .step B s r hs A C
   .simp only[A,if_false];exact .no _ A
 split
 .rename_i B;rw[crashJ];split
  .rename_i A;exact .crash B A
  .rename_i A;exact .no _ A
 split
 .rename_i B;rw[comeBackJ];split
  .exact .no _ (by decide)
  .rename_i hb;simp only[not_or,ne_eq,Decidable.not_not,Bool.not_eq_false]at hb;split
   .rename_i D;split
    .rename_i E;exact .back B hb.1 hb.2 D E
    .rename_i E;exact .no _ E
   .rename_i D;exact .no _ D
 split
 .exact .no _ (by decide)
 .rename_i J F I hd;exact dY (by simpa using hd) (by omega) (by omega) J F I
def Only (d:Dk)(n:Nat)(v:ByteArray):Prop:=∀s∈ways d n,s=v
theorem RP(l:List ByteArray)(n:Nat):ways ⟨l,[]⟩ n=[l.getD n ByteArray.empty]:=rfl
theorem NK{t:ByteArray}(h:dB d m t=0)(n:Nat):ways (kB d m t) n=if m=(n:Int) then ways d n++[t] else ways d n:=by
 rw[XD h,ways,ways];show d.safe.getD n ByteArray.empty::SB n (d.wr++[(m,t)])=_;rw[TJ];by_cases e:m=(n:Int)
 .rw[Rb e,Rb e];rfl
 .rw[Qb e,Qb e]
theorem WQ(n:Nat):rB d n∈ways d n:=by
 have:∀(l:List (Int×ByteArray)) (z:ByteArray),fC n z l∈z::SB n l:=by
  intro l
  induction l with
  |nil=>intro z;simp[fC]
  |cons x l ih=>
   intro z;rw[fC,SB];by_cases e:x.1=(n:Int)
   .rw[Rb e,Rb e];exact Ad _ (ih x.2)
   .rw[Qb e,Qb e];exact ih z
 have h:=this d.wr (d.safe.getD n ByteArray.empty);rw[rB,pd];exact h
theorem Only.last(h:Only d n v):rB d n=v:=h _ (WQ n)
theorem Only.read(h:Only d n v)(Q:cA d=I)(e:n<37):jA d n=v:=by
 rw[jA,Q,wG e];exact h.last
theorem eK{l:List ByteArray}(Q:cA ⟨l,[]⟩=I)(e:n<37):Only ⟨l,[]⟩ n (jA ⟨l,[]⟩ n):=by
 intro s A;rw[RP]at A;rw[SH Q e]
 simpa using A
theorem aF(Q:cA d=I)(e:n<37):Only (MB d) n (jA d n):=by
 rw[MB,Rb Q,<-oQ Q e];exact eK (pI Q) e
theorem jE{t:ByteArray}(i:cA d=I)(Q:QA m=I)(e:oA t=I)(hl:d.wr.length<200):dB d m t=0:=by
 rw[dB,i,Q,e];simp;omega
theorem gL(Q:cA d=I):(MB d).wr=[]:=by rw[MB,Rb Q]
theorem QP(Q:cA d=I):cA (MB d)=I:=by rw[MB,Rb Q];exact pI Q
def zC (s:St):Prop:=s.1=2\/(QA s.2.1=I/\oA s.2.2=I)
theorem wH{s:St}(e:zC s)(Q:cA d=I)(i:d.wr.length<200):cA (wA d s)=I/\(wA d s).wr.length<=d.wr.length+1:=by
 unfold wA;by_cases h2:s.1=2
 .rw[Rb h2];exact⟨QP Q,by rw[gL Q];simp⟩
 .rw[Qb h2];obtain⟨C,B⟩:=e.resolve_left h2;have A:=jE Q C B i;refine⟨eE A,?_⟩;rw[XD A];simp
theorem oI{s:St}(hs:zC s)(Q:cA d=I)(z:d.wr.length<200)(y:n<37)(i:Only d n v)(e:s.1≠2->s.2.1≠(n:Int)):Only (wA d s) n v:=by
 unfold wA;by_cases h2:s.1=2
 .rw[Rb h2];have:=aF Q y
  rwa [i.read Q y]at this
 .rw[Qb h2];obtain⟨B,C⟩:=hs.resolve_left h2;intro x A;rw[NK (jE Q B C z),Qb (e h2)]at A;exact i x A
theorem WC:∀(l:List St) (d:Dk),(∀s∈l,zC s)->cA d=I->d.wr.length+l.length<=200->cA (runK d l)=I/\(runK d l).wr.length<=d.wr.length+l.length:=by
 intro l
 induction l with
 |nil=>intro d _ A _;exact⟨A,by simp[runK]⟩
 |cons s l ih=>
  intro d C A D;simp only[List.length_cons]at D;have E:=wH (C s (by simp)) A (by omega);have B:=ih (wA d s) (λx Q=>C x (by simp[Q])) E.1 (by omega);refine⟨B.1,?_⟩;have:=B.2;simp only[List.length_cons];show(runK (wA d s) l).wr.length<=_;omega
theorem XG(e:n<37):∀(l:List St) (d:Dk),(∀s∈l,zC s)->cA d=I->d.wr.length+l.length<=200->Only d n v->(∀s∈l,s.1≠2->s.2.1≠(n:Int))->Only (runK d l) n v:=by
 intro l
 induction l with
 |nil=>intro d _ _ _ B _;exact B
 |cons s l ih=>
  intro d C D E B A;simp only[List.length_cons]at E;have F:=wH (C s (by simp)) D (by omega);exact ih (wA d s) (λx Q=>C x (by simp[Q])) F.1 (by omega) (oI (C s (by simp)) D (by omega) e B (A s (by simp))) (λx Q=>A x (by simp[Q]))
theorem yE(d:Dk)(l r:List St):runK d (l++r)=runK (runK d l) r:=He
def LE (cs:List (Int×ByteArray)):Prop:=(cs.map (·.1)).Nodup/\(∀x∈cs,0<=x.1/\x.1<=11/\oA x.2=I)/\cs.length<=12
theorem WF{cs:List (Int×ByteArray)}(h:∀x∈cs,0<=x.1/\x.1<=11/\oA x.2=I):(∀s∈homeS cs,zC s)/\∀n:Nat,n<25->∀s∈homeS cs,s.1≠2->s.2.1≠(n:Int):=by
 have key:∀s∈homeS cs,(∃x∈cs,s=AA (25+x.1) x.2)\/s=flushS:=by
  intro s A;rw[homeS]at A;rcases Mc.1 A with h2|h2
  .obtain⟨x,B,rfl⟩:=Wc.1 h2;exact .inl ⟨x,B,rfl⟩
  .split at h2
   .cases h2
   .exact .inr (Rc.1 h2)
 refine⟨λs A=>?_,λn hn s A Q=>?_⟩
 .rcases key s A with⟨x,B,rfl⟩|rfl
  .have:=h x B;refine .inr ⟨?_,this.2.2⟩;show QA (25+x.1)=I;simp[QA];omega
  .exact .inl rfl
 .rcases key s A with⟨x,B,rfl⟩|rfl
  .have:=h x B;show(25:Int)+x.1≠_;omega
  .exact absurd rfl Q
theorem NR:∀(cs:List (Int×ByteArray)) (d:Dk),LE cs->cA d=I->d.wr.length+cs.length<=200->∀x∈cs,rB (runK d (homeM cs)) (25+x.1)=x.2:=by
 intro cs
 induction cs with
 |nil=>intro d _ _ _ x J;cases J
 |cons c cs ih=>
  intro d Y M X x J;obtain⟨L,hb,A0⟩:=Y;have S:=hb c (by simp);have C:=Xe.1 L;simp only[List.length_cons]at X A0;have Q:zC (AA (25+c.1) c.2):=.inr ⟨show QA (25+c.1)=I by simp[QA];omega,S.2.2⟩;have a:=wH Q M (by omega);have e:homeM (c::cs)=AA (25+c.1) c.2::homeM cs:=rfl;rw[e];show rB (runK (wA d (AA (25+c.1) c.2)) (homeM cs)) (25+x.1)=x.2;rcases Xc.1 J with rfl|hx2
  ·
   have O:wA d (AA (25+x.1) x.2)=kB d (25+x.1) x.2:=rfl;have K:dB d (25+x.1) x.2=0:=jE M (by simp[QA];omega) S.2.2 (by omega)
   have key:∀(l:List (Int×ByteArray)) (D:Dk),(∀y∈l,0<=y.1/\y.1<=11/\oA y.2=I)->(∀y∈l,y.1≠x.1)->cA D=I->D.wr.length+l.length<=200->rB (runK D (homeM l)) (25+x.1)=rB D (25+x.1):=by
    intro l
    induction l with
    |nil=>intro D _ _ _ _;rfl
    |cons y l ih2=>
     intro D F E R N;simp only[List.length_cons]at N;have A:=F y (by simp);have B:dB D (25+y.1) y.2=0:=jE R (by simp[QA];omega) A.2.2 (by omega);have Z:homeM (y::l)=AA (25+y.1) y.2::homeM l:=rfl;rw[Z];show rB (runK (kB D (25+y.1) y.2) (homeM l)) (25+x.1)=_;have U:=eE B;rw[ih2 _ (λz i=>F z (by simp[i])) (λz i=>E z (by simp[i])) U (by rw[XD B];simp;omega),XD B,yI,Qb];have:=E y (by simp);omega
   rw[O,key cs _ (λy A=>hb y (by simp[A])) (λy A e=>C.1 (Wc.2 ⟨y,A,e⟩)) (eE K) (by rw[XD K];simp;omega),XD K,yI,Rb rfl]
  .exact ih _ ⟨C.2,λy A=>hb y (by simp[A]),by omega⟩ a.1 (by omega) x hx2
theorem oH(Q:cA d=I)(e:n<37):readE d n=0:=by
 rw[readE,Q,wG e];rfl
theorem fS(h:∀n:Nat,1<=n->n<=24->jA X n=jA D n)(p:Int):logOf X p=logOf D p:=by
 unfold logOf;refine Fg λi hi=>?_;have A:=h (1+((p+(i:Int))%24).toNat) (by omega) (by omega);have e:((1+((p+(i:Int))%24).toNat:Nat):Int)=1+(p+(i:Int))%24:=by omega
 rw[e]at A;exact A
theorem YV(e:cA X=I)(i:cA D=I)(h:∀n:Nat,n<=24->jA X n=jA D n):MA X=MA D/\fndL X=fndL D/\fndN X=fndN D/\fndP X=fndP D:=by
 have E:jA X 0=jA D 0:=h 0 (by omega);have B:pA X=pA D:=by rw[pA,pA,E]
 have A:MA X=MA D:=by
  have F:readE X 0=0:=oH e (n:=0) (by omega);have y:readE D 0=0:=oH i (n:=0) (by omega);rw[MA,MA,B,E,F,y]
 have C:GA X=GA D:=by rw[GA,GA,B,fS (λn _ Q=>h n Q)]
 refine⟨A,?_,?_,?_⟩
 .rw[fndL,fndL,A,C]
 .rw[fndN,fndN,A,B,C]
 .rw[fndP,fndP,A,B,C]
theorem KR{p seq:Int}(h:goodM (superMk p seq)=0):(1<=seq/\seq<=2147483647)/\0<=p/\p<=23:=by
 unfold goodM at h;split at h
 .cases h
 .split at h
  .cases h
  .rename_i A;have:¬(seq<1\/2147483647<seq\/p<0\/23<p):=A;omega
theorem kZ(f:Int->Option ByteArray)(n:Nat):((asN f n).map (·.1)).Nodup:=by
 induction n with
 |zero=>simp[asN]
 |succ n ih=>
  rw[JD,Ed,Bf];refine⟨ih,?_,?_⟩
  .unfold vC;cases f n<;>simp
  .intro a B b hb;obtain⟨x,C,rfl⟩:=Wc.1 B;obtain⟨y,A,rfl⟩:=Wc.1 hb;have h1:=(gJ C).2.1;unfold vC at A
   cases hf:f (n:Int) with
   |none=>rw[hf]at A;simp at A
   |some s=>rw[hf]at A;simp at A;subst A;simp;omega
theorem RH(Q:∀t∈l,nA t=I):LE (newestL l):=by
 refine⟨kZ _ _,λx e=>?_,QG _ 12⟩;obtain⟨a,b,c⟩:=gJ e;exact⟨a,by omega,xN Q _ _ c⟩
def putR (cs:List (Int×ByteArray))(S:ByteArray):List St:=homeS cs++[AA 0 S,flushS]
section
variable {cs:List (Int×ByteArray)} {S:ByteArray} {d:Dk}
theorem SE(h:LE cs):(homeS cs).length<=13:=by
 rw[homeS,Yb,yD];have:=h.2.2;split<;>simp<;>omega
theorem fG(h:LE cs)(Q:oA S=I):∀s∈putR cs S,zC s:=by
 intro s A;rcases Mc.1 A with h1|h1
 .exact(WF h.2.1).1 s h1
 .rcases Xc.1 h1 with rfl|h2
  .exact .inr ⟨rfl,Q⟩
  .rw[Rc.1 h2];exact .inl rfl
theorem sK(h:LE cs)(i:cA d=I)(Q:d.wr=[])(ho:∀n:Nat,n<25->Only d n (jA d n)):cA (runK d (homeS cs))=I/\(runK d (homeS cs)).wr.length<=13/\(∀n:Nat,n<25->Only (runK d (homeS cs)) n (jA d n))/\∀x∈cs,Only (runK d (homeS cs)) (25+x.1).toNat x.2:=by
 have hl:=SE h;have A:=WF h.2.1;have D:=WC (homeS cs) d A.1 i (by rw[Q];simp;omega);refine⟨D.1,by have:=D.2;rw[Q]at this;simp at this;omega,λn z=>XG (by omega) _ d A.1 i (by rw[Q];simp;omega) (ho n z) (A.2 n z),λx y=>?_⟩;have C:¬cs.length=0:=by intro e;rw[Tc e]at y;cases y
 have A0:=h.2.1 x y;have B:∀s∈homeM cs,zC s:=λs hs=>A.1 s (by rw[homeS];exact Mc.2 (.inl hs));have A1:(homeM cs).length<=12:=by rw[yD];exact h.2.2
 have E:=WC (homeM cs) d B i (by rw[Q];simp;omega);rw[homeS,Qb C,yE];show Only (MB (runK d (homeM cs))) _ _;have A2:=aF E.1 (n:=(25+x.1).toNat) (by omega);have e:(((25+x.1).toNat:Nat):Int)=25+x.1:=by omega
 have J:=NR cs d h i (by rw[Q];have:=h.2.2;simp;omega) x y
 have F:jA (runK d (homeM cs)) ((25+x.1).toNat:Nat)=x.2:=by
  rw[jA,E.1,wG (by omega),e];exact J
 rwa [F]at A2
theorem sT(h:LE cs)(e:oA S=I)(hg:cA d=I)(y:d.wr=[])(z:∀n:Nat,n<25->Only d n (jA d n)):cA (runK d (putR cs S))=I/\Only (runK d (putR cs S)) 0 S/\(∀n:Nat,1<=n->n<25->Only (runK d (putR cs S)) n (jA d n))/\∀x∈cs,Only (runK d (putR cs S)) (25+x.1).toNat x.2:=by
 obtain⟨i,a2,O,K⟩:=sK h hg y z;have E:dB (runK d (homeS cs)) 0 S=0:=jE i rfl e (by omega);have A:=eE E;have A1:(kB (runK d (homeS cs)) 0 S).wr.length<200:=by rw[XD E];simp;omega
 have C:runK d (putR cs S)=MB (kB (runK d (homeS cs)) 0 S):=by rw[putR,yE];rfl
 have F:zC (AA 0 S):=.inr ⟨rfl,e⟩
 have keep:∀(n:Nat) (v:ByteArray),n<37->n≠0->Only (runK d (homeS cs)) n v->Only (runK d (putR cs S)) n v:=by
  intro n v D A0 N;rw[C];have J:Only (kB (runK d (homeS cs)) 0 S) n v:=oI F i (by omega) D N (λ_=>by show(0:Int)≠_;omega);have B:=aF A D
  rwa [J.read A D]at B
 refine⟨by rw[C];exact QP A,?_,λn J B=>keep n _ (by omega) (by omega) (O n B),λx Q=>?_⟩
 .rw[C];have B:=aF A (n:=0) (by omega);have L:=(cL E).1;have M:jA (kB (runK d (homeS cs)) 0 S) ((0:Nat):Int)=S:=L
  rwa [M]at B
 .have:=h.2.1 x Q;exact keep _ _ (by omega) (by omega) (K x Q)
theorem EX(h:LE cs)(hS:oA S=I)(y:cA d=I)(hw:d.wr=[])(ho:∀n:Nat,n<25->Only d n (jA d n))(k:Nat):cA (runK d ((putR cs S).take k))=I/\(∀n:Nat,1<=n->n<25->Only (runK d ((putR cs S).take k)) n (jA d n))/\
  ((k<(putR cs S).length/\Only (runK d ((putR cs S).take k)) 0 (jA d 0))\/((∀s∈ways (runK d ((putR cs S).take k)) 0,(k<(putR cs S).length/\s=jA d 0)\/s=S)/\∀x∈cs,Only (runK d ((putR cs S).take k)) (25+x.1).toNat x.2)):=by
 have hl:=SE h;have A0:(putR cs S).length=(homeS cs).length+2:=by simp[putR]
 by_cases h1:k<=(homeS cs).length
 .have e:(putR cs S).take k=(homeS cs).take k:=by rw[putR,List.take_append_of_le_length h1]
  have D:=WF h.2.1;have A:∀s∈(homeS cs).take k,zC s:=λs i=>D.1 s (bd i);have C:d.wr.length+((homeS cs).take k).length<=200:=by rw[hw,Nc];simp;omega
  rw[e];have key:∀n:Nat,n<25->Only (runK d ((homeS cs).take k)) n (jA d n):=λn B=>XG (by omega) _ d A y C (ho n B) (λs i=>D.2 n B s (bd i));exact⟨(WC _ d A y C).1,λn _ z=>key n z,.inl ⟨by omega,key 0 (by omega)⟩⟩
 .obtain⟨A2,a2,J,K⟩:=sK h y hw ho;by_cases z:k=(homeS cs).length+1
  .have e:(putR cs S).take k=homeS cs++[AA 0 S]:=by
    rw[putR,Pg,zd (by omega),z,show(homeS cs).length+1 - (homeS cs).length=1 from by omega];rfl
   have F:dB (runK d (homeS cs)) 0 S=0:=jE A2 rfl hS (by omega);have E:runK d ((putR cs S).take k)=kB (runK d (homeS cs)) 0 S:=by rw[e,yE];rfl
   have A:zC (AA 0 S):=.inr ⟨rfl,hS⟩
   have keep:∀(n:Nat) (v:ByteArray),n<37->n≠0->Only (runK d (homeS cs)) n v->Only (runK d ((putR cs S).take k)) n v:=by
    intro n v B A1 Q;rw[E];exact oI A A2 (by omega) B Q (λ_=>by show(0:Int)≠_;omega)
   refine⟨by rw[E];exact eE F,λn h3 h4=>keep n _ (by omega) (by omega) (J n h4),.inr ⟨λs i=>?_,λx hx=>?_⟩⟩
   .rw[E,NK F,Rb (show(0:Int)=((0:Nat):Int) from rfl)]at i;rcases Mc.1 i with h5|h5
    .exact .inl ⟨by omega,J 0 (by omega) s h5⟩
    .exact .inr (Rc.1 h5)
   .have:=h.2.1 x hx;exact keep _ _ (by omega) (by omega) (K x hx)
  .have e:(putR cs S).take k=putR cs S:=zd (by omega);rw[e];obtain⟨L,N,O,M⟩:=sT h hS y hw ho;exact⟨L,O,.inr ⟨λs i=>.inr (N s i),M⟩⟩
end
def Among (d:Dk)(n:Nat)(S:ByteArray->Prop):Prop:=∀s∈ways d n,S s
theorem Among.mono{S T:ByteArray->Prop}(h:Among d n S)(e:∀s,S s->T s):Among d n T:=λs Q=>e s (h s Q)
theorem QM{s:St}(hs:zC s)(i:cA d=I)(hl:d.wr.length<200)(z:n<37){S:ByteArray->Prop}(Q:Among d n S)(y:s.1≠2->s.2.1=(n:Int)->S s.2.2):Among (wA d s) n S:=by
 unfold wA;by_cases h2:s.1=2
 .rw[Rb h2];intro x A;rw[aF i z x A,jA,i,wG z];exact Q _ (WQ n)
 .rw[Qb h2];obtain⟨B,C⟩:=hs.resolve_left h2;intro x A;rw[NK (jE i B C hl)]at A;split at A
  .rename_i e;rcases Mc.1 A with h|h
   .exact Q x h
   .rw[Rc.1 h];exact y h2 e
  .exact Q x A
theorem OL(e:n<37){S:ByteArray->Prop}:∀(l:List St) (d:Dk),(∀s∈l,zC s)->cA d=I->d.wr.length+l.length<=200->Among d n S->(∀s∈l,s.1≠2->s.2.1=(n:Int)->S s.2.2)->Among (runK d l) n S:=by
 intro l
 induction l with
 |nil=>intro d _ _ _ B _;exact B
 |cons s l ih=>
  intro d C D E B A;simp only[List.length_cons]at E;have F:=wH (C s (by simp)) D (by omega);exact ih (wA d s) (λx Q=>C x (by simp[Q])) F.1 (by omega) (QM (C s (by simp)) D (by omega) e B (A s (by simp))) (λx Q=>A x (by simp[Q]))
theorem JX(l:List (Int×Bool)):∀(i:Nat),(∀j,i<=j->j<i+l.length->log.getD j ByteArray.empty=log'.getD j ByteArray.empty)->copiesAt log i l=copiesAt log' i l:=by
 induction l with
 |nil=>intro i _;rfl
 |cons x r ih=>
  intro i h;rw[copiesAt,copiesAt,h i (Sb _) (by simp),ih (i+1) (λj h1 h2=>h j (by omega) (by simp only[List.length_cons];omega))]
theorem bR(hl:log.length=log'.length){m:Nat}(Q:∀i,i<m->log.getD i ByteArray.empty=log'.getD i ByteArray.empty)(seq:Int):∀(f i:Nat) (t:Tx) (n:Nat) (u:Tx),log.length - i<=f->FA log seq i t=J (n,u)->n<=m->FA log' seq i t=J (n,u):=by
 intro f
 induction f with
 |zero=>intro i t n u B h _;rw[FA,Bd (by omega)]at h;cases h
 |succ f ih=>
  intro i t n u B h D;have hb:=mE log seq _ i t n u (Sb _) h;have e:=Q i (by omega);rw[FA]at h|-;split at h
  .rename_i h1;rw[td (by omega),<-e];split at h
   .cases h
   .rename_i C;rw[Qb C];split at h
    .rename_i A;rw[Rb A];exact h
    .rename_i A;rw[Qb A];split at h
     .rename_i h4;rw[Rb (by omega)];have A0:=mE log seq _ _ _ n u (Sb _) h;have E:=JX (log:=log) (log':=log') (EA (log.getD i ByteArray.empty)).1.tags (i+1) (λj _ h6=>Q j (by omega));have:=ih _ _ n u (by omega) h D;unfold more at this|-;rw[E]at this;exact this
     .cases h
  .cases h
theorem kO(log:List ByteArray):∀(f pos:Nat) (seq:Int) (Q:List Tx),log.length - pos<=f->pos<=(scanP log pos seq Q).2/\Q.length<=(scanP log pos seq Q).1.length:=by
 intro f
 induction f with
 |zero=>
  intro pos seq Q A;rw[scanP];split
  .rw[FA,Bd (by omega)];exact⟨Sb _,Sb _⟩
  .exact⟨Sb _,Sb _⟩
 |succ f ih=>
  intro pos seq Q A;rw[scanP];split
  .split
   .exact⟨Sb _,Sb _⟩
   .rename_i n t B;have hb:=mE log seq _ pos _ n t (Sb _) B;have:=ih n (seq+1) (Q++[t]) (by omega);rw[Yb,Ze]at this;omega
  .exact⟨Sb _,Sb _⟩
theorem SR(y:log.length=log'.length):∀(f pos:Nat) (seq:Int) (Q:List Tx),log.length - pos<=f->(∀i,i<(scanP log pos seq Q).2->log.getD i ByteArray.empty=log'.getD i ByteArray.empty)->
  scanP log' pos seq Q=scanP log' (scanP log pos seq Q).2 (seq+((scanP log pos seq Q).1.length:Int) - (Q.length:Int)) (scanP log pos seq Q).1:=by
 intro f
 induction f with
 |zero=>
  intro pos seq Q D _
  have e:scanP log pos seq Q=(Q,pos):=by
   rw[scanP];split
   .rw[FA,Bd (by omega)]
   .rfl
  rw[e];show scanP log' pos seq Q=scanP log' pos (seq+(Q.length:Int) - (Q.length:Int)) Q;rw[show seq+(Q.length:Int) - (Q.length:Int)=seq by omega]
 |succ f ih=>
  intro pos seq Q D A;by_cases hq:seq<2147483647
  .cases hr:FA log seq pos (gA seq) with
   |none=>
    have e:scanP log pos seq Q=(Q,pos):=by rw[scanP,td hq,hr]
    rw[e];show scanP log' pos seq Q=scanP log' pos (seq+(Q.length:Int) - (Q.length:Int)) Q;rw[show seq+(Q.length:Int) - (Q.length:Int)=seq by omega]
   |some x=>
    obtain⟨n,t⟩:=x;have e:scanP log pos seq Q=scanP log n (seq+1) (Q++[t]):=by rw[scanP,td hq,hr]
    rw[e]at A|-;have hb:=mE log seq _ pos _ n t (Sb _) hr;have B:=kO log _ n (seq+1) (Q++[t]) (Sb _);have C:=bR y A seq _ pos _ n t (Sb _) hr B.1;have E:scanP log' pos seq Q=scanP log' n (seq+1) (Q++[t]):=by rw[scanP,td hq,C]
    rw[E,ih n (seq+1) (Q++[t]) (by omega) A]
    congr 1
    rw[Yb,Ze]
    push_cast
    omega
  .have e:scanP log pos seq Q=(Q,pos):=by rw[scanP,Bd hq]
   rw[e];show scanP log' pos seq Q=scanP log' pos (seq+(Q.length:Int) - (Q.length:Int)) Q;rw[show seq+(Q.length:Int) - (Q.length:Int)=seq by omega]
theorem bW{l:List ByteArray}{j:Nat}(h:j<l.length):(l++r).getD j ByteArray.empty=l.getD j ByteArray.empty:=by
 rw[List.getD,List.getD,ve h]
theorem ib{l:List ByteArray}(j:Nat):(l++r).getD (l.length+j) ByteArray.empty=r.getD j ByteArray.empty:=by
 rw[List.getD,List.getD,ke (by omega),show l.length+j - l.length=j by omega]
def eC (l:List (Mk×List ByteArray)):List ByteArray:=l.flatMap λx=>encT x.1::x.2
def tK (N:Int)(x:Mk×List ByteArray):Prop:=goodM x.1=0/\x.1.seq=N/\x.1.kind≠1/\x.1.kind≠4/\x.2.length=x.1.tags.length
theorem JZ(x:Mk×List ByteArray)(l:List (Mk×List ByteArray)):eC (x::l)=encT x.1::(x.2++eC l):=by simp[eC]
def ID:List (Int×Bool)->List ByteArray->List (Int×ByteArray)
 |x::r,s::l=>(x.1,aB s x.2)::ID r l
 |_,_=>[]
theorem IZ:∀(g:List (Int×Bool)) (l:List ByteArray) (i:Nat),l.length=g.length->(∀j,j<l.length->log.getD (i+j) ByteArray.empty=l.getD j ByteArray.empty)->copiesAt log i g=ID g l:=by
 intro g
 induction g with
 |nil=>intro l i _ _;cases l<;>rfl
 |cons x r ih=>
  intro l i A h
  cases l with
  |nil=>simp at A
  |cons s l=>
   rw[copiesAt,ID];have B:=h 0 (by simp);simp only[Nat.add_zero,List.getD_cons_zero]at B
   rw[B,ih l (i+1) (by simpa using A) (λj hj=>by
    have:=h (j+1) (by simp;omega);rw[Yd]at this
    rw[show i+1+j=i+(j+1) by omega];exact this)]
def mH (t:Tx)(l:List (Mk×List ByteArray)):Tx:={t with rev:=t.rev++l.flatMap (·.1.blocks),info:=t.info++l.flatMap (λx=>ID x.1.tags x.2)}
theorem yS{N:Int}{cm:Mk}(A0:goodM cm=0)(A1:cm.seq=N)(z:cm.kind=4):∀(l:List (Mk×List ByteArray)) (log:List ByteArray) (i:Nat) (t:Tx),(∀x∈l,tK N x)->i+(eC l).length+1<=log.length->
  (∀j,j<(eC l).length->log.getD (i+j) ByteArray.empty=(eC l).getD j ByteArray.empty)->log.getD (i+(eC l).length) ByteArray.empty=encT cm->FA log N i t=J (i+(eC l).length+1,mH t l):=by
 intro l
 induction l with
 |nil=>
  intro log i t _ B _ h;have e:log.getD i ByteArray.empty=encT cm:=h;rw[FA,td (by simp[eC]at B;omega),e,LG A0,Qb (by simp[A1,z]),Rb z];simp[eC,mH]
 |cons x l ih=>
  intro log i t D B A C;rw[JZ]at B A C|-;simp only[List.length_cons,List.length_append]at B C;obtain⟨L,M,F,E,A2⟩:=D x (by simp);have e:log.getD i ByteArray.empty=encT x.1:=by simpa using A 0 (by simp)
  rw[FA,td (by omega),e,LG L];dsimp only;rw[Qb (by simp;exact⟨M,F⟩),Qb E,Rb (by omega)]
  have Q:copiesAt log (i+1) x.1.tags=ID x.1.tags x.2:=IZ _ _ _ A2 (λj I=>by
   have:=A (j+1) (by simp;omega);rw[Yd,bW I]at this
   rw[show i+1+j=i+(j+1) by omega];exact this)
  have O:∀j,j<(eC l).length->log.getD (i+1+x.1.tags.length+j) ByteArray.empty=(eC l).getD j ByteArray.empty:=by
   intro j I;have:=A (1+x.2.length+j) (by simp;omega);rw[show 1+x.2.length+j=(x.2.length+j)+1 by omega,Yd,ib]at this;rw[show i+1+x.1.tags.length+j=i+(x.2.length+j+1) by omega];exact this
  have K:log.getD (i+1+x.1.tags.length+(eC l).length) ByteArray.empty=encT cm:=by
   rw[show i+1+x.1.tags.length+(eC l).length=i+(x.2.length+(eC l).length+1) by omega];exact C
  rw[ih log _ _ (λy hy=>D y (by simp[hy])) (by omega) O K];simp only[List.length_cons,List.length_append,Option.some.injEq,Prod.mk.injEq];refine⟨by omega,?_⟩;simp[mH,more,Q]
def segsOf (t:Tx):List (Mk×List ByteArray):=(if t.rev.length=0 then[] else[(⟨3,t.seq,0,[],t.rev⟩,[])])++(List.range (WA t.info.length 10)).map λk=>(⟨2,t.seq,0,tagsOf (partOf t.info k),[]⟩,textsOf (partOf t.info k))
theorem BG(t:Tx):eC (segsOf t)=logB t:=by
 unfold eC segsOf logB revB metaB;rw[de,Qg]
 congr 1
 split<;>simp
theorem iY{l:List (Int×ByteArray)}(h:iA (blksOf l)=I)(k:Nat):iA ((tagsOf (partOf l k)).map (·.1))=I:=by
 have e:(tagsOf (partOf l k)).map (·.1)=blksOf (partOf l k):=by simp[tagsOf,blksOf]
 rw[e];rw[zB]at h|-
 have A:(blksOf (partOf l k)).Sublist (blksOf l):=by
  unfold blksOf partOf;exact((List.take_sublist _ _).trans (List.drop_sublist _ _)).map _
 exact⟨λx Q=>h.1 x (A.subset Q),h.2.sublist A⟩
theorem oK(Q:nA t=I):∀x∈segsOf t,tK t.seq x:=by
 obtain⟨⟨q1,q2⟩,_,⟨e,_,F⟩,_⟩:=(VA t).1 Q;have hs:=iB Q;intro x D;unfold segsOf at D;rcases Mc.1 D with h|h
 .split at h
  .cases h
  .rename_i h0;rw[Rc.1 h];refine⟨?_,rfl,by simp,by simp,rfl⟩;unfold goodM;rw[Qb (by simp),Qb (by simp;omega),Qb (by simp),Qb];rintro(⟨A,_⟩|⟨_,A⟩|A|A)
   .simp at A
   .simp only at A;omega
   .simp[iA,UA]at A
   .simp only[F]at A;cases A
 .obtain⟨k,E,rfl⟩:=Wc.1 h;have B:=ae.1 E;have C:=LI t.info k
  have A0:1<=(partOf t.info k).length/\(partOf t.info k).length<=10:=by
   rw[C];unfold WA at B;unfold UB;split<;>omega
  refine⟨?_,rfl,by simp,by simp,by simp[tagsOf,textsOf]⟩;unfold goodM;rw[Qb (by simp),Qb (by simp;omega),Qb (by simp),Qb];rintro(⟨_,A⟩|⟨A,_⟩|A|A)
  .simp only[tagsOf,List.length_map]at A;omega
  .simp at A
  .simp only[iY e k]at A;cases A
  .simp[iA,UA]at A
theorem pV(l:List (Int×ByteArray)):ID (tagsOf l) (textsOf l)=l:=by
 induction l with
 |nil=>rfl
 |cons x r ih=>
  show(x.1,aB (escT x.2) (isMagic x.2))::ID (tagsOf r) (textsOf r)=x::r;rw[ih,kU]
theorem lV{l:List (Int×ByteArray)}(h:l.length<=12):(List.range (WA l.length 10)).flatMap (partOf l)=l:=by
 by_cases h0:l.length=0
 .rw[Tc h0];rfl
 .by_cases h1:l.length<=10
  .have e:WA l.length 10=1:=by unfold WA;omega
   rw[e];simp[partOf,List.range_succ];exact zd h1
  .have e:WA l.length 10=2:=by unfold WA;omega
   rw[e];have A:(l.drop 10).take 10=l.drop 10:=zd (by rw[Uc];omega);simp[partOf,List.range_succ,A]
def toldOf (t:Tx):Tx:=⟨t.seq,t.info,[],t.rev,⟨O,0⟩,⟨O,0⟩,⟨O,0⟩⟩
theorem aU(Q:nA t=I):mH (gA t.seq) (segsOf t)=toldOf t:=by
 have A:=iB Q
 have C:(segsOf t).flatMap (·.1.blocks)=t.rev:=by
  unfold segsOf;rw[de,Qg];split
  .rename_i h;simp[List.eq_nil_of_length_eq_zero h]
  .simp
 have B:(segsOf t).flatMap (λx=>ID x.1.tags x.2)=t.info:=by
  unfold segsOf;rw[de,Qg]
  have:((List.range (WA t.info.length 10)).flatMap λk=>ID (tagsOf (partOf t.info k)) (textsOf (partOf t.info k)))=t.info:=by
   rw[show(λk=>ID (tagsOf (partOf t.info k)) (textsOf (partOf t.info k)))=partOf t.info from funext λk=>pV _];exact lV A.1
  split
  .simpa using this
  .simpa[ID] using this
 unfold mH toldOf gA;rw[C,B];simp
theorem RL(Q:nA t=I):goodM ⟨4,t.seq,0,[],[]⟩=0:=by
 obtain⟨⟨q1,q2⟩,_⟩:=(VA t).1 Q;unfold goodM;rw[Qb (by simp),Qb (by simp;omega),Qb (by simp),Qb];simp[iA,UA]
theorem rH{ps:List Int}{l:List ByteArray}{s:St}(h:s∈putS ps l):∃i,i<l.length/\i<ps.length/\s=AA (1+ps.getD i 0) (l.getD i ByteArray.empty):=by
 obtain⟨i,A⟩:=Hg h;have B:=(gd.1 A).1;unfold putS at A B;rw[List.length_zipWith]at B;have C:i<l.length:=by omega
 have D:i<ps.length:=by omega
 refine⟨i,C,D,?_⟩;rw[List.getElem?_zipWith,Ic C,Ic D]at A;simp only[Option.some.injEq]at A;rw[<-A,List.getD,List.getD,Ic C,Ic D];rfl
theorem GV:∀(l:List ByteArray) (Q:List Int) (d:Dk),l.length<=Q.length->Q.Nodup->(∀p∈Q,0<=p/\p<=23)->(∀s∈l,oA s=I)->cA d=I->d.wr.length+l.length<=200->∀i,i<l.length->jA (runK d (putS Q l)) (1+Q.getD i 0)=l.getD i ByteArray.empty:=by
 intro l
 induction l with
 |nil=>intro Q d _ _ _ _ _ _ i C;simp at C
 |cons s l ih=>
  intro Q d z J D E N M i C
  cases Q with
  |nil=>simp at z
  |cons p Q=>
   have A0:=D p (by simp);simp only[List.length_cons]at z M C;have B:dB d (1+p) s=0:=jE N (by simp[QA];omega) (E s (by simp)) (by omega);have e:runK d (putS (p::Q) (s::l))=runK (kB d (1+p) s) (putS Q l):=rfl;have A:=Xe.1 J;rw[e]
   cases i with
   |succ i=>
    rw[Yd,Yd];exact ih Q _ (by omega) A.2 (λx y=>D x (by simp[y])) (λx y=>E x (by simp[y])) (eE B) (by rw[XD B];simp;omega) i (by omega)
   |zero=>
    rw[Ef,Ef]
    have L:=(zb (1+p).toNat (by omega) (putS Q l) _ (eE B) (λx y _=>by
     obtain⟨j,_,K,rfl⟩:=rH y;show 1+Q.getD j 0≠_;intro hc;have F:Q.getD j 0=p:=by omega
     refine A.1 ?_;rw[<-F,List.getD,Ic K]
     exact xe K)).1
    rw[show(((1+p).toNat:Nat):Int)=1+p by omega]at L;rw[L];exact(cL B).1
theorem wY(h:Int)(hn:n<=24):(OB h n).Nodup:=by
 unfold OB List.Nodup;rw[List.pairwise_map];refine List.Pairwise.imp_of_mem ?_ (List.pairwise_lt_range (n:=n));intro a b A hb A0;have:=ae.1 A;have:=ae.1 hb;omega
theorem mO(Q:nA t=I):∀s∈logB t,oA s=I:=by
 intro s C;rw[<-BG,eC]at C;obtain⟨x,A,h⟩:=ag.1 C;rcases Xc.1 h with rfl|h
 .have:=gE (oK Q x A).1;simp[oA];omega
 .unfold segsOf at A;rcases Mc.1 A with h2|h2
  .split at h2
   .cases h2
   .rw[Rc.1 h2]at h;cases h
  .obtain⟨k,_,rfl⟩:=Wc.1 h2;obtain⟨c,E,rfl⟩:=Wc.1 h;have B:c∈t.info:=Jg (bd E);have D:=((VA t).1 Q).2.1.1;have:=Zc.1 D c B;simp only[oA]at this|-;rw[lL];exact this
theorem EI(Q:nA t=I):∀x∈t.data,0<=x.1/\x.1<=11/\oA x.2=I:=by
 obtain⟨_,⟨_,D⟩,⟨_,C,_⟩,_⟩:=(VA t).1 Q;intro x B;have A:=((zB _).1 C).1 x.1 (Wc.2 ⟨x,B,rfl⟩);exact⟨A.1,A.2,Zc.1 D x B⟩
def sealA (P:Int)(t:Tx):List St:=homeS t.data++putS (OB P ((logB t).length+1)) (logB t)
def sealF (t:Tx):List St:=if 0<t.rev.length+t.info.length then[flushS] else[]
def rC (P:Int)(t:Tx):St:=AA (1+(P+((logB t).length:Int))%24) (lastB t)
theorem uD{U:Int}(h:NA P U t=0):commitS P U t=sealA P t++sealF t++[rC P t,flushS]/\nA t=I/\(0<=P/\P<=23)/\0<=U/\U+((logB t).length:Int)+1<=24:=by
 obtain⟨E,_,hl,_⟩:=cK h;have A:=h;unfold NA at A;split at A
 .cases A
 .rename_i Q;have C:mB P U=I:=by cases e:mB P U;exact absurd (.inl e) Q;rfl
  obtain⟨F,p2,u1,u2⟩:=PK C;have D:=iB E;have hn:=IF t D.1 D.2.2
  have B:sealP P U t=OB P ((logB t).length+1):=by
   rw[sealP,Rb h,takeL,Rb A]
   congr 1;omega
  refine⟨?_,E,⟨F,p2⟩,u1,?_⟩
  .rw[commitS,Rb h,B,wF _ _ _ (by omega)];simp[sealA,sealF,rC]
  .unfold takeE at A;split at A
   .cases A
   .split at A
    .cases A
    .omega
theorem fT(h:¬0<t.rev.length+t.info.length):logB t=[]:=by
 have A:t.rev=[]:=Tc (by omega);have B:t.info=[]:=Tc (by omega);rw[logB,revB,A,B];rfl
section
variable {D:Dk} {P U:Int} {t:Tx}
theorem yH(h:NA P U t=0):(∀s∈commitS P U t,zC s)/\(commitS P U t).length<=50:=by
 obtain⟨e,A,hP,_,hU⟩:=uD h;have hd:=WF (EI A);have C:=iB A;refine⟨?_,?_⟩
 .rw[e];intro s C;rcases Mc.1 C with h1|h1
  .rcases Mc.1 h1 with h1|h1
   .rcases Mc.1 h1 with h1|h1
    .exact hd.1 s h1
    .obtain⟨i,D,B,rfl⟩:=rH h1;rw[xD]at B;refine .inr ⟨?_,?_⟩
     .show QA (1+(OB P _).getD i 0)=I;rw[wF _ _ _ B];simp[QA];omega
     .show oA ((logB t).getD i ByteArray.empty)=I;rw[List.getD,Ic D];exact mO A _ (xe D)
   .unfold sealF at h1;split at h1
    .rw[Rc.1 h1];exact .inl rfl
    .cases h1
  .rcases Xc.1 h1 with rfl|h1
   .refine .inr ⟨?_,?_⟩
    .show QA (1+(P+_)%24)=I;simp[QA];omega
    .show oA (lastB t)=I;have:=gE (RL A);simp[oA,lastB];omega
   .rw[Rc.1 h1];exact .inl rfl
 .rw[e];have h1:(homeS t.data).length<=13:=by rw[homeS,Yb,yD];split<;>simp<;>omega
  have E:(putS (OB P ((logB t).length+1)) (logB t)).length=(logB t).length:=MF (by rw[xD];omega);have h3:(sealF t).length<=1:=by unfold sealF;split<;>simp
  simp only[sealA,List.length_append,List.length_cons,List.length_nil,E];omega
theorem xJ(h:NA P U t=0)(Q:n<25):∀s∈sealA P t++sealF t,s.1≠2->s.2.1=(n:Int)->∃i,i<(logB t).length/\(n:Int)=1+(P+(i:Int))%24/\s.2.2=(logB t).getD i ByteArray.empty:=by
 obtain⟨_,E,_,_,_⟩:=uD h
 intro s D C B
 rcases Mc.1 D with h1|h1
 .rcases Mc.1 h1 with h1|h1
  .exact absurd B ((WF (EI E)).2 n Q s h1 C)
  .obtain⟨i,F,A,rfl⟩:=rH h1;rw[xD]at A;refine⟨i,F,?_,rfl⟩;rw[<-B];show 1+(OB P _).getD i 0=_;rw[wF _ _ _ A]
 .unfold sealF at h1;split at h1
  .rw[Rc.1 h1]at C;exact absurd rfl C
  .cases h1
theorem eV(hg:cA D=I)(hw:D.wr=[])(h:NA P U t=0)(hk:k<=(commitS P U t).length):
  cA (runK D ((commitS P U t).take k))=I/\
  (∀n:Nat,n<25->(∀i:Nat,i<=(logB t).length->(n:Int)≠1+(P+(i:Int))%24)->Only (runK D ((commitS P U t).take k)) n (jA D n))/\
  ((k+1<(commitS P U t).length/\(∀(n i:Nat),i<(logB t).length->(n:Int)=1+(P+(i:Int))%24->Among (runK D ((commitS P U t).take k)) n (λs=>s=jA D n\/s=(logB t).getD i ByteArray.empty))/\(∀n:Nat,(n:Int)=1+(P+((logB t).length:Int))%24->Only (runK D ((commitS P U t).take k)) n (jA D n)))\/
   ((commitS P U t).length<=k+1/\(∀(n i:Nat),i<(logB t).length->(n:Int)=1+(P+(i:Int))%24->Only (runK D ((commitS P U t).take k)) n ((logB t).getD i ByteArray.empty))/\(∀n:Nat,(n:Int)=1+(P+((logB t).length:Int))%24->Among (runK D ((commitS P U t).take k)) n (λs=>(k<(commitS P U t).length/\s=jA D n)\/s=lastB t)))):=by
 obtain⟨e,d,hP,A5,hU⟩:=uD h;obtain⟨m,A3⟩:=yH h
 have Z:∀n:Nat,n<37->Only D n (jA D n):=by
  intro n F;obtain⟨sf,wr⟩:=D;simp only at hw;subst hw;exact eK hg F
 have K:∀s∈(commitS P U t).take k,zC s:=λs A=>m s (bd A);have R:D.wr.length+((commitS P U t).take k).length<=200:=by rw[hw,Nc];simp;omega
 have y:∀{n:Nat},n<25->∀s∈commitS P U t,s.1≠2->s.2.1=(n:Int)->(∃i,i<(logB t).length/\(n:Int)=1+(P+(i:Int))%24/\s.2.2=(logB t).getD i ByteArray.empty)\/((n:Int)=1+(P+((logB t).length:Int))%24/\s=rC P t):=by
  intro n F s A C E
  rw[e]at A;rcases Mc.1 A with h1|h1
  .exact .inl (xJ h F s h1 C E)
  .rcases Xc.1 h1 with rfl|h1
   .exact .inr ⟨E.symm,rfl⟩
   .rw[Rc.1 h1]at C;exact absurd rfl C
 have z:=(WC _ D K hg R).1;refine⟨z,?_,?_⟩
 .intro n F q;refine XG (by omega) _ D K hg R (Z n (by omega)) λs A C E=>?_;rcases y F s (bd A) C E with⟨i,M,h1,_⟩|⟨h1,_⟩
  .exact q i (by omega) h1
  .exact q _ (Sb _) h1
 .have l:(commitS P U t).length=(sealA P t++sealF t).length+2:=by rw[e,Yb];rfl
  by_cases hk1:k+1<(commitS P U t).length
  .have c:(commitS P U t).take k=(sealA P t++sealF t).take k:=by rw[e,List.take_append_of_le_length (by omega)]
   refine .inl ⟨hk1,?_,?_⟩
   .intro n i M B;have F:n<25:=by omega
    refine OL (by omega) _ D K hg R (λs A=>.inl (Z n (by omega) s A)) λs A C E=>?_;rw[c]at A
    obtain⟨j,hj,h1,J⟩:=xJ h F s (bd A) C E
    have:j=i:=by omega
    subst this;exact .inr J
   .intro n B;have F:n<25:=by omega
    refine XG (by omega) _ D K hg R (Z n (by omega)) λs A C E=>?_;rw[c]at A
    obtain⟨j,hj,h1,J⟩:=xJ h F s (bd A) C E
    omega
  .have O:∀s∈sealA P t++sealF t,zC s:=λs A=>m s (by rw[e];exact Mc.2 (.inl A));have N:D.wr.length+(sealA P t++sealF t).length<=200:=by rw[hw];simp at l|-;omega
   have A6:=WC _ D O hg N
   have Y:∀(n i:Nat),i<(logB t).length->(n:Int)=1+(P+(i:Int))%24->Only (runK D (sealA P t++sealF t)) n ((logB t).getD i ByteArray.empty):=by
    intro n i M B
    have u:0<t.rev.length+t.info.length:=by
     by_cases hx:0<t.rev.length+t.info.length
     .exact hx
     .rw[fT hx]at M;simp at M
    have x:∀s∈sealA P t,zC s:=λs A=>O s (Mc.2 (.inl A));have A1:D.wr.length+(sealA P t).length<=200:=by simp at N|-;omega
    have A0:=WC _ D x hg A1;have eF:runK D (sealA P t++sealF t)=MB (runK D (sealA P t)):=by rw[yE,sealF,Rb u];rfl
    rw[eF];have h1:=aF A0.1 (n:=n) (by omega)
    have J:jA (runK D (sealA P t)) n=(logB t).getD i ByteArray.empty:=by
     rw[sealA,yE];have hd:=WF (EI d)
     have A2:(homeS t.data).length<=13:=by
      have:=iB d;rw[homeS,Yb,yD];split<;>simp<;>omega
     have r:=WC (homeS t.data) D hd.1 hg (by rw[hw];simp;omega)
     have:=GV (logB t) (OB P ((logB t).length+1)) (runK D (homeS t.data)) (by rw[xD];omega) (wY P (by omega)) (λp hp=>by
      unfold OB at hp;obtain⟨j,_,rfl⟩:=Wc.1 hp
      omega) (mO d) r.1 (by have:=r.2;rw[hw]at this;simp at this;omega) i M
     rw[wF _ _ _ (by omega),<-B]at this;exact this
    rwa [J]at h1
   have L:zC (rC P t):=m _ (by rw[e];simp);have S:(runK D (sealA P t++sealF t)).wr.length<200:=by have:=A6.2;rw[hw]at this;simp at this l;omega
   have Q:=wH L A6.1 S;have A4:(wA (runK D (sealA P t++sealF t)) (rC P t)).wr.length<200:=by have:=Q.2;have:=A6.2;rw[hw]at this;simp at this l;omega
   have X:∀(n:Nat) (v:ByteArray),n<25->(n:Int)≠1+(P+((logB t).length:Int))%24->Only (runK D (sealA P t++sealF t)) n v->Only (wA (runK D (sealA P t++sealF t)) (rC P t)) n v:=λn v F A7 hv=>oI L A6.1 S (by omega) hv (λ_ hx=>A7 hx.symm)
   have w:∀n:Nat,(n:Int)=1+(P+((logB t).length:Int))%24->Among (wA (runK D (sealA P t++sealF t)) (rC P t)) n (λs=>s=jA D n\/s=lastB t):=by
    intro n B;refine QM L A6.1 S (by omega) ?_ (λ_ _=>.inr rfl)
    have:=XG (n:=n) (by omega) _ D O hg N (Z n (by omega)) λs A C E=>by
     obtain⟨j,hj,h1,J⟩:=xJ h (by omega) s A C E
     omega
    exact λs A=>.inl (this s A)
   refine .inr ⟨by omega,?_⟩;by_cases hk3:k=(commitS P U t).length
   .have c:runK D ((commitS P U t).take k)=MB (wA (runK D (sealA P t++sealF t)) (rC P t)):=by
     rw[hk3,Lc,e,yE];rfl
    rw[c];refine⟨λn i M B=>?_,λn B s A=>?_⟩
    .have h1:=X n _ (by omega) (by omega) (Y n i M B);have J:=aF Q.1 (n:=n) (by omega)
     rwa [h1.read Q.1 (by omega)]at J
    .have J:=aF Q.1 (n:=n) (by omega) s A;refine .inr ?_;rw[J]
     have he:dB (runK D (sealA P t++sealF t)) (1+(P+((logB t).length:Int))%24) (lastB t)=0:=by
      obtain⟨a,b⟩:=L.resolve_left (by simp[rC,AA]);exact jE A6.1 a b S
     have:=(cL he).1;rw[B];exact this
   .have c:runK D ((commitS P U t).take k)=wA (runK D (sealA P t++sealF t)) (rC P t):=by
     have:(commitS P U t).take k=(sealA P t++sealF t)++[rC P t]:=by
      rw[e,Pg,zd (by omega),show k - (sealA P t++sealF t).length=1 by omega];rfl
     rw[this,yE];rfl
    rw[c];refine⟨λn i M B=>X n _ (by omega) (by omega) (Y n i M B),λn B s A=>?_⟩;rcases w n B s A with h1|h1
    .exact .inl ⟨by omega,h1⟩
    .exact .inr h1
end
def JI (d:Dk):Int:=if(fndP d - (pA d).pos)%24=0/\0<(fndL d).length then 24 else(fndP d - (pA d).pos)%24
theorem LW(log:List ByteArray)(pos:Nat)(seq:Int)(Q:List Tx):(scanP log pos seq Q=(Q,pos))\/(Q.length<(scanP log pos seq Q).1.length/\pos<(scanP log pos seq Q).2):=by
 rw[scanP];split
 .split
  .exact .inl rfl
  .rename_i n t A;have hb:=mE log seq _ pos _ n t (Sb _) A;have:=kO log _ n (seq+1) (Q++[t]) (Sb _);rw[Yb,Ze]at this;exact .inr ⟨by omega,by omega⟩
 .exact .inl rfl
theorem VH(h:MA d=0):JI d=((GA d).2:Int)/\(GA d).2<=24/\fndP d=((pA d).pos+((GA d).2:Int))%24/\fndN d=(pA d).seq+((GA d).1.length:Int):=by
 obtain⟨_,⟨q1,F⟩,p1,p2,_,_⟩:=XI h
 have B:(GA d).2<=24:=by
  have:=(XN (logOf d (pA d).pos) 24 0 (pA d).seq [] (by rw[TA];omega) (λt y=>by cases y) F).2.2 (Vb _);rw[TA]at this;exact this
 have A:fndP d=((pA d).pos+((GA d).2:Int))%24:=by rw[fndP,Rb h];omega
 have C:=LW (logOf d (pA d).pos) 0 (pA d).seq [];refine⟨?_,B,A,by rw[fndN,Rb h]⟩;have E:(fndL d).length=(GA d).1.length:=by rw[fndL,Rb h]
 rw[JI,E];rcases C with e|⟨Q,i⟩
 .have D:GA d=([],0):=e;rw[A,D];rw[Qb (by simp)];show(((pA d).pos+((0:Nat):Int))%24 - (pA d).pos)%24=((0:Nat):Int);omega
 .have A1:0<(GA d).1.length:=Q;have A0:0<(GA d).2:=i;split<;>omega
def NoEnd (M:Int)(s:ByteArray):Prop:=(EA s).2=0->(EA s).1.kind=4->(EA s).1.seq<M
theorem NoEnd.mono{M Q:Int}(h:NoEnd M s)(hm:M<=Q):NoEnd Q s:=λa b=>by have:=h a b;omega
theorem jL{N M:Int}(h:∀i,i<log.length->NoEnd N (log.getD i ByteArray.empty))(hM:N<=M):∀(f i:Nat) (t:Tx),log.length - i<=f->FA log M i t=Z:=by
 intro f
 induction f with
 |zero=>intro i t B;rw[FA,Bd (by omega)]
 |succ f ih=>
  intro i t B;rw[FA];split
  .rename_i D;split
   .rfl
   .rename_i A;simp only[not_or,ne_eq,Decidable.not_not]at A;split
    .rename_i C;have:=h i D A.1 C;omega
    .split
     .exact ih _ _ (by omega)
     .rfl
  .rfl
theorem QL(Q:nA t=I)(M:Int):∀s∈logB t,NoEnd M s:=by
 intro s A;rw[<-BG]at A;obtain⟨x,hx,A⟩:=ag.1 A;obtain⟨F,_,_,E,_⟩:=oK Q x hx;rcases Xc.1 A with rfl|A
 .intro _ C;rw[LG F]at C;exact absurd C E
 .have B:∃c,s=escT c:=by
   rcases Mc.1 hx with hx|hx
   .split at hx
    .cases hx
    .rw[Rc.1 hx]at A;cases A
   .obtain⟨k,_,rfl⟩:=Wc.1 hx;obtain⟨c,_,rfl⟩:=Wc.1 A;exact⟨_,rfl⟩
  obtain⟨c,rfl⟩:=B;intro D;rw[nK (XY c)]at D;cases D
theorem tW(Q:nA t=I):NoEnd (t.seq+1) (lastB t):=by
 intro _ _;rw[lastB,LG (RL Q)];show t.seq<t.seq+1;omega
structure Crashed (R X:Dk):Prop where
 good:cA X=true
 clean:X.wr=[]
 at_:∀n:Nat,n<37->jA X n∈ways R n
theorem qU(Q:cA R=I)(i:0<=q):crashE R q=0/\Crashed R (crashK R q):=by
 have hd:decide (0<=q)=I:=by simpa using i
 have A:crashK R q=⟨(wB R q.toNat 37).1,[]⟩:=by rw[crashK,Q,hd];rfl
 refine⟨by rw[crashE,Q,hd];rfl,by rw[A];exact fO Q _,by rw[A],λn e=>?_⟩;rw[A,SH (fO Q _) e];exact YN _ _ _ e
theorem GQ(e:cA R=I)(Q:R.wr=[]):Crashed R R:=by
 refine⟨e,Q,λn i=>?_⟩;obtain⟨sf,wr⟩:=R;simp only at Q;subst Q;rw[SH e i,RP];simp
theorem iH(e:cA D=I)(Q:D.wr=[])(i:n<37):Only D n (jA D n):=by
 obtain⟨sf,wr⟩:=D;simp only at Q;subst Q;exact eK e i
structure Tells (D:Dk)(l:List Tx)(N P U:Int):Prop where
 clean:D.wr=[]
 tE:MA D=0
 tL:fndL D=l
 tN:fndN D=N
 tP:fndP D=P
 tU:JI D=U
 goods:∀t∈l,nA t=true
 late:∀n:Nat,1<=n->n<=24->NoEnd N (jA D n)
theorem Tells.good{N U:Int}(h:Tells D l N P U):cA D=I:=(XI h.tE).1
theorem Tells.range{N U:Int}(h:Tells D l N P U):(1<=N/\N<=2147483647)/\(0<=P/\P<=23)/\0<=U/\U<=24:=by
 obtain⟨_,A,C,B⟩:=vN h.tE;obtain⟨u1,u2,_,_⟩:=VH h.tE;rw[h.tN]at A;rw[h.tP]at C B;rw[h.tU]at u1;exact⟨A,⟨C,B⟩,by omega,by omega⟩
theorem Tells.congr{N U:Int}(h:Tells D l N P U)(z:cA X=I)(i:X.wr=[])(Q:∀n:Nat,n<=24->jA X n=jA D n):Tells X l N P U:=by
 obtain⟨A0,B,E,C⟩:=YV z h.good Q
 have J:pA X=pA D:=by
  have F:=Q 0 (by omega);have A:jA X 0=jA D 0:=F;rw[pA,pA,A]
 refine⟨i,A0.trans h.tE,B.trans h.tL,E.trans h.tN,C.trans h.tP,?_,h.goods,λn y e=>by rw[Q n e];exact h.late n y e⟩;rw[JI,C,J,B];exact h.tU
theorem Tells.still{N U:Int}(h:Tells D l N P U)(Q:Crashed D X):Tells X l N P U/\∀n:Nat,n<37->jA X n=jA D n:=by
 have A:∀n:Nat,n<37->jA X n=jA D n:=λn e=>iH h.good h.clean e _ (Q.at_ n e);exact⟨h.congr Q.good Q.clean (λn e=>A n (by omega)),A⟩
theorem dQ{N U:Int}(h:Tells D l N P U)(hN:N<2147483646)(hq:t.seq=N)(hS:NA P U t=0)(C6:nA (toldOf t)=I)(hk:k<=(commitS P U t).length)(hX:Crashed (runK D ((commitS P U t).take k)) X):
  (Tells X l N P U/\k<(commitS P U t).length)\/(Tells X (l++[toldOf t]) (N+1) (lB P U t) (cB P U t)/\(commitS P U t).length<=k+1):=by
 have r:=h.tE;have A3:=h.good;obtain⟨_,⟨B8,B9⟩,p1,p2,_,B7⟩:=XI r;obtain⟨hU,B0,a,p⟩:=VH r;rw[h.tU]at hU;rw[h.tP]at a;rw[h.tN]at p;obtain⟨_,O,hP,C2,B4⟩:=uD hS;obtain⟨r1,r2,r3⟩:=eV A3 h.clean hS hk;generalize runK D ((commitS P U t).take k)=R at *;rw[hU]at B4;have gX:=hX.good;have J:=hX.at_
 have B1:∀i j:Nat,i<24->j<=(logB t).length->1+((pA D).pos+(i:Int))%24=1+(P+(j:Int))%24->i=(GA D).2+j:=by
  intro i j A F C4;rw[a]at C4;omega
 have A7:∀j:Nat,j<=(logB t).length->1+((pA D).pos+(((GA D).2+j:Nat):Int))%24=1+(P+(j:Int))%24:=by
  intro j F;rw[a];omega
 have h0:jA X 0=jA D 0:=r2 0 (by omega) (λi _=>by show(0:Int)≠_;omega) _ (J 0 (by omega));have K:pA X=pA D:=by rw[pA,pA,h0]
 have C:MA X=0:=by
  have e1:readE X 0=0:=oH gX (n:=0) (by omega);have e2:readE D 0=0:=oH A3 (n:=0) (by omega);rw[<-r,MA,MA,K,h0,e1,e2]
 have lD:∀i:Nat,i<24->(logOf D (pA D).pos).getD i ByteArray.empty=jA D ((1+(((pA D).pos+(i:Int))%24).toNat:Nat):Int):=by
  intro i A;rw[qG _ _ _ A]
  congr 1;omega
 have lX:∀i:Nat,i<24->(logOf X (pA D).pos).getD i ByteArray.empty=jA X ((1+(((pA D).pos+(i:Int))%24).toNat:Nat):Int):=by
  intro i A;rw[qG _ _ _ A]
  congr 1;omega
 have same:∀i:Nat,i<24->(∀j:Nat,j<=(logB t).length->i≠(GA D).2+j)->(logOf D (pA D).pos).getD i ByteArray.empty=(logOf X (pA D).pos).getD i ByteArray.empty:=by
  intro i A A9;rw[lD i A,lX i A];refine(r2 _ (by omega) (λj F C4=>A9 j F (B1 i j A F (by omega))) _ (J _ (by omega))).symm
 have A0:=SR (log:=logOf D (pA D).pos) (log':=logOf X (pA D).pos) (by rw[TA,TA]) 24 0 (pA D).seq [] (by rw[TA];omega) (λi A=>same i (by have:i<(GA D).2:=A;omega) (λj _ C4=>by have:i<(GA D).2:=A;omega))
 have b:GA X=scanP (logOf X (pA D).pos) (GA D).2 N (GA D).1:=by
  rw[GA,K,A0,p];simp only[List.length_nil];show scanP _ (GA D).2 ((pA D).seq+((GA D).1.length:Int) - _) (GA D).1=_
  congr 1;omega
 have A5:l=(GA D).1:=by rw[<-h.tL,fndL,Rb r]
 have A6:(GA D).2+(eC (segsOf t)).length+1<=(logOf X (pA D).pos).length:=by rw[TA,BG];omega
 have B2:∀x∈segsOf t,tK N x:=by rw[<-hq];exact oK O
 have A4:∀n:Nat,1<=n->n<=24->jA X n=jA D n\/(∃s∈logB t,jA X n=s)\/((commitS P U t).length<=k+1/\jA X n=lastB t):=by
  intro n Y S;by_cases F:∀i:Nat,i<=(logB t).length->(n:Int)≠1+(P+(i:Int))%24
  .exact .inl (r2 n (by omega) F _ (J n (by omega)))
  .obtain⟨i,A,B⟩:∃i:Nat,i<=(logB t).length/\(n:Int)=1+(P+(i:Int))%24:=by
    refine ig λhx=>F λi A C4=>hx ⟨i,A,C4⟩
   rcases r3 with⟨C3,a1,a2⟩|⟨C3,a1,a2⟩
   .by_cases hl:i<(logB t).length
    .rcases a1 n i hl B _ (J n (by omega)) with e|e
     .exact .inl e
     .exact .inr (.inl ⟨_,xe hl,by rw[e,List.getD,Ic hl];rfl⟩)
    .have:i=(logB t).length:=by omega
     subst this;exact .inl (a2 n B _ (J n (by omega)))
   .by_cases hl:i<(logB t).length
    .exact .inr (.inl ⟨_,xe hl,by rw[a1 n i hl B _ (J n (by omega)),List.getD,Ic hl];rfl⟩)
    .have:i=(logB t).length:=by omega
     subst this;rcases a2 n B _ (J n (by omega)) with⟨_,e⟩|e
     .exact .inl e
     .exact .inr (.inr ⟨C3,e⟩)
 have m:∀n:Nat,1<=n->n<=24->NoEnd (N+1) (jA X n):=by
  intro n Y S;rcases A4 n Y S with e|⟨s,K,e⟩|⟨_,e⟩
  .rw[e];exact(h.late n Y S).mono (by omega)
  .rw[e];exact QL O _ s K
  .rw[e,<-hq];exact tW O
 have w:∀M,(∀n:Nat,1<=n->n<=24->NoEnd M (jA X n))->∀i,i<(logOf X (pA D).pos).length->NoEnd M ((logOf X (pA D).pos).getD i ByteArray.empty):=by
  intro M hM i A;rw[TA]at A;rw[lX i A];exact hM _ (by omega) (by omega)
 have d:(∀n:Nat,1<=n->n<=24->NoEnd N (jA X n))->Tells X l N P U:=by
  intro c
  have E:GA X=GA D:=by
   rw[b,scanP,td (by omega),jL (w N c) (Le _) 24 _ _ (by rw[TA];omega)]
  refine⟨hX.clean,C,by rw[fndL,Rb C,E,<-A5],by rw[fndN,Rb C,K,E];exact p.symm,by rw[<-h.tP,fndP,Rb C,K,E,fndP,Rb r],?_,h.goods,c⟩;rw[(VH C).1,E];exact hU.symm
 have L:∀j:Nat,j<=(logB t).length->∃n:Nat,1<=n/\n<25/\(n:Int)=1+(P+(j:Int))%24/\(logOf X (pA D).pos).getD ((GA D).2+j) ByteArray.empty=jA X n/\(logOf D (pA D).pos).getD ((GA D).2+j) ByteArray.empty=jA D n:=by
  intro j F;refine⟨1+(((pA D).pos+(((GA D).2+j:Nat):Int))%24).toNat,by omega,by omega,?_,lX _ (by omega),lD _ (by omega)⟩;rw[<-A7 j F];omega
 by_cases hlast:(commitS P U t).length<=k+1/\∃n:Nat,1<=n/\n<=24/\(n:Int)=1+(P+((logB t).length:Int))%24/\jA X n=lastB t
 .obtain⟨C3,nl,A2,C1,C0,B6⟩:=hlast;refine .inr ⟨?_,C3⟩;rcases r3 with⟨C5,_,_⟩|⟨_,a1,a2⟩
  .omega
  have A8:∀j:Nat,j<(logB t).length->(logOf X (pA D).pos).getD ((GA D).2+j) ByteArray.empty=(logB t).getD j ByteArray.empty:=by
   intro j F;obtain⟨n,_,z,B,eX,_⟩:=L j (by omega);rw[eX,a1 n j F B _ (J n (by omega))]
  obtain⟨n,_,z,B,eX,eD⟩:=L _ (Sb _);have B5:n=nl:=by omega
  subst B5;have hrun:=yS (N:=N) (cm:=⟨4,t.seq,0,[],[]⟩) (RL O) hq rfl (segsOf t) (logOf X (pA D).pos) (GA D).2 (gA N) B2 A6 (by rw[BG];exact A8) (by rw[BG,eX,B6];rfl);rw[<-hq,aU O,BG,hq]at hrun;have A1:FA (logOf X (pA D).pos) (N+1) ((GA D).2+(logB t).length+1) (gA (N+1))=Z:=jL (w _ m) (Le _) 24 _ _ (by rw[TA];omega)
  have E:GA X=((GA D).1++[toldOf t],(GA D).2+(logB t).length+1):=by
   rw[b,scanP,td (by omega),hrun];simp only;rw[scanP,td (by omega),A1]
  have z:=IF t (iB O).1 (iB O).2.2
  have hH:lB P U t=(P+needN t.info.length t.rev.length)%24:=by
   have Q:=hS;unfold NA at Q;split at Q
   .cases Q
   .rw[lB,Rb hS,takeH,Rb Q]
  have B3:cB P U t=U+needN t.info.length t.rev.length:=by
   have Q:=hS;unfold NA at Q;split at Q
   .cases Q
   .rw[cB,Rb hS,takeU,Rb Q]
  refine⟨hX.clean,C,by rw[fndL,Rb C,E,A5],?_,?_,?_,?_,m⟩
  .rw[fndN,Rb C,K,E];simp only[List.length_append,List.length_cons,List.length_nil];omega
  .rw[fndP,Rb C,K,E,hH,<-z,a];simp only;omega
  .rw[(VH C).1,E,B3,<-z,hU];simp only;omega
  .intro u hu;rcases Mc.1 hu with h6|h6
   .exact h.goods u h6
   .rw[Rc.1 h6];exact C6
 .have c:∀n:Nat,1<=n->n<=24->NoEnd N (jA X n):=by
   intro n Y S;rcases A4 n Y S with e|⟨s,K,e⟩|⟨C3,e⟩
   .rw[e];exact h.late n Y S
   .rw[e];exact QL O _ s K
   .by_cases B:(n:Int)=1+(P+((logB t).length:Int))%24
    .exact absurd ⟨C3,n,Y,S,B,e⟩ hlast
    ·
     by_cases F:∀i:Nat,i<=(logB t).length->(n:Int)≠1+(P+(i:Int))%24
     .rw[r2 n (by omega) F _ (J n (by omega))];exact h.late n Y S
     .obtain⟨i,A,q⟩:∃i:Nat,i<=(logB t).length/\(n:Int)=1+(P+(i:Int))%24:=by
       refine ig λhx=>F λi A C4=>hx ⟨i,A,C4⟩
      have y:i<(logB t).length:=by
       rcases Kd i (logB t).length with h7|h7
       .exact h7
       .have:i=(logB t).length:=by omega
        subst this;exact absurd q B
      rcases r3 with⟨C5,_,_⟩|⟨_,a1,_⟩
      .omega
      .rw[a1 n i y q _ (J n (by omega)),List.getD,Ic y];exact QL O _ _ (xe y)
  refine .inl ⟨d c,?_⟩;rcases Kd k (commitS P U t).length with h7|h7
  .exact h7
  .exfalso
   rcases r3 with⟨C5,_,_⟩|⟨C3,a1,a2⟩
   .omega
   .obtain⟨n,A2,z,B,eX,eD⟩:=L _ (Sb _);rcases a2 n B _ (J n (by omega)) with⟨h8,_⟩|h8
    .omega
    .exact hlast ⟨C3,n,A2,by omega,B,h8⟩
theorem fM{b:Nat}(hb:b<n)(h:f b=J s):((b:Int),s)∈asN f n:=by
 induction n with
 |zero=>omega
 |succ n ih=>
  rw[JD];by_cases e:b=n
  .subst e;refine Mc.2 (.inr ?_);simp[vC,h]
  .exact Mc.2 (.inl (ih (by omega)))
theorem RQ{N:Int}(hg:cA X=I)(hw:X.wr=[])(h0:jA X 0=encT (superMk P N))(Q:goodM (superMk P N)=0)(y:∀n:Nat,1<=n->n<=24->NoEnd N (jA X n)):Tells X [] N P 0:=by
 have B:pA X=superMk P N:=by rw[pA,h0,LG Q]
 obtain⟨_,p1,p2⟩:=KR Q
 have A:MA X=0:=by
  have D:readE X 0=0:=oH hg (n:=0) (by omega);rw[MA,D,B,h0,LG Q,Qb (by simp),Qb (by simp[superMk])]
 have C:GA X=([],0):=by
  rw[GA,B];show scanP (logOf X P) 0 N []=_;rw[scanP];split
  .have E:FA (logOf X P) N 0 (gA N)=Z:=by
    refine jL (N:=N) (λi z=>?_) (Le _) 24 0 _ (by rw[TA];omega);rw[TA]at z;rw[qG X P i z];have e:1+(P+(i:Int))%24=((1+((P+(i:Int))%24).toNat:Nat):Int):=by omega
    rw[e];exact y _ (by omega) (by omega)
   rw[E]
  .rfl
 refine⟨hw,A,?_,?_,?_,?_,(λt ht=>by cases ht),y⟩
 .rw[fndL,Rb A,C]
 .rw[fndN,Rb A,C,B];simp[superMk]
 .rw[fndP,Rb A,C,B];simp[superMk];omega
 .rw[(VH A).1,C];rfl
theorem PE{N:Int}(h:pB (newestL l) P N=0):checkS (newestL l) P N=putR (newestL l) (encT (superMk P N))/\goodM (superMk P N)=0:=by
 refine⟨by rw[checkS,Rb h];rfl,?_⟩;by_cases hx:goodM (superMk P N)=0
 .exact hx
 .rw[pB,Rb hx]at h;exact absurd h hx
theorem Tells.check{N U:Int}(h:Tells D l N P U):pB (newestL l) P N=0:=by
 have:=jU h.tE (by rw[h.tL];exact h.goods)
 rwa [h.tL,h.tN,h.tP]at this
theorem aT(Q:x∈newestL l):0<=x.1/\x.1<=11/\newestF l x.1=J x.2:=by
 obtain⟨a,b,c⟩:=gJ Q;exact⟨a,by omega,c⟩
theorem lO{N U:Int}(h:Tells D l N P U)(y:Crashed (runK D ((checkS (newestL l) P N).take k)) X):
  ((Tells X l N P U/\k<(checkS (newestL l) P N).length)\/(Tells X [] N P 0/\∀x∈newestL l,jA X (25+x.1)=x.2))/\
  ∀b:Nat,b<12->jA X ((25+b:Nat):Int)=jA D ((25+b:Nat):Int)\/newestF l b=J (jA X ((25+b:Nat):Int)):=by
 obtain⟨A3,K⟩:=PE h.check;have L:oA (encT (superMk P N))=I:=by have:=gE K;simp[oA];omega
 have B:=RH h.goods;have A:=h.good;rw[A3]at y|-;generalize hSe:encT (superMk P N)=S at *;obtain⟨r1,Q,O⟩:=EX B L A h.clean (λn hn=>iH A h.clean (by omega)) k;have A0:=SE B;have A1:(putR (newestL l) S).length<=15:=by simp[putR];omega
 refine⟨?_,λb hb=>?_⟩
 .have E:∀n:Nat,1<=n->n<=24->jA X n=jA D n:=λn h1 i=>Q n h1 (by omega) _ (y.at_ n (by omega));by_cases hc:k<(putR (newestL l) S).length/\jA X 0=jA D 0
  .refine .inl ⟨h.congr y.good y.clean (λn hn=>?_),hc.1⟩;by_cases e:n=0
   .subst e;exact hc.2
   .exact E n (by omega) hn
  .have F:jA X 0∈ways _ 0:=y.at_ 0 (by omega);refine .inr ?_;rcases O with⟨h1,i⟩|⟨h1,i⟩
   .exact absurd ⟨h1,i _ F⟩ hc
   .rcases h1 _ F with h3|h3
    .exact absurd h3 hc
    .refine⟨RQ y.good y.clean (h3.trans hSe.symm) K (λn h4 h5=>by rw[E n h4 h5];exact h.late n h4 h5),λx C=>?_⟩;have hb:=B.2.1 x C;have:=i x C _ (y.at_ (25+x.1).toNat (by omega))
     rwa [show(((25+x.1).toNat:Nat):Int)=25+x.1 from by omega]at this
 .have R:=OL (n:=25+b) (by omega) (S:=λs=>s=jA D ((25+b:Nat):Int)\/newestF l b=J s) ((putR (newestL l) S).take k) D (λs z=>fG B L s (bd z)) A (by rw[h.clean,Nc];simp;omega) (λs z=>.inl (iH A h.clean (by omega) s z)) (λs z i he=>?_)
  .exact R _ (y.at_ _ (by omega))
  .right;rcases Mc.1 (bd z) with h3|h3
   .rw[homeS]at h3;rcases Mc.1 h3 with h4|h4
    .obtain⟨x,C,rfl⟩:=Wc.1 h4;have M:25+x.1=((25+b:Nat):Int):=he;have A2:=aT C;have:x.1=(b:Int):=by omega
     rw[<-this];exact A2.2.2
    .split at h4
     .cases h4
     .rw[Rc.1 h4]at i;exact absurd rfl i
   .rcases Xc.1 h3 with rfl|h4
    .have M:(0:Int)=((25+b:Nat):Int):=he;omega
    .rw[Rc.1 h4]at i;exact absurd rfl i
theorem BQ{N U:Int}(h:Tells D l N P U):Tells (runK D (checkS (newestL l) P N)) [] N P 0/\∀b:Nat,b<12->jA (runK D (checkS (newestL l) P N)) ((25+b:Nat):Int)=(newestF l b).getD (jA D ((25+b:Nat):Int)):=by
 obtain⟨E,J⟩:=PE h.check;have C:oA (encT (superMk P N))=I:=by have:=gE J;simp[oA];omega
 have B:=RH h.goods;have A:=h.good;have A0:=SE B;have K:=(WC (putR (newestL l) (encT (superMk P N))) D (fG B C) A (by rw[h.clean];simp[putR];omega)).1
 have z:(runK D (putR (newestL l) (encT (superMk P N)))).wr=[]:=by
  have e:putR (newestL l) (encT (superMk P N))=(homeS (newestL l)++[AA 0 (encT (superMk P N))])++[flushS]:=by simp[putR]
  rw[e,yE];refine gL (WC _ D (λs i=>fG B C s ?_) A (by rw[h.clean];simp;omega)).1;rw[e];exact Mc.2 (.inl i)
 have F:=lO h (k:=(checkS (newestL l) P N).length) (X:=runK D (checkS (newestL l) P N)) (by
  rw[Lc,E]
  exact GQ K z)
 rcases F.1 with⟨_,Q⟩|⟨y,Q⟩
 .omega
 refine⟨y,λb hb=>?_⟩
 cases hn:newestF l b with
 |some s=>
  have L:((b:Int),s)∈newestL l:=by
   rw[newestL];exact fM (by omega) hn
  have:=Q _ L
  simpa using this
 |none=>
  rcases F.2 b hb with e|e
  .exact e
  .rw[hn]at e;cases e
theorem AQ(h:nA t=I):nA (toldOf t)=I:=by
 have A:=(VA t).1 h;have B:=YG h;exact bI (t:=toldOf t) A.1 A.2.1.1 rfl A.2.2.1.1 rfl A.2.2.1.2.2 ⟨λx Q=>⟨(λe=>by cases e),(B.1 x Q).2⟩,(λx Q=>by cases Q)⟩ ⟨rfl,rfl,rfl⟩
theorem OZ{l:List (Int×ByteArray)}(h:iA (blksOf l)=I)(Q:x∈l):uA x.1 l=J x.2:=by
 have u:Up (·.1) l:=(cD _ _).1 ((zB _).1 h).2;have B:=aO u x.1;have A:x∈l.filter (λy=>decide (y.1=x.1)):=Xd.2 ⟨Q,by simp⟩;rw[B]at A
 cases ht:uA x.1 l with
 |none=>rw[ht]at A;simp at A
 |some s=>
  rw[ht]at A;simp at A;rw[A]
theorem fU{l:List (Int×ByteArray)}(h:uA b l=J s):(b,s)∈l:=by
 induction l with
 |nil=>cases h
 |cons x r ih=>
  rw[uA]at h;split at h
  .rename_i e;cases h;rw[<-e];simp
  .exact Ad _ (ih h)
theorem EZ(Q:nA t=I):LE t.data:=by
 have A:=(VA t).1 Q;exact⟨FJ A.2.2.1.2.1,EI Q,(iB Q).2.1⟩
section
variable {D:Dk} {l:List Tx} {N P U:Int} {t:Tx}
theorem fb(Q:NA P U t=0):∀s∈commitS P U t,s.1≠2->∀b:Nat,b<12->s.2.1=((25+b:Nat):Int)->uA b t.data=J s.2.2:=by
 obtain⟨e,F,hP,_,hU⟩:=uD Q;have I:=(VA t).1 F;intro s E A b hb D;rw[e]at E;rcases Mc.1 E with h1|h1
 .rcases Mc.1 h1 with h1|h1
  .rcases Mc.1 h1 with h1|h1
   .rw[homeS]at h1;rcases Mc.1 h1 with h3|h3
    .obtain⟨x,y,rfl⟩:=Wc.1 h3;have B:25+x.1=((25+b:Nat):Int):=D;have:x.1=(b:Int):=by omega
     rw[<-this];exact OZ I.2.2.1.2.1 y
    .split at h3
     .cases h3
     .rw[Rc.1 h3]at A;exact absurd rfl A
   .obtain⟨i,A0,C,rfl⟩:=rH h1;rw[xD]at C;have B:1+(OB P ((logB t).length+1)).getD i 0=((25+b:Nat):Int):=D;rw[wF _ _ _ C]at B;omega
  .rw[sealF]at h1;split at h1
   .rw[Rc.1 h1]at A;exact absurd rfl A
   .cases h1
 .rcases Xc.1 h1 with rfl|h3
  .have B:1+(P+((logB t).length:Int))%24=((25+b:Nat):Int):=D;omega
  .rw[Rc.1 h3]at A;exact absurd rfl A
theorem JP(h:Tells D l N P U)(hS:NA P U t=0)(z:Crashed (runK D ((commitS P U t).take k)) X):
  (∀b:Nat,b<12->jA X ((25+b:Nat):Int)=jA D ((25+b:Nat):Int)\/uA b t.data=J (jA X ((25+b:Nat):Int)))/\
  ((commitS P U t).length<=k+1->∀b:Nat,b<12->jA X ((25+b:Nat):Int)=(uA b t.data).getD (jA D ((25+b:Nat):Int))):=by
 have F:=h.good;obtain⟨K,M⟩:=yH hS;obtain⟨e,Y,hP,_,hU⟩:=uD hS;have hi:=(VA t).1 Y
 have first:∀b:Nat,b<12->jA X ((25+b:Nat):Int)=jA D ((25+b:Nat):Int)\/uA b t.data=J (jA X ((25+b:Nat):Int)):=by
  intro b hb;have p:=OL (n:=25+b) (by omega) (S:=λs=>s=jA D ((25+b:Nat):Int)\/uA b t.data=J s) ((commitS P U t).take k) D (λs y=>K s (bd y)) F (by rw[h.clean,Nc];simp;omega) (λs y=>.inl (iH F h.clean (by omega) s y)) (λs y h2 B=>.inr (fb hS s (bd y) h2 b hb B));exact p _ (z.at_ _ (by omega))
 refine⟨first,λhk b hb=>?_⟩
 cases ht:uA b t.data with
 |none=>
  rcases first b hb with e1|e1
  .exact e1
  .rw[ht]at e1;cases e1
 |some s=>
  have c:=EZ Y;obtain⟨q,a2,a3,j⟩:=sK c F h.clean (λn hn=>iH F h.clean (by omega));have O:=fU ht;have a:=j _ O;have L:(25+(b:Int)).toNat=25+b:=by omega
  rw[L]at a;have A0:=SE c;obtain⟨rest,A⟩:∃rest,commitS P U t=homeS t.data++rest:=⟨_,by rw[e,sealA,od,od]⟩
  have A4:2<=rest.length:=by
   have:(commitS P U t).length=(homeS t.data).length+rest.length:=by rw[A,Yb]
   rw[e]at this;simp[sealA]at this;omega
  have R:(commitS P U t).take k=homeS t.data++rest.take (k - (homeS t.data).length):=by
   rw[A,Pg,zd];rw[A,Yb]at hk;omega
  have A5:rest.length<=50:=by rw[A,Yb]at M;omega
  rw[R,yE]at z
  have Q:∀C∈rest.take (k - (homeS t.data).length),C.1≠2->C.2.1≠((25+b:Nat):Int):=by
   intro C E _ B
   have A1:C∈sealA P t++sealF t++[rC P t,flushS]:=by
    rw[<-e,A];exact Mc.2 (.inr (bd E))
   have m:C∈putS (OB P ((logB t).length+1)) (logB t)++(sealF t++[rC P t,flushS]):=by
    have d:homeS t.data++rest=homeS t.data++(putS (OB P ((logB t).length+1)) (logB t)++(sealF t++[rC P t,flushS])):=by
     rw[<-A,e,sealA,od,od]
    rw[<-List.append_cancel_left d];exact bd E
   rcases Mc.1 m with h1|h1
   .obtain⟨i,A2,A6,rfl⟩:=rH h1;rw[xD]at A6;have I:1+(OB P ((logB t).length+1)).getD i 0=((25+b:Nat):Int):=B;rw[wF _ _ _ A6]at I;omega
   .rcases Mc.1 h1 with h3|h3
    .rw[sealF]at h3;split at h3
     .rename_i A3;rw[Rc.1 h3]at B;have I:(0:Int)=((25+b:Nat):Int):=B;omega
     .cases h3
    .rcases Xc.1 h3 with rfl|h5
     .have I:1+(P+((logB t).length:Int))%24=((25+b:Nat):Int):=B;omega
     .rw[Rc.1 h5]at B;have I:(0:Int)=((25+b:Nat):Int):=B;omega
  have Z:=XG (n:=25+b) (by omega) (rest.take (k - (homeS t.data).length)) (runK D (homeS t.data)) (λC E=>K C (by rw[A];exact Mc.2 (.inr (bd E)))) q (by rw[Nc];omega) a Q;exact Z _ (z.at_ _ (by omega))
theorem dZ(h:Tells D l N P U)(y:N<2147483646)(z:t.seq=N)(Q:NA P U t=0):
  Tells (runK D (commitS P U t)) (l++[toldOf t]) (N+1) (lB P U t) (cB P U t)/\∀b:Nat,b<12->jA (runK D (commitS P U t)) ((25+b:Nat):Int)=(uA b t.data).getD (jA D ((25+b:Nat):Int)):=by
 obtain⟨A,A0⟩:=yH Q;obtain⟨e,J,_,_,_⟩:=uD Q;have B:=h.good;have E:=(WC (commitS P U t) D A B (by rw[h.clean];simp;omega)).1
 have I:(runK D (commitS P U t)).wr=[]:=by
  have C:commitS P U t=(sealA P t++sealF t++[rC P t])++[flushS]:=by rw[e];simp
  rw[C,yE]
  have hl:(sealA P t++sealF t++[rC P t]).length<=50:=by
   have:(commitS P U t).length=(sealA P t++sealF t++[rC P t]).length+1:=by rw[C,Yb];rfl
   omega
  exact gL (WC _ D (λs i=>A s (by rw[C];exact Mc.2 (.inl i))) B (by rw[h.clean];simp only[List.length_nil];omega)).1
 have F:Crashed (runK D ((commitS P U t).take (commitS P U t).length)) (runK D (commitS P U t)):=by
  rw[Lc];exact GQ E I
 refine⟨?_,(JP h Q F).2 (by omega)⟩;rcases dQ h y z Q (AQ J) (Sb _) F with⟨_,h2⟩|⟨h1,_⟩
 .omega
 .exact h1
end
theorem Ca(l:List Tx)(b:Int):newestF (l.map toldOf) b=newestF l b:=by
 unfold newestF;rw[List.foldl_map];rfl
theorem CE(l:List Tx):newestL (l.map toldOf)=newestL l:=by
 rw[newestL,newestL];exact GO λj _=>Ca l j
def xH (t:Tx):Bool:=uC t|| !kC t
structure Pow (j:Jn):Prop where
 up:j.down=false
 good:nA j.now=true
 seq:j.now.seq<=j.acts+1
 fL:j.fL=[]
 fN:j.fN=0
 room:xH j.now=true->RA (jB j.now)<=24 - j.ru
structure Dn (j:Jn)(N:Int):Prop where
 off:j.down=true
 now:j.now=gA 0
 sealed:j.sealed=gA 0
 done:j.done=[]
 ru:j.ru=0
 rh:j.rh=0
 last0:0<=j.last
 lo:j.last+1<=N
 hi:N<=j.last+2
 seq:N<=j.acts+1
inductive Md (j:Jn)(D:Dk):Prop
 |idle (p:Pow j) (hs:j.steps=[]) (hz:j.sealed=gA 0) (hD:j.disk=D) (ht:Tells D (j.done.map toldOf) (j.last+1) j.rh j.ru) (hq:j.now.seq=j.last+1)
 |commit (P U:Int) (k:Nat) (p:Pow j) (hw:j.work=6) (hk:k<(commitS P U j.sealed).length) (hs:j.steps=(commitS P U j.sealed).drop k) (hD:j.disk=runK D ((commitS P U j.sealed).take k)) (ht:Tells D (j.done.map toldOf) (j.last+1) P U)
   (he:NA P U j.sealed=0) (hse:j.sealed.seq=j.last+1) (hrh:j.rh=lB P U j.sealed) (hru:j.ru=cB P U j.sealed) (hq:j.now.seq=j.last+2) (hN:j.last+1<2147483646)
 |check (k:Nat) (p:Pow j) (hw:j.work=7) (hz:j.sealed=gA 0) (hk:k<(checkS (newestL j.done) j.rh (j.last+1)).length) (hs:j.steps=(checkS (newestL j.done) j.rh (j.last+1)).drop k) (hD:j.disk=runK D ((checkS (newestL j.done) j.rh (j.last+1)).take k)) (ht:Tells D (j.done.map toldOf) (j.last+1) j.rh j.ru) (hq:j.now.seq=j.last+1)
 |off (l:List Tx) (N P U:Int) (p:Dn j N) (hs:j.steps=[]) (hf:j.fL=[]/\j.fN=0) (hD:j.disk=D) (ht:Tells D l N P U)
 |back (U:Int) (k:Nat) (p:Dn j j.fN) (hw:j.work=11) (hk:k<(checkS (newestL j.fL) j.fP j.fN).length) (hs:j.steps=(checkS (newestL j.fL) j.fP j.fN).drop k) (hD:j.disk=runK D ((checkS (newestL j.fL) j.fP j.fN).take k)) (ht:Tells D j.fL j.fN j.fP U)
def CC (D:Dk)(b:Nat):ByteArray:=(newestF (fndL D) b).getD (jA D ((25+b:Nat):Int))
inductive Left (j:Jn)(D X:Dk):Prop
 |all (hN:fndN X=fndN D) (hL:fndL X=fndL D\/fndL X=[]) (he:∀b:Nat,b<12->CC X b=CC D b) (hc:j.down=false->j.sealed=gA 0)
 |without (hu:j.down=false) (hse:j.sealed.seq=j.last+1) (hN:fndN X=fndN D) (hL:fndL X=fndL D) (hh:∀b:Nat,b<12->jA X ((25+b:Nat):Int)=jA D ((25+b:Nat):Int)\/uA b j.sealed.data=some (jA X ((25+b:Nat):Int)))
 |whole (hu:j.down=false) (hse:j.sealed.seq=j.last+1) (hN:fndN X=fndN D+1) (hL:fndL X=fndL D++[toldOf j.sealed]) (hh:∀b:Nat,b<12->jA X ((25+b:Nat):Int)=(uA b j.sealed.data).getD (jA D ((25+b:Nat):Int)))
inductive Trans (j:Jn)(D:Dk)(a:Ac):Jn->Rp->Dk->Prop
 |plain {j':Jn} {r:Rp} (m:Move j a j' r) (hp:r.code=0->a.kind≠10/\(a.kind=8->∃s q,j.steps=s::q/\q≠[]/\r=eA 0/\j'={j with disk:=wA j.disk s,steps:=q})):Trans j D a j' r D
 |through (Y:Dk) (hk:a.kind=8) (hu:j.down=false) (hse:j.sealed.seq=j.last+1) (hg:nA j.sealed=true) (hN:fndN Y=fndN D+1) (hL:fndL Y=fndL D++[toldOf j.sealed]) (hh:∀b:Nat,b<12->jA Y ((25+b:Nat):Int)=(uA b j.sealed.data).getD (jA D ((25+b:Nat):Int))):
   Trans j D a {j with disk:=Y,steps:=[],sealed:=gA 0,done:=j.done++[j.sealed],last:=j.sealed.seq} ⟨0,j.sealed.seq,⟨#[]⟩⟩ Y
 |home (Y:Dk) (hk:a.kind=8) (hu:j.down=false) (hz:j.sealed=gA 0) (hN:fndN Y=fndN D) (hL:fndL Y=[]) (hh:∀b:Nat,b<12->jA Y ((25+b:Nat):Int)=CC D b):
   Trans j D a {j with disk:=Y,steps:=[],done:=[],ru:=0} (eA 0) Y
 |on (Y:Dk) (hk:a.kind=8) (hd:j.down=true) (hfN:j.fN=fndN D) (hfL:j.fL=fndL D) (hN:fndN Y=fndN D) (hL:fndL Y=[]) (hh:∀b:Nat,b<12->jA Y ((25+b:Nat):Int)=CC D b):
   Trans j D a (cF {j with disk:=Y,steps:=[]}) (eA 0) Y
 |crash (hk:a.kind=10) (hn:0<=a.n) (X:Dk) (hX:X=crashK j.disk a.n) (left:Left j D X):
   Trans j D a ⟨j.acts,X,0,0,j.last,true,λ_=>0,λ_=>0,gA 0,gA 0,[],[],0,0,0,[]⟩ (eA 0) X
section
variable {j:Jn} {D:Dk}
theorem ES{s:St}(e:zC s)(Q:cA d=I)(i:d.wr.length<200):dC d s=0:=by
 rw[dC];split
 .rw[SD,Rb Q]
 .rename_i B;obtain⟨A,C⟩:=e.resolve_left B;exact jE Q A C i
theorem Md.disk(h:Md j D):cA j.disk=I:=by
 cases h with
 |idle p Q hz hD ht hq=>rw[hD];exact ht.good
 |commit P U k p hw hk Q hD ht he hse hrh hru hq hN=>
  rw[hD];obtain⟨e,A0⟩:=yH he;exact(WC _ D (λs Q=>e s (bd Q)) ht.good (by rw[ht.clean,Nc];simp;omega)).1
 |check k p hw hz hk Q hD ht hq=>
  rw[hD];have J:=ht.check;rw[CE]at J;obtain⟨B,C⟩:=PE J;have E:oA (encT (superMk j.rh (j.last+1)))=I:=by have:=gE C;simp[oA];omega
  have A:LE (newestL j.done):=by have:=RH ht.goods;rwa [CE]at this
  have F:=SE A;rw[B];exact(WC _ D (λs Q=>fG A E s (bd Q)) ht.good (by rw[ht.clean,Nc];simp[putR];omega)).1
 |off l N P U p Q hf hD ht=>rw[hD];exact ht.good
 |back U k p hw hk Q hD ht=>
  rw[hD];obtain⟨B,C⟩:=PE ht.check;have E:oA (encT (superMk j.fP j.fN))=I:=by have:=gE C;simp[oA];omega
  have A:=RH ht.goods;have F:=SE A;rw[B];exact(WC _ D (λs Q=>fG A E s (bd Q)) ht.good (by rw[ht.clean,Nc];simp[putR];omega)).1
theorem Md.last0(h:Md j D):0<=j.last:=by
 cases h with
 |idle p hs hz hD ht hq=>have:=ht.range.1.1;omega
 |commit P U k p hw hk hs hD ht he hse hrh hru hq hN=>have:=ht.range.1.1;omega
 |check k p hw hz hk hs hD ht hq=>have:=ht.range.1.1;omega
 |off l N P U p hs hf hD ht=>exact p.last0
 |back U k p hw hk hs hD ht=>exact p.last0
theorem Md.bump(h:Md j D){x:Int}(hx:j.acts<=x):Md {j with acts:=x} D:=by
 have A:Pow j->Pow {j with acts:=x}:=λp=>⟨p.up,p.good,by have:=p.seq;show j.now.seq<=x+1;omega,p.fL,p.fN,p.room⟩
 have B:∀N,Dn j N->Dn {j with acts:=x} N:=λN p=>⟨p.off,p.now,p.sealed,p.done,p.ru,p.rh,p.last0,p.lo,p.hi,by have:=p.seq;show N<=x+1;omega⟩
 cases h with
 |idle p hs hz hD ht hq=>exact .idle (A p) hs hz hD ht hq
 |commit P U k p hw hk hs hD ht he hse hrh hru hq hN=>exact .commit P U k (A p) hw hk hs hD ht he hse hrh hru hq hN
 |check k p hw hz hk hs hD ht hq=>exact .check k (A p) hw hz hk hs hD ht hq
 |off l N P U p hs hf hD ht=>exact .off l N P U (B _ p) hs hf hD ht
 |back U k p hw hk hs hD ht=>exact .back U k (B _ p) hw hk hs hD ht
theorem Md.now(h:Md j D)(Q:j.down=O)(e:t.seq=j.now.seq)(y:nA t=I)(i:xH t=I->RA (jB t)<=24 - j.ru)(f g:Nat->Int):Md {j with role:=f,freed:=g,now:=t} D:=by
 have A:Pow j->Pow {j with role:=f,freed:=g,now:=t}:=λp=>⟨p.up,y,by have:=p.seq;show t.seq<=j.acts+1;omega,p.fL,p.fN,i⟩
 cases h with
 |idle p hs hz hD ht hq2=>exact .idle (A p) hs hz hD ht (e.trans hq2)
 |commit P U k p hw hk hs hD ht he hse hrh hru hq2 hN=>exact .commit P U k (A p) hw hk hs hD ht he hse hrh hru (e.trans hq2) hN
 |check k p hw hz hk hs hD ht hq2=>exact .check k (A p) hw hz hk hs hD ht (e.trans hq2)
 |off l N P U p hs hf hD ht=>rw[p.off]at Q;cases Q
 |back U k p hw hk hs hD ht=>rw[p.off]at Q;cases Q
theorem Md.pow(h:Md j D)(Q:j.down=O):Pow j:=by
 cases h with
 |idle p hs hz hD ht hq2=>exact p
 |commit P U k p hw hk hs hD ht he hse hrh hru hq2 hN=>exact p
 |check k p hw hz hk hs hD ht hq2=>exact p
 |off l N P U p hs hf hD ht=>rw[p.off]at Q;cases Q
 |back U k p hw hk hs hD ht=>rw[p.off]at Q;cases Q
theorem rG{l:List St}{s:St}{r:List St}(h:s::r=l.drop k):l[k]?=J s/\r=l.drop (k+1)/\k<l.length:=by
 have A:k<l.length:=by
  rcases Kd k l.length with h1|h1
  .exact h1
  .rw[Gd h1]at h;cases h
 rw[me A]at h
 injection h with h1 h2
 exact⟨by rw[h1];exact Ic A,h2,A⟩
theorem Md.step(h:Md j D){s:St}{r:List St}(Q:j.steps=s::r)(i:r≠[]):Md {j with disk:=wA j.disk s,steps:=r} D:=by
 have C:Pow j->Pow {j with disk:=wA j.disk s,steps:=r}:=λp=>⟨p.up,p.good,p.seq,p.fL,p.fN,p.room⟩
 have more:∀(S:List St) (k:Nat),s::r=S.drop k->k+1<S.length:=by
  intro S k e;obtain⟨_,A,_⟩:=rG e;rcases Kd (k+1) S.length with h1|h1
  .exact h1
  .rw[Gd h1]at A;exact absurd A i
 cases h with
 |idle p hs2 hz hD ht hq=>rw[hs2]at Q;cases Q
 |commit P U k p hw hk hs2 hD ht he hse hrh hru hq hN=>
  rw[Q]at hs2;obtain⟨B,A,_⟩:=rG hs2;exact .commit P U (k+1) (C p) hw (more _ _ hs2) A (by show wA j.disk s=_;rw[jJ B,hD]) ht he hse hrh hru hq hN
 |check k p hw hz hk hs2 hD ht hq=>
  rw[Q]at hs2;obtain⟨B,A,_⟩:=rG hs2;exact .check (k+1) (C p) hw hz (more _ _ hs2) A (by show wA j.disk s=_;rw[jJ B,hD]) ht hq
 |off l N P U p hs2 hf hD ht=>rw[hs2]at Q;cases Q
 |back U k p hw hk hs2 hD ht=>
  rw[Q]at hs2;obtain⟨B,A,_⟩:=rG hs2;exact .back U (k+1) ⟨p.off,p.now,p.sealed,p.done,p.ru,p.rh,p.last0,p.lo,p.hi,p.seq⟩ hw (more _ _ hs2) A (by show wA j.disk s=_;rw[jJ B,hD]) ht
theorem Md.crash(h:Md j D)(Q:0<=q):∃l N P U,Tells (crashK j.disk q) l N P U/\j.last+1<=N/\N<=j.last+2/\N<=j.acts+1/\Left j D (crashK j.disk q):=by
 obtain⟨_,C⟩:=qU h.disk Q;generalize crashK j.disk q=X at *
 have F:∀{l:List Tx} {N P U:Int} {D X:Dk},Tells D l N P U->Tells X l N P U->(∀n:Nat,n<37->jA X n=jA D n)->∀b:Nat,b<12->CC X b=CC D b:=by
  intro l N P U D X A B E b hb;rw[CC,CC,A.tL,B.tL,E (25+b) (by omega)]
 have I:∀{l:List Tx} {N P U:Int} {k:Nat} {D X:Dk},Tells D l N P U->Crashed (runK D ((checkS (newestL l) P N).take k)) X->∃K J,Tells X K N P J/\(fndL X=fndL D\/fndL X=[])/\∀b:Nat,b<12->CC X b=CC D b:=by
  intro l N P U k D X A B;obtain⟨c1,c2⟩:=lO A B;rcases c1 with⟨c1,_⟩|⟨c1,c3⟩
  .refine⟨l,U,c1,.inl (c1.tL.trans A.tL.symm),λb hb=>?_⟩;rw[CC,CC,c1.tL,A.tL];rcases c2 b hb with e|e
   .rw[e]
   .rw[e];rfl
  .refine⟨[],0,c1,.inr c1.tL,λb hb=>?_⟩;rw[CC,CC,c1.tL,A.tL];show jA X ((25+b:Nat):Int)=_
   cases hn:newestF l b with
   |some s=>
    have:=c3 _ (fM (n:=12) (by omega) hn)
    simpa using this
   |none=>
    rcases c2 b hb with e|e
    .exact e
    .rw[hn]at e;cases e
 cases h with
 |idle p hs hz hD ht hq=>
  rw[hD]at C;obtain⟨A,B⟩:=ht.still C;have:=p.seq;exact⟨_,_,_,_,A,by omega,by omega,by omega,.all (A.tN.trans ht.tN.symm) (.inl (A.tL.trans ht.tL.symm)) (F ht A B) (λ_=>hz)⟩
 |commit P U k p hw hk hs hD ht he hse hrh hru hq hN=>
  rw[hD]at C;have M:=(uD he).2.1;have L:=JP ht he C;have:=p.seq;rcases dQ ht hN hse he (AQ M) (Me hk) C with⟨A,_⟩|⟨A,B⟩
  .exact⟨_,_,_,_,A,by omega,by omega,by omega,.without p.up hse (A.tN.trans ht.tN.symm) (A.tL.trans ht.tL.symm) L.1⟩
  .exact⟨_,_,_,_,A,by omega,by omega,by omega,.whole p.up hse (by rw[A.tN,ht.tN]) (by rw[A.tL,ht.tL]) (L.2 B)⟩
 |check k p hw hz hk hs hD ht hq=>
  rw[hD,<-CE]at C;obtain⟨K,J,A,B,E⟩:=I ht C;have:=p.seq;exact⟨_,_,_,_,A,by omega,by omega,by omega,.all (A.tN.trans ht.tN.symm) B E (λ_=>hz)⟩
 |off l N P U p hs hf hD ht=>
  rw[hD]at C;obtain⟨A,B⟩:=ht.still C;exact⟨_,_,_,_,A,p.lo,p.hi,p.seq,.all (A.tN.trans ht.tN.symm) (.inl (A.tL.trans ht.tL.symm)) (F ht A B) (λ_=>p.sealed)⟩
 |back U k p hw hk hs hD ht=>
  rw[hD]at C;obtain⟨K,J,A,B,E⟩:=I ht C;exact⟨_,_,_,_,A,p.lo,p.hi,p.seq,.all (A.tN.trans ht.tN.symm) B E (λ_=>p.sealed)⟩
end
section
variable (t:Tx) (h b n free:Int) (s:ByteArray)
theorem Da:wC t 0 h b n free s=beginE t h n free:=by rw[wC,Rb rfl]
theorem YZ:cC t 0 h b n free s=beginT t h n free:=by rw[cC,Rb rfl]
theorem nW:wC t 1 h b n free s=changeE t h b s:=by rw[wC,Qb (by decide),Rb rfl]
theorem nX:cC t 1 h b n free s=ZB t h b s:=by rw[cC,Qb (by decide),Rb rfl]
theorem cR:wC t 2 h b n free s=fillE t h b s:=by rw[wC,Qb (by decide),Qb (by decide),Rb rfl]
theorem oR:cC t 2 h b n free s=xC t h b s:=by rw[cC,Qb (by decide),Qb (by decide),Rb rfl]
theorem uY:wC t 3 h b n free s=revokeE t h b:=by rw[wC,Qb (by decide),Qb (by decide),Qb (by decide),Rb rfl]
theorem Va:cC t 3 h b n free s=GB t h b:=by rw[cC,Qb (by decide),Qb (by decide),Qb (by decide),Rb rfl]
theorem PY:wC t 4 h b n free s=stopE t h:=by rw[wC,Qb (by decide),Qb (by decide),Qb (by decide),Qb (by decide)]
theorem IX:cC t 4 h b n free s=stopT t h:=by rw[cC,Qb (by decide),Qb (by decide),Qb (by decide),Qb (by decide)]
end
section
variable {j:Jn} {D:Dk} {a:Ac}
theorem PT{k n free:Int}:(cC t k h b n free s).seq=t.seq:=by
 have A:∀(h:Int) (x:Hd),(QB t h x).seq=t.seq:=λh x=>by unfold QB;split;rfl;split<;>rfl
 unfold cC;split
 .rw[beginT];split;exact A _ _;rfl
 split
 .rw[ZB];split;exact mJ t h b;rfl
 split
 .rw[xC];split<;>rfl
 split
 .rw[GB];split;exact mJ t h b;rfl
 .rw[stopT];split;exact A _ _;rfl
theorem Md.order(h:Md j D)(e:j.down=O){k hh n:Int}(Q:wC j.now k hh b n (24 - j.ru) s=0)(f g:Nat->Int):Md {j with role:=f,freed:=g,now:=cC j.now k hh b n (24 - j.ru) s} D:=by
 have p:=h.pow e;obtain⟨E,J,F⟩:=AY (k:=k) (h:=hh) (b:=b) (n:=n) (free:=24 - j.ru) (s:=s) p.good;refine h.now e PT E (λ_=>?_) f g;by_cases hk:k=0
 .exact F Q hk
 .have B:xH j.now=I:=by
   have A:(IA j.now hh).on=I:=by
    unfold wC at Q;rw[Qb hk]at Q;split at Q
    .exact(vD (IL Q).1).2.2.1
    split at Q
    .exact(vD (dP Q).1).2.2.1
    split at Q
    .exact(vD (kK Q).1).2.2.1
    .unfold stopE at Q;split at Q
     .cases Q
     .split at Q
      .cases Q
      .rename_i C;simp only[not_or,Bool.not_eq_false]at C;exact C.2.2
   have i:uC j.now=I:=by
    unfold IA at A;unfold uC;split at A
    .simp[A]
    .split at A<;>simp[A]
   rw[xH,i];rfl
  exact Int.le_trans (aN (J hk)) (p.room B)
theorem bK(h1:1<=q)(h2:q<=2147483647):nA (gA q)=I:=by
 have B:decide (1<=q)=I:=by simpa using h1
 have A:decide (q<=2147483647)=I:=by simpa using h2
 show nA ⟨q,[],[],[],⟨O,0⟩,⟨O,0⟩,⟨O,0⟩⟩=I;unfold nA;simp only[B,A];rfl
theorem Md.move{r:Rp}(h:Md j D)(m:Move j a j' r)(hc:a.kind=6->j.steps=[]->j.now.seq<=j.acts):∃D',Md j' D'/\Trans j D a j' r D':=by
 have B:∀{j':Jn} {r:Rp},Move j a j' r->a.kind≠10->a.kind≠8->Md j' D->∃D',Md j' D'/\Trans j D a j' r D':=λm z h8 y=>⟨D,y,.plain m λ_=>⟨z,λe=>absurd e h8⟩⟩
 cases m with
 |no e he=>exact⟨D,h,.plain (.no e he) λe0=>absurd e0 he⟩
 |read hd hk hb A=>exact B (.read hd hk hb A) (by omega) (by omega) h
 |begin hd hk he=>exact B (.begin hd hk he) (by omega) (by omega) (by have C:=h.order hd (k:=0) (hh:=a.h) (b:=0) (n:=a.n) (s:=⟨#[]⟩) (by rw[Da];exact he) j.role j.freed;rw[YZ]at C;exact C)
 |stop hd hk he=>exact B (.stop hd hk he) (by omega) (by omega) (by have C:=h.order hd (k:=4) (hh:=a.h) (b:=0) (n:=0) (s:=⟨#[]⟩) (by rw[PY];exact he) j.role j.freed;rw[IX]at C;exact C)
 |write hd hk he E=>exact B (.write hd hk he E) (by omega) (by omega) (by have C:=h.order hd (k:=1) (hh:=a.h) (b:=a.b) (n:=0) (s:=fitT a.text) (by rw[nW];exact he) (ZA j.role a.b 1) j.freed;rw[nX]at C;exact C)
 |fill hd hk he E hf=>exact B (.fill hd hk he E hf) (by omega) (by omega) (by have C:=h.order hd (k:=2) (hh:=a.h) (b:=a.b) (n:=0) (s:=fitT a.text) (by rw[cR];exact he) (ZA j.role a.b 2) j.freed;rw[oR]at C;exact C)
 |revoke hd hk he E=>exact B (.revoke hd hk he E) (by omega) (by omega) (by have C:=h.order hd (k:=3) (hh:=a.h) (b:=a.b) (n:=0) (s:=⟨#[]⟩) (by rw[uY];exact he) (ZA j.role a.b 0) (ZA j.freed a.b (GB j.now a.h a.b).seq);rw[Va]at C;exact C)
 |commit hd hk hs ho y hq he=>
  refine B (.commit hd hk hs ho y hq he) (by omega) (by omega) ?_
  cases h with
  |idle p hs2 hz hD A hq2=>
   obtain⟨e,Y,_⟩:=uD he;have I:0<(commitS j.rh j.ru j.now).length:=by rw[e];simp only[List.length_append,List.length_cons,List.length_nil];omega
   have C:=A.range.1.1;have X:=hc hk hs;refine .commit j.rh j.ru 0 ⟨p.up,bK (by omega) (by omega),?_,p.fL,p.fN,λhb=>by cases hb⟩ rfl I rfl hD A he hq2 rfl rfl ?_ ?_
   .show j.now.seq+1<=j.acts+1;omega
   .show j.now.seq+1=j.last+2;omega
   .show j.last+1<2147483646;omega
  |commit P U k p hw hk2 hs2 hD A he2 hse hrh hru hq2 hN=>
   rw[hs]at hs2;have:=congrArg List.length hs2;rw[Uc]at this;simp at this;omega
  |check k p hw hz hk2 hs2 hD A hq2=>
   rw[hs]at hs2;have:=congrArg List.length hs2;rw[Uc]at this;simp at this;omega
  |off l N P U p hs2 hf hD A=>rw[p.off]at hd;cases hd
  |back U k p hw hk2 hs2 hD A=>rw[p.off]at hd;cases hd
 |check hd hk hs O he=>
  refine B (.check hd hk hs O he) (by omega) (by omega) ?_
  cases h with
  |idle p hs2 hz hD A hq2=>
   have I:0<(checkS (newestL j.done) j.rh (j.last+1)).length:=by rw[(PE he).1];simp[putR]
   exact .check 0 ⟨p.up,p.good,p.seq,p.fL,p.fN,p.room⟩ rfl hz I rfl hD A hq2
  |commit P U k p hw hk2 hs2 hD A he2 hse hrh hru hq2 hN=>
   rw[hs]at hs2;have:=congrArg List.length hs2;rw[Uc]at this;simp at this;omega
  |check k p hw hz hk2 hs2 hD A hq2=>
   rw[hs]at hs2;have:=congrArg List.length hs2;rw[Uc]at this;simp at this;omega
  |off l N P U p hs2 hf hD A=>rw[p.off]at hd;cases hd
  |back U k p hw hk2 hs2 hD A=>rw[p.off]at hd;cases hd
 |step hk s q hs he E=>exact⟨D,h.step hs E,.plain (.step hk s q hs he E) λ_=>⟨by omega,λ_=>⟨s,q,hs,E,rfl,rfl⟩⟩⟩
 |last hk s hs he=>
  have M:∀(S:List St) (k:Nat),[s]=S.drop k->wA (runK D (S.take k)) s=runK D S:=by
   intro S k e;obtain⟨d,i,e3⟩:=rG e;rw[<-jJ d]
   have:S.length<=k+1:=by
    have:=congrArg List.length i;rw[Uc]at this;simp at this;omega
   rw[zd this]
  cases h with
  |idle p hs2 hz hD A hq2=>rw[hs2]at hs;cases hs
  |commit P U k p hw hk2 hs2 hD A he2 hse hrh hru hq2 hN=>
   rw[hs]at hs2;have K:wA j.disk s=runK D (commitS P U j.sealed):=by rw[hD];exact M _ _ hs2
   obtain⟨F,L⟩:=dZ A hN hse he2;have Y:=(uD he2).2.1;refine⟨runK D (commitS P U j.sealed),?_,?_⟩
   .rw[finishJ,Rb hw,K];refine .idle ⟨p.up,p.good,p.seq,p.fL,p.fN,p.room⟩ rfl rfl rfl ?_ ?_
    .show Tells _ ((j.done++[j.sealed]).map toldOf) (j.sealed.seq+1) j.rh j.ru;rw[Ed,hrh,hru,hse];exact F
    .show j.now.seq=j.sealed.seq+1;omega
   .rw[finishJ,Rb hw,K];exact .through _ hk p.up hse Y (by rw[F.tN,A.tN]) (by rw[F.tL,A.tL]) L
  |check k p hw hz hk2 hs2 hD A hq2=>
   rw[hs]at hs2;have K:wA j.disk s=runK D (checkS (newestL j.done) j.rh (j.last+1)):=by rw[hD];exact M _ _ hs2
   obtain⟨F,L⟩:=BQ A;rw[CE]at F L;have J:¬j.work=6:=by omega
   refine⟨runK D (checkS (newestL j.done) j.rh (j.last+1)),?_,?_⟩
   .rw[finishJ,Qb J,Rb hw,K];refine .idle ⟨p.up,p.good,p.seq,p.fL,p.fN,λhb=>?_⟩ rfl hz rfl F hq2;have:=p.room hb;have h5:=A.range.2.2.1;show RA (jB j.now)<=24 - 0;omega
   .rw[finishJ,Qb J,Rb hw,K];exact .home _ hk p.up hz (by rw[F.tN,A.tN]) F.tL (λb hb=>by rw[L b hb,CC,A.tL])
  |off l N P U p hs2 hf hD A=>rw[hs2]at hs;cases hs
  |back U k p hw hk2 hs2 hD A=>
   rw[hs]at hs2;have K:wA j.disk s=runK D (checkS (newestL j.fL) j.fP j.fN):=by rw[hD];exact M _ _ hs2
   obtain⟨F,L⟩:=BQ A;have J:¬j.work=6:=by omega
   have Q:¬j.work=7:=by omega
   have E:=A.range;refine⟨runK D (checkS (newestL j.fL) j.fP j.fN),?_,?_⟩
   .rw[finishJ,Qb J,Qb Q,Rb hw,K];have R:=p.seq;refine .idle ⟨rfl,bK E.1.1 E.1.2,R,rfl,rfl,λhb=>by cases hb⟩ rfl rfl rfl ?_ ?_
    .show Tells _ [] (j.fN - 1+1) j.fP 0;rw[show j.fN - 1+1=j.fN from by omega];exact F
    .show j.fN=j.fN - 1+1;omega
   .rw[finishJ,Qb J,Qb Q,Rb hw,K];exact .on _ hk p.off A.tN.symm A.tL.symm (by rw[F.tN,A.tN]) F.tL (λb hb=>by rw[L b hb,CC,A.tL])
 |crash hk he=>
  have O:0<=a.n:=by
   unfold crashE at he;split at he
   .rename_i Z;simp only[Bool.and_eq_true,decide_eq_true_eq]at Z;exact Z.2
   .cases he
  obtain⟨l,N,P,U,A,C,c,X,left⟩:=h.crash O;exact⟨_,.off l N P U ⟨rfl,rfl,rfl,rfl,rfl,rfl,h.last0,C,c,X⟩ rfl ⟨rfl,rfl⟩ rfl A,.crash hk O _ rfl left⟩
 |back hk hd hs hE hc2=>
  refine B (.back hk hd hs hE hc2) (by omega) (by omega) ?_
  cases h with
  |idle p hs2 hz hD A hq2=>rw[p.up]at hd;cases hd
  |commit P U k p hw hk2 hs2 hD A he2 hse hrh hru hq2 hN=>rw[p.up]at hd;cases hd
  |check k p hw hz hk2 hs2 hD A hq2=>rw[p.up]at hd;cases hd
  |off l N P U p hs2 hf hD A=>
   rw[<-hD]at A;have I:0<(checkS (newestL (fndL j.disk)) (fndP j.disk) (fndN j.disk)).length:=by rw[(PE hc2).1];simp[putR]
   refine .back U 0 ?_ rfl I rfl hD ?_
   .show Dn _ (fndN j.disk);rw[A.tN];exact⟨p.off,p.now,p.sealed,p.done,p.ru,p.rh,p.last0,p.lo,p.hi,p.seq⟩
   .show Tells D (fndL j.disk) (fndN j.disk) (fndP j.disk) U;rw[A.tL,A.tN,A.tP,<-hD];exact A
  |back U k p hw hk2 hs2 hD A=>
   rw[hs]at hs2;have:=congrArg List.length hs2;rw[Uc]at this;simp at this;omega
end
theorem wU:EA (fitT ⟨#[]⟩)=(yC,1):=nK (by kernel_rfl)
structure Ready (j:Jn):Prop where
 done:j.done.length<=900
 found:j.fL.length<=maxLen
 next:IntKind.i64.wrap (j.fN - 1)=j.fN - 1
 seq:IntKind.i64.wrap (j.now.seq+1)=j.now.seq+1
 last:IntKind.i64.wrap (j.last+1)=j.last+1
 info:j.now.info.length*24<=140737488355328
 data:j.now.data.length*24<=140737488355328
 few:j.down=true->j.steps=[]->∀t∈fndL j.disk,Few t
 used0:0<=j.ru
 used1:j.ru<=24
 acts0:0<=j.acts
 acts1:j.acts<=400
theorem aL:goodM (superMk 0 1)=0:=by kernel_rfl
def aD:Dk:=⟨encT (superMk 0 1)::List.replicate 36 (fitT ⟨#[]⟩),[]⟩
theorem VU:XE=gB aD 0 1:=rfl
structure RJ (j:Jn):Prop where
 a0:0<=j.acts
 a1:j.acts<=400
 good:j.down=false->nA j.now=true
 u0:0<=j.ru
 u1:j.ru<=24
 seq:IntKind.i64.wrap (j.now.seq+1)=j.now.seq+1
 last:IntKind.i64.wrap (j.last+1)=j.last+1
 disk:cA j.disk=true
 step:(∀s r,j.steps=s::r->dC j.disk s=0)/\(j.steps≠[]->j.work=6\/j.work=7\/j.work=11)/\j.done.length<=900/\j.fL.length<=900/\IntKind.i64.wrap (j.fN - 1)=j.fN - 1/\∀t∈j.fL,∀b,tA t.rev b=true->(uA b t.info).isSome=false
 commit:j.steps=[]->j.down=false->uC j.now=false->kC j.now=false->j.now.seq<=2147483645->NA j.rh j.ru j.now=0/\¬commitS j.rh j.ru j.now=[]
 doc:asN (docF j.done) 12=newestL j.done
 check:j.steps=[]->j.down=false->¬j.done=[]->pB (newestL j.done) j.rh (j.last+1)=0/\¬checkS (newestL j.done) j.rh (j.last+1)=[]/\asN (docF j.done) 12=newestL j.done
 back:j.steps=[]->j.down=true->MA j.disk=0/\pB (newestL (fndL j.disk)) (fndP j.disk) (fndN j.disk)=0/\¬checkS (newestL (fndL j.disk)) (fndP j.disk) (fndN j.disk)=[]/\asN (docF (fndL j.disk)) 12=newestL (fndL j.disk)
theorem Move.acts{a:Ac}{r:Rp}(m:Move j a j' r):j'.acts=j.acts:=by
 cases m with
 |last hk s hs he=>
  rw[finishJ];split
  .rfl
  split
  .rfl
  split
  .rfl
  .rfl
 |_=>rfl
theorem eb(h:Md j D)(a:Ac)(h0:0<=j.acts)(h1:j.acts<=400):
  (400<=j.acts/\doJ j a=(j,eA 11))\/(j.acts<400/\(doJ j a).1.acts=j.acts+1/\∃D',Md (doJ j a).1 D'/\Trans {j with acts:=j.acts+1} D a (doJ j a).1 (doJ j a).2 D'):=by
 by_cases hf:400<=j.acts
 .exact .inl ⟨hf,by rw[doJ,Rb hf]⟩
 .have e:doJ j a=MC {j with acts:=j.acts+1} a:=by rw[doJ,Qb hf]
  have m:=oZ {j with acts:=j.acts+1} a;rw[e];refine .inr ⟨by omega,m.acts,(h.bump (x:=j.acts+1) (by omega)).move m (λi Q=>?_)⟩;show j.now.seq<=j.acts+1
  cases h with
  |idle p Q hz hD ht hq=>exact p.seq
  |commit P U k p hw i Q hD ht he hse hrh hru hq hN=>exact p.seq
  |check k p hw hz i Q hD ht hq=>exact p.seq
  |off l N P U p Q hf hD ht=>rw[p.now];show(0:Int)<=_;omega
  |back U k p hw i Q hD ht=>rw[p.now];show(0:Int)<=_;omega
theorem LY:Tells aD [] 1 0 0:=by
 have A:cA aD=I:=by kernel_rfl
 refine RQ A rfl (by kernel_rfl) aL (λn h1 h2=>?_)
 have C:jA aD n=fitT ⟨#[]⟩:=by
  rw[aD,SH A (by omega)];obtain⟨m,rfl⟩:∃m,n=m+1:=⟨n - 1,by omega⟩;rw[Yd,List.getD,jg,Rb (by omega)];rfl
 rw[C];intro B;rw[wU]at B;cases B
theorem zV:Md XE aD:=.idle ⟨rfl,bK (by decide) (by decide),by decide,rfl,rfl,λhb=>by cases hb⟩ rfl rfl rfl LY rfl
theorem Md.ready(h:Md j D)(h0:0<=j.acts)(h1:j.acts<=400):Ready j:=by
 have B:∀x:Int, -10<=x->x<=1000->IntKind.i64.wrap x=x:=λx _ _=>by rw[Bc];omega
 have F:∀{l:List Tx} {N P U:Int},Pow j->j.done.length<=24->j.now.seq<=j.last+2->j.last+1<=j.now.seq->0<=j.last->0<=j.ru->j.ru<=24->Ready j:=by
  intro _ _ _ _ p hd I A6 hl Q M;have E:=iB p.good;have A0:=p.seq;refine⟨by omega,by rw[p.fL];exact Vb _,by rw[p.fN];exact B _ (by omega) (by omega),B _ (by omega) (by omega),B _ (by omega) (by omega),by omega,by omega,(λhd2=>by rw[p.up]at hd2;cases hd2),Q,M,h0,h1⟩
 have len:∀{N P U:Int},Tells D (j.done.map toldOf) N P U->j.done.length<=24:=by
  intro N P U A;have C:=OH D;rw[A.tL,xd]at C;exact C
 have K:∀{N:Int},Dn j N->j.fL.length<=24-> -1<=j.fN->j.fN<=402->(j.steps=[]->∀t∈fndL j.disk,Few t)->Ready j:=by
  intro N p L A5 A4 J;have C:=p.lo;have S:=p.seq;have R:=p.last0;refine⟨by rw[p.done];exact Vb _,by unfold maxLen;omega,B _ (by omega) (by omega),by rw[p.now];exact B _ (by decide) (by decide),B _ (by omega) (by omega),by rw[p.now];decide,by rw[p.now];decide,λ_=>J,by rw[p.ru];exact Le _,by rw[p.ru];decide,h0,h1⟩
 cases h with
 |idle p E hz hD A I=>have:=A.range;exact F (l:=[]) (N:=0) (P:=0) (U:=0) p (len A) (by omega) (by omega) (by omega) (by omega) (by omega)
 |commit P U k p hw hk E hD A he hse hrh hru I hN=>
  have:=A.range;obtain⟨_,O,_,A3,A2⟩:=uD he;have hn:=IF j.sealed (iB O).1 (iB O).2.2
  have A1:cB P U j.sealed=U+needN j.sealed.info.length j.sealed.rev.length:=by
   have C:=he;unfold NA at C;split at C
   .cases C
   .rw[cB,Rb he,takeU,Rb C]
  exact F (l:=[]) (N:=0) (P:=0) (U:=0) p (len A) (by omega) (by omega) (by omega) (by omega) (by omega)
 |check k p hw hz hk E hD A I=>have:=A.range;exact F (l:=[]) (N:=0) (P:=0) (U:=0) p (len A) (by omega) (by omega) (by omega) (by omega) (by omega)
 |off l N P U p E L hD A=>
  refine K p (by rw[L.1];exact Vb _) (by omega) (by omega) (λ_ t i=>VW (A.goods t ?_))
  rwa [hD,A.tL]at i
 |back U k p hw hk E hD A=>
  have C:=A.range;have S:=p.seq;refine K p (by have R:=OH D;rwa [A.tL]at R) (by omega) (by omega) (λe=>?_);rw[e]at E;have:=congrArg List.length E;rw[Uc]at this;simp at this;omega
def PJ (j:Jn):Prop:=∃D,Md j D/\0<=j.acts/\j.acts<=400
theorem PJ.ready(h:PJ j):Ready j:=by
 obtain⟨D,A,B,C⟩:=h;exact A.ready B C
theorem PJ.do(h:PJ j)(a:Ac):PJ (doJ j a).1:=by
 obtain⟨D,A,B,C⟩:=h;rcases eb A a B C with⟨i,Q⟩|⟨i,Q,D',e,_⟩
 .rw[Q];exact⟨D,A,B,C⟩
 .exact⟨D',e,by omega,by omega⟩
theorem PJ.new:PJ XE:=⟨aD,zV,by decide,by decide⟩
def ac0:Ac:=⟨0,0,0,0,⟨#[]⟩⟩
def ActAt (w:K)(b o:Nat)(x:Ac):Prop:=
 w.cell? ⟨b,o,Z⟩=J (H G x.kind)/\w.cell? ⟨b,o+1,Z⟩=J (H G x.h)/\w.cell? ⟨b,o+2,Z⟩=J (H G x.b)/\w.cell? ⟨b,o+3,Z⟩=J (H G x.n)/\w.cell? ⟨b,o+4,Z⟩=J (A x.text)
def SegA (w:K)(a:Option Addr)(l:List Ac):Prop:=l=[]\/∃b Q,a=J ⟨b,Q,Z⟩/\b<w.heap.size/\∀i,i<l.length->ActAt w b (Q+i*5) (l.getD i ac0)
theorem ActAt.ext{b o:Nat}{x:Ac}(h:ActAt w b o x)(e:Ext w w'):ActAt w' b o x:=⟨e.cell _ _ _ h.1,e.cell _ _ _ h.2.1,e.cell _ _ _ h.2.2.1,e.cell _ _ _ h.2.2.2.1,e.cell _ _ _ h.2.2.2.2⟩
theorem SegA.ext{a:Option Addr}{l:List Ac}(h:SegA w a l)(e:Ext w w'):SegA w' a l:=by
 rcases h with h|⟨b,y,rfl,Q,z⟩
 .exact .inl h
 .exact .inr ⟨b,y,rfl,Xb Q e.size,λi hi=>(z i hi).ext e⟩
structure OkA (x:Ac):Prop where
 n:x.n<=9223372036854775807
 text:x.text.size<=maxLen
def jOf (l:List Ac)(k:Nat):Jn:=(l.take k).foldl (λj a=>(doJ j a).1) XE
def rOf (l:List Ac)(k:Nat):Rp:=(doJ (jOf l k) (l.getD k ac0)).2
theorem BJ(l:List Ac):jOf l 0=XE:=by rw[jOf,Ee];rfl
theorem AI{l:List Ac}(h:k<l.length):jOf l (k+1)=(doJ (jOf l k) (l.getD k ac0)).1:=by
 rw[jOf,Oc,Ic h,He,List.getD,Ic h];rfl
theorem zH(l:List Ac)(k:Nat):PJ (jOf l k):=by
 unfold jOf;generalize l.take k=q
 have:∀(q:List Ac) (j:Jn),PJ j->PJ (q.foldl (λj a=>(doJ j a).1) j):=by
  intro q
  induction q with
  |nil=>intro j h;exact h
  |cons a q ih=>intro j h;exact ih _ (h.do a)
 exact this q _ PJ.new
structure JS (w:World)(B:Nat)(X:List Nat)(L:List (Nat×Obj))(G:World->Prop)(j:Jn)(V:Sl)(W:World):Prop where
 x:B∈X
 b:ButL [B] w.heap.size w W
 k:W.heap[B]?=some (.cells (rA j V) 74 (0,0))
 r:RowsR (aA W X) j V
 o:∀p∈L,p.1≠B/\W.heap[p.1]?=some p.2
 g:G (aA W X)
 gx:∀a b,Ext a b->G a->G b
section
variable {w w' W W':World} {B b c:Nat} {X:List Nat} {L:List (Nat×Obj)} {G:World->Prop} {j j':Jn} {V V':Sl} {u:Obj} {p:Nat×Obj}
theorem JAt.js(h:JAt w B X j):∃V,JS w B X [] (λ_=>True) j V w:=by
 obtain⟨D,V,A,C⟩:=h;exact⟨V,D,ButL.refl _ _ _,A,C,by simp,trivial,λ_ _ _ _=>trivial⟩
theorem JS.at(h:JS w B X L G j V W):JAt W B X j:=⟨h.x,V,h.k,h.r⟩
theorem JS.lt(h:JS w B X L G j V W):B<W.heap.size:=(Wb.1 h.k).1
theorem JS.below(h:JS w B X L G j V W)(hb:Below W.heap.size W W'):JS w B X L G j V W':=
 ⟨h.x,h.b.trans (Y:=[]) (ButL.of_below hb) h.b.size (by simp),yA hb h.lt h.k,h.r.ext (Ext.freshL hb),λp Q=>⟨(h.o p Q).1,yA hb (Wb.1 (h.o p Q).2).1 (h.o p Q).2⟩,h.gx _ _ (Ext.freshL hb) h.g,h.gx⟩
theorem JS.b0(h:JS w B X ((b,u)::L) G j V W):b≠B/\W.heap[b]?=J u/\b<W.heap.size:=⟨(h.o (b,u) (by simp)).1,(h.o (b,u) (by simp)).2,(Wb.1 (h.o (b,u) (by simp)).2).1⟩
theorem JS.tl(h:JS w B X (p::L) G j V W):JS w B X L G j V W:=⟨h.x,h.b,h.k,h.r,λq Q=>h.o q (Ad _ Q),h.g,h.gx⟩
theorem JS.add(h:JS w B X L G j V W)(u:Obj):JS w B X ((W.heap.size,u)::L) G j V (W.alloc u):=by
 have hb:=qA W u;have s:=h.below hb;refine⟨s.x,s.b,s.k,s.r,λp hp=>?_,s.g,s.gx⟩;rcases Xc.1 hp with rfl|hp
 .exact⟨Nat.ne_of_gt h.lt,Cc _ _⟩
 .exact s.o p hp
theorem JS.has(h:JS w B X L G j V W)(Q:b≠B)(hb:W.heap[b]?=J u):JS w B X ((b,u)::L) G j V W:=
 ⟨h.x,h.b,h.k,h.r,λp hp=>by rcases Xc.1 hp with rfl|hp;exact⟨Q,hb⟩;exact h.o p hp,h.g,h.gx⟩
theorem JS.gives(h:JS w B X L G j V W){G':K->Prop}(Q:G' (aA W X))(e:∀a b,Ext a b->G' a->G' b):JS w B X L G' j V W:=⟨h.x,h.b,h.k,h.r,h.o,Q,e⟩
theorem JS.drew(h:JS w B X L G j V W):JS w B X L G j V W.drew:=h.below (Ub _ _).drew
theorem JS.more(h:JS w B X L G j V W)(hb:Below W.heap.size W W')(Q:W.heap.size<=c):JS w B (c::X) L G j V W':=
 ⟨Ad _ h.x,(h.below hb).b,(h.below hb).k,h.r.ext (Ext.newL hb Q),(h.below hb).o,h.gx _ _ (Ext.newL hb Q) h.g,h.gx⟩
theorem JS.one(h:JS w B X [] G j V W)(u:Obj)(Q:W.heap.size=n):JS w B (n::X) [(n,u)] G j V (W.alloc u):=by
 subst Q;have s:=h.more (qA W u) (Sb _);exact⟨s.x,s.b,s.k,s.r,(h.add u).o,s.g,s.gx⟩
theorem JS.oneT(h:JS w B X [] G j V W)(u v:Obj)(Q:W.heap.size=n):JS w B (n::X) [(n+1,v),(n,u)] G j V ((W.alloc u).alloc v):=by
 have t:=(h.one u Q).add v;rw[show(W.alloc u).heap.size=n+1 by simp[Q]]at t;exact t
theorem JS.two(h:JS w B X [] G j V W)(u v:Obj)(Q:W.heap.size=n):JS w B ((n+1)::X) [(n+1,v),(n,u)] G j V ((W.alloc u).alloc v):=by
 subst Q;have s:=h.more (vA (qA W u) (qA _ v)) (Fc _);have t:=(h.add u).add v;rw[show(W.alloc u).heap.size=W.heap.size+1 by simp]at t;exact⟨s.x,s.b,s.k,s.r,t.o,s.g,s.gx⟩
theorem JAt.js1(h:JAt w B X j)(u:Obj):∃V,JS w B (w.heap.size::X) [(w.heap.size,u)] (λ_=>True) j V (w.alloc u):=by
 obtain⟨V,h⟩:=h.js;exact⟨V,h.one u rfl⟩
theorem JAt.js2(h:JAt w B X j)(u v:Obj):∃V,JS w B ((w.heap.size+1)::X) [(w.heap.size+1,v),(w.heap.size,u)] (λ_=>True) j V ((w.alloc u).alloc v):=by
 obtain⟨V,h⟩:=h.js;exact⟨V,h.two u v rfl⟩
theorem pC(Q:∀x∈X,x<w.heap.size)(hb:b<W.heap.size)(hs:w.heap.size<=W.heap.size):∀x∈b::X,x<W.heap.size:=λx hx=>by
 rcases Xc.1 hx with rfl|hx
 .exact hb
 .have:=Q x hx;omega
theorem JS.set(h:JS w B X L G j V W)(e:ButL [B] W.heap.size W W')(i:W'.heap[B]?=J (.cells cs 74 (0,0)))(z:RowsR (aA W X) j V->Ext (aA W X) (aA W' X)->RowsR (aA W' X) j' V')(y:cs=rA j' V'):JS w B X L G j' V' W':=
 ⟨h.x,h.b.trans e h.b.size (by simp),by rw[<-y];exact i,z h.r (Ext.butL (e.wider (by simpa using h.x))),λp Q=>⟨(h.o p Q).1,(e.block _ (Wb.1 (h.o p Q).2).1 (by simpa using(h.o p Q).1)).trans (h.o p Q).2⟩,h.gx _ _ (Ext.butL (e.wider (by simpa using h.x))) h.g,h.gx⟩
theorem JS.of(h:JS w B X L G j V W){q:Jn}(e:JAt W' B X q)(hb:ButL [B] W.heap.size W W'):∃V,JS w B X L G q V W':=by
 obtain⟨V,s⟩:=e.js;exact⟨V,s.x,h.b.trans hb h.b.size (by simp),s.k,s.r,λp Q=>⟨(h.o p Q).1,(hb.block _ (Wb.1 (h.o p Q).2).1 (by simpa using(h.o p Q).1)).trans (h.o p Q).2⟩,h.gx _ _ (Ext.butL (hb.wider (by simpa using h.x))) h.g,h.gx⟩
def IB (w:K)(B:Nat)(X:List Nat)(p:Jn×Rp)(e:Ending)(w':K):Prop:=e=.returned (vRp p.2)/\JAt w' B X p.1/\ButL [B] w.heap.size w w'
theorem CB{x:Option Obj}{v:E}(h:w.heap[b]?=x)(Q:b≠c):(w.setCell ⟨c,k,Z⟩ v).heap[b]?=x:=(Sc _ _ _ _ Q).trans h
theorem XB{v:E}{t:TypeId}(h:w.heap[b]?=J (.cells cs t (0,0))):(w.setCell ⟨b,k,Z⟩ v).heap[b]?=J (.cells (cs.setIfInBounds k v) t (0,0)):=zc _ _ k _ _ _ h
theorem JS.code(h:JS w B X L G j V W)(e:Int):Calls Tryz.prog 20 #[H .i64 e] W λx w'=>x=.returned (F #[H .i64 e,H .i64 0,A ⟨#[]⟩])/\JS w B X L G j V w':=(QS e _).mono λ_ _ ⟨h1,hb⟩=>⟨h1,h.below hb⟩
theorem JS.told{fn:Func}{a:Act}{P:Jn×Rp}{y:Rp}{t:TypeId}(h:JS w B (b::X) L G j V W)(z:P=(j,y))(hx:B∈X)(e:b≠B/\W.heap[b]?=J (.cells #[z0,z1,z2] t (0,0))/\b<W.heap.size)(Q:w.heap.size<=b)
  (i:∀W:K,(∀k,W.cell? ⟨b,k,Z⟩=#[v0,v1,v2][k]?)->(results fn a.tmps).run P0 W=.ok (F #[v0,v1,v2]) W) (hd:a.defers=[]:=by rfl) (hv:vRp y=F #[v0,v1,v2]:=by rfl):
  bodyPost P0 fn (IB w B X P) .ret a (((W.setCell ⟨b,0,Z⟩ v0).setCell ⟨b,1,Z⟩ v1).setCell ⟨b,2,Z⟩ v2):=by
 obtain⟨A,e,_⟩:=e;have hb:ButL (b::X) W.heap.size W (((W.setCell ⟨b,0,Z⟩ v0).setCell ⟨b,1,Z⟩ v1).setCell ⟨b,2,Z⟩ v2):=(((ButL.refl _ _ _).set (.inl (by simp)) 0 v0).set (.inl (by simp)) 1 v1).set (.inl (by simp)) 2 v2;refine Tb (i _ (kA (XB (XB (XB e)))).1) hd ⟨by rw[z,<-hv],?_,((h.b.set (.inr Q) 0 _).set (.inr Q) 1 _).set (.inr Q) 2 _⟩;rw[z]
 exact(JS.mk (w:=w) (L:=[]) (G:=λ_=>True) hx (((h.b.set (.inr Q) 0 _).set (.inr Q) 1 _).set (.inr Q) 2 _) (CB (CB (CB h.k A.symm) A.symm) A.symm) ((h.r.ext (Ext.butL hb)).ext (Ext.lessL _)) (by simp) trivial λ_ _ _ _=>trivial).at
theorem JS.toldD{fn:Func}{a:Act}{P:Jn×Rp}{y:Rp}{t:TypeId}(h:JS w B (b::X) L G j V W)(z:P=(j,y))(hx:B∈X)(i:b≠B/\W.heap[b]?=J (.cells #[z0,z1,z2] t (0,0))/\b<W.heap.size)(Q:w.heap.size<=b)
  (e:∀W:K,(∀k,W.cell? ⟨b,k,Z⟩=#[v0,v1,v2][k]?)->(results fn a.tmps).run P0 W=.ok (F #[v0,v1,v2]) W) (hd:a.defers=[]:=by rfl) (hv:vRp y=F #[v0,v1,v2]:=by rfl):
  bodyPost P0 fn (IB w B X P) .ret a (((W.setCell ⟨b,0,Z⟩ v0).setCell ⟨b,1,Z⟩ v1).setCell ⟨b,2,Z⟩ v2).drew:=by
 obtain⟨C,i,_⟩:=i;have hb:ButL (b::X) W.heap.size W (((W.setCell ⟨b,0,Z⟩ v0).setCell ⟨b,1,Z⟩ v1).setCell ⟨b,2,Z⟩ v2):=(((ButL.refl _ _ _).set (.inl (by simp)) 0 v0).set (.inl (by simp)) 1 v1).set (.inl (by simp)) 2 v2;have A:ButL [B] w.heap.size w (((W.setCell ⟨b,0,Z⟩ v0).setCell ⟨b,1,Z⟩ v1).setCell ⟨b,2,Z⟩ v2):=((h.b.set (.inr Q) 0 _).set (.inr Q) 1 _).set (.inr Q) 2 _;refine Tb (e _ (kA (XB (XB (XB i)))).1) hd ⟨by rw[z,<-hv],?_,⟨A.os,A.tape,A.output,A.size,A.block⟩⟩;rw[z]
 exact(JS.mk (w:=w) (L:=[]) (G:=λ_=>True) hx (((h.b.set (.inr Q) 0 _).set (.inr Q) 1 _).set (.inr Q) 2 _) (CB (CB (CB h.k C.symm) C.symm) C.symm) ((h.r.ext (Ext.butL hb)).ext (Ext.lessL _)) (by simp) trivial λ_ _ _ _=>trivial).drew.at
end
open Go.Proofs.Tryz
structure YS (w:World)(cs:Array Value)(W:World):Prop where
 b:Below w.heap.size w W
 k1:W.heap[w.heap.size]?=some (.cells cs 52 (0,0))
 k2:W.heap[w.heap.size+1]?=some (.cells #[.int .i64 0,.slice none 0 0,.slice none 0 0,.slice none 0 0,.bool false,.int .i64 0,.bool false,.int .i64 0,.bool false,.int .i64 0] 52 (0,0))
def TP (w:K)(v:E)(T:Tx)(Q:Int)(e:Ending)(w':K):Prop:=∃v2,e=.returned (S #[v2,H G Q])/\IsTx w' v2 T/\Below w.heap.size w w'/\(v2=v\/DF w.heap.size v2 T)
section
variable {w W W':World} {cs:Array Value} {t T:Tx} {va vd vr v:Value} {B:Nat}
theorem YS.start(w:K)(cs:Array E):YS w cs ((w.alloc (.cells cs 52)).alloc (.cells #[H G 0,M Z 0 0,M Z 0 0,M Z 0 0,Y O,H G 0,Y O,H G 0,Y O,H G 0] 52)):=⟨vA (qA _ _) (qA _ _),sB (Ub _ _),JB (Ub _ _)⟩
theorem YS.lt(h:YS w cs W):w.heap.size+1<W.heap.size:=(Wb.1 h.k2).1
theorem YS.below(h:YS w cs W)(hb:Below W.heap.size W W'):YS w cs W':=⟨vA h.b hb,yA hb (Nat.lt_of_succ_lt h.lt) h.k1,yA hb h.lt h.k2⟩
theorem YS.over(h:YS w cs W)(hB:w.heap.size+2<=B)(hb:Below B W W'):YS w cs W':=⟨h.b.trans (hb.mono (by omega)),(hb.block _ (by omega)).trans h.k1,(hb.block _ (by omega)).trans h.k2⟩
theorem YS.same(h:YS w cs W)(hT:IsTx w v t){u2:E}(e:u2=v)(v0 v1 v2 Q z y i v7 v8 v9:E):IsTx ((((((((((W.setCell ⟨(w.heap.size+1),0,Z⟩ (v0)).setCell ⟨(w.heap.size+1),1,Z⟩ (v1)).setCell ⟨(w.heap.size+1),2,Z⟩ (v2)).setCell ⟨(w.heap.size+1),3,Z⟩ (Q)).setCell ⟨(w.heap.size+1),4,Z⟩ (z)).setCell ⟨(w.heap.size+1),5,Z⟩ (y)).setCell ⟨(w.heap.size+1),6,Z⟩ (i)).setCell ⟨(w.heap.size+1),7,Z⟩ (v7)).setCell ⟨(w.heap.size+1),8,Z⟩ (v8)).setCell ⟨(w.heap.size+1),9,Z⟩ (v9)) u2 t/\Below w.heap.size w ((((((((((W.setCell ⟨(w.heap.size+1),0,Z⟩ (v0)).setCell ⟨(w.heap.size+1),1,Z⟩ (v1)).setCell ⟨(w.heap.size+1),2,Z⟩ (v2)).setCell ⟨(w.heap.size+1),3,Z⟩ (Q)).setCell ⟨(w.heap.size+1),4,Z⟩ (z)).setCell ⟨(w.heap.size+1),5,Z⟩ (y)).setCell ⟨(w.heap.size+1),6,Z⟩ (i)).setCell ⟨(w.heap.size+1),7,Z⟩ (v7)).setCell ⟨(w.heap.size+1),8,Z⟩ (v8)).setCell ⟨(w.heap.size+1),9,Z⟩ (v9))/\(u2=v\/DF w.heap.size u2 t):=by
 subst e
 have hb:Below w.heap.size w ((((((((((W.setCell ⟨(w.heap.size+1),0,Z⟩ (v0)).setCell ⟨(w.heap.size+1),1,Z⟩ (v1)).setCell ⟨(w.heap.size+1),2,Z⟩ (v2)).setCell ⟨(w.heap.size+1),3,Z⟩ (Q)).setCell ⟨(w.heap.size+1),4,Z⟩ (z)).setCell ⟨(w.heap.size+1),5,Z⟩ (y)).setCell ⟨(w.heap.size+1),6,Z⟩ (i)).setCell ⟨(w.heap.size+1),7,Z⟩ (v7)).setCell ⟨(w.heap.size+1),8,Z⟩ (v8)).setCell ⟨(w.heap.size+1),9,Z⟩ (v9)):=by
  repeat refine Zb ?_ (by simp) _
  exact h.b
 exact⟨hT.below hb,hb,.inl rfl⟩
theorem YS.made(h:YS w cs W)(e:BoxTx W B T va vd vr)(hB:w.heap.size+2<=B)(Q:T.info.length<=maxLen/\T.data.length<=maxLen/\T.rev.length<=maxLen):IsTx ((((((((((W.setCell ⟨(w.heap.size+1),0,Z⟩ (H G T.seq)).setCell ⟨(w.heap.size+1),1,Z⟩ (va)).setCell ⟨(w.heap.size+1),2,Z⟩ (vd)).setCell ⟨(w.heap.size+1),3,Z⟩ (vr)).setCell ⟨(w.heap.size+1),4,Z⟩ (Y T.h0.on)).setCell ⟨(w.heap.size+1),5,Z⟩ (H G T.h0.left)).setCell ⟨(w.heap.size+1),6,Z⟩ (Y T.h1.on)).setCell ⟨(w.heap.size+1),7,Z⟩ (H G T.h1.left)).setCell ⟨(w.heap.size+1),8,Z⟩ (Y T.h2.on)).setCell ⟨(w.heap.size+1),9,Z⟩ (H G T.h2.left)) (F #[H G T.seq,va,vd,vr,Y T.h0.on,H G T.h0.left,Y T.h1.on,H G T.h1.left,Y T.h2.on,H G T.h2.left]) T/\Below w.heap.size w ((((((((((W.setCell ⟨(w.heap.size+1),0,Z⟩ (H G T.seq)).setCell ⟨(w.heap.size+1),1,Z⟩ (va)).setCell ⟨(w.heap.size+1),2,Z⟩ (vd)).setCell ⟨(w.heap.size+1),3,Z⟩ (vr)).setCell ⟨(w.heap.size+1),4,Z⟩ (Y T.h0.on)).setCell ⟨(w.heap.size+1),5,Z⟩ (H G T.h0.left)).setCell ⟨(w.heap.size+1),6,Z⟩ (Y T.h1.on)).setCell ⟨(w.heap.size+1),7,Z⟩ (H G T.h1.left)).setCell ⟨(w.heap.size+1),8,Z⟩ (Y T.h2.on)).setCell ⟨(w.heap.size+1),9,Z⟩ (H G T.h2.left))/\(F #[H G T.seq,va,vd,vr,Y T.h0.on,H G T.h0.left,Y T.h1.on,H G T.h1.left,Y T.h2.on,H G T.h2.left]=v\/DF w.heap.size (F #[H G T.seq,va,vd,vr,Y T.h0.on,H G T.h0.left,Y T.h1.on,H G T.h1.left,Y T.h2.on,H G T.h2.left]) T):=by
 refine⟨?_,?_,.inr (e.fromR (by omega))⟩
 .refine BoxTx.is (B:=B) ?_ Q.1 Q.2.1 Q.2.2
  repeat refine BoxTx.other ?_ (by simp;omega) _
  exact e
 .repeat refine Zb ?_ (by simp) _
  exact h.b
theorem BoxTx.hd0(h:BoxTx W B t va vd vr)(x:Hd):BoxTx ((W.setCell ⟨B,4,Z⟩ (Y x.on)).setCell ⟨B,5,Z⟩ (H G x.left)) B {t with h0:=x} va vd vr:=
 (h.set (t':={t with h0:=⟨x.on,t.h0.left⟩}) 4 _ rfl h.2.1 h.2.2.1 h.2.2.2).set (t':={t with h0:=x}) 5 _ rfl (Jc h.2.1 (by simp) _) (Jc h.2.2.1 (by simp) _) (Jc h.2.2.2 (by simp) _)
theorem BoxTx.hd1(h:BoxTx W B t va vd vr)(x:Hd):BoxTx ((W.setCell ⟨B,6,Z⟩ (Y x.on)).setCell ⟨B,7,Z⟩ (H G x.left)) B {t with h1:=x} va vd vr:=
 (h.set (t':={t with h1:=⟨x.on,t.h1.left⟩}) 6 _ rfl h.2.1 h.2.2.1 h.2.2.2).set (t':={t with h1:=x}) 7 _ rfl (Jc h.2.1 (by simp) _) (Jc h.2.2.1 (by simp) _) (Jc h.2.2.2 (by simp) _)
theorem BoxTx.hd2(h:BoxTx W B t va vd vr)(x:Hd):BoxTx ((W.setCell ⟨B,8,Z⟩ (Y x.on)).setCell ⟨B,9,Z⟩ (H G x.left)) B {t with h2:=x} va vd vr:=
 (h.set (t':={t with h2:=⟨x.on,t.h2.left⟩}) 8 _ rfl h.2.1 h.2.2.1 h.2.2.2).set (t':={t with h2:=x}) 9 _ rfl (Jc h.2.1 (by simp) _) (Jc h.2.2.1 (by simp) _) (Jc h.2.2.2 (by simp) _)
end
theorem QT(v:E)(t:Tx)(h:Int)(w:K)(hT:IsTx w v t)(hg:nA t=I):
  Calls prog 59 #[v,H G h] w (TP w v (stopT t h) (stopE t h)):=by
 have S:=iB hg;have R:=zA hT;have A7:=zA hg;obtain⟨a,c,u,s,r,d,rfl,i,l,m,n,q,k⟩:=hT;have HM:=zA i;have HD:=zA l;have HR:=zA m;have j:=zA (YS.start w #[H G t.seq,M a t.info.length c,M u t.data.length s,M r t.rev.length d,Y t.h0.on,H G t.h0.left,Y t.h1.on,H G t.h1.left,Y t.h2.on,H G t.h2.left]);have e:=zA (And.intro n (And.intro q k));clear i l m n q k;go_enter func59,ntmps59;go_wp2_with fail;refine(yJ _ t _ (R.o.below (vA (qA _ _) (qA _ _))) (by have:=S.1;omega) (by have:=S.2.1;omega)).mono ?_;rintro _ w1 ⟨rfl,U⟩;have L:=zA (j.o.below U);clear U j;obtain⟨x,A5⟩:=kA L.o.k1;obtain⟨y,A4⟩:=kA L.o.k2;have Q:=L.o.lt;rw[A7.o];go_wp2_with fail;refine(CP _ t h _ (R.o.below L.o.b)).mono ?_;rintro _ F ⟨rfl,hb⟩;have C:=zA (L.o.below hb);clear hb x A5 y A4 Q;obtain⟨x,A5⟩:=kA C.o.k1;obtain⟨y,A4⟩:=kA C.o.k2;have Q:=C.o.lt
 cases ho:onB t h with
 |false=>
  have A1:Hid (stopE t h=4):=by
   rw[Hid,stopE,Qb (by rw[A7.o];decide),Rb]
   simp[onB,sA]at ho;rcases Int.lt_or_le h 0 with h1|h1;exact .inl h1;rcases Int.lt_or_le 2 h with h2|h2;exact .inr (.inl h2);exact .inr (.inr (ho h1 h2))
  have N:Hid (stopT t h=t):=by rw[Hid,stopT,Qb (by rw[A1.o];decide)]
  go_wp2;exact Tb (by simp[results,results59,go_sem,y];try rfl) rfl ⟨_,by rw[A1.o],by rw[N.o];exact C.o.same R.o (by rfl) ..⟩
 |true=>
  obtain⟨hh,X⟩:(h=0\/h=1\/h=2)/\(IA t h).on=I:=by simp[onB,sA]at ho;exact⟨by omega,by simp[ho]⟩
  have A1:Hid (stopE t h=0):=by rw[Hid,stopE,Qb (by rw[A7.o];decide),Qb (by rw[X];simp;omega)]
  clear X;go_wp2_with fail;refine(qH _ t _ (R.o.below C.o.b) (by omega) (by omega) (by omega)).mono ?_;rintro _ w4 ⟨va,vd,vr,rfl,A,hb⟩;obtain⟨a1,c1,rfl,_,_⟩:=SegC.of_owns A.2.1;obtain⟨a2,c2,rfl,_,_⟩:=SegC.of_owns A.2.2.1;obtain⟨a3,c3,rfl,_,_⟩:=SegI.of_owns A.2.2.2;have A2:=zA (C.o.below hb);have B:w.heap.size+2<=F.heap.size:=C.o.lt;have A0:=A.lt;have A6:=zA A;obtain⟨z,zf⟩:=kA A.1;clear hb A x A5 y A4 Q;obtain⟨x,A5⟩:=kA A2.o.k1;obtain⟨y,A4⟩:=kA A2.o.k2;have Q:=A2.o.lt;rcases hh with rfl|rfl|rfl
  .go_wp2;have A3:=A6.o.hd0 ⟨O,0⟩;have N:Hid (stopT t 0={t with h0:=⟨O,0⟩}):=by rw[Hid,stopT,Rb A1.o];rfl
   have J:=A2.o.over B (((Ub _ _).setCell (p:=⟨F.heap.size,4,Z⟩) (Sb _) (Y O)).setCell (p:=⟨F.heap.size,5,Z⟩) (Sb _) (H G 0));have D:=λv=>J.made (v:=v) A3 B e.o;dsimp only at D;exact Tb (by simp[results,results59,go_sem,y];try rfl) rfl ⟨_,by rw[A1.o],by rw[N.o];exact D _⟩
  .go_wp2;have A3:=A6.o.hd1 ⟨O,0⟩;have N:Hid (stopT t 1={t with h1:=⟨O,0⟩}):=by rw[Hid,stopT,Rb A1.o];rfl
   have J:=A2.o.over B (((Ub _ _).setCell (p:=⟨F.heap.size,6,Z⟩) (Sb _) (Y O)).setCell (p:=⟨F.heap.size,7,Z⟩) (Sb _) (H G 0));have D:=λv=>J.made (v:=v) A3 B e.o;dsimp only at D;exact Tb (by simp[results,results59,go_sem,y];try rfl) rfl ⟨_,by rw[A1.o],by rw[N.o];exact D _⟩
  .go_wp2;have A3:=A6.o.hd2 ⟨O,0⟩;have N:Hid (stopT t 2={t with h2:=⟨O,0⟩}):=by rw[Hid,stopT,Rb A1.o];rfl
   have J:=A2.o.over B (((Ub _ _).setCell (p:=⟨F.heap.size,8,Z⟩) (Sb _) (Y O)).setCell (p:=⟨F.heap.size,9,Z⟩) (Sb _) (H G 0));have D:=λv=>J.made (v:=v) A3 B e.o;dsimp only at D;exact Tb (by simp[results,results59,go_sem,y];try rfl) rfl ⟨_,by rw[A1.o],by rw[N.o];exact D _⟩
theorem Cb(v:E)(t:Tx)(h n free:Int)(w:K)(hT:IsTx w v t)(hg:nA t=I):
  Calls prog 57 #[v,H G h,H G n,H G free] w (TP w v (beginT t h n free) (beginE t h n free)):=by
 have A0:=zA (IE hg);have i:=iB hg;have L:=zA hT;have HG:=zA hg;obtain⟨a,c,a',c',r,d,rfl,u,hD,hR,n1,n2,n3⟩:=hT;have HM:=zA u;have HD:=zA hD;have HR:=zA hR;have S0:=zA (YS.start w #[H G t.seq,M a t.info.length c,M a' t.data.length c',M r t.rev.length d,Y t.h0.on,H G t.h0.left,Y t.h1.on,H G t.h1.left,Y t.h2.on,H G t.h2.left]);have s:=zA (And.intro n1 (And.intro n2 n3));clear u hD hR n1 n2 n3;go_enter func57,ntmps57;go_wp2_with fail;refine(yJ _ t _ (L.o.below (vA (qA _ _) (qA _ _))) (by have:=i.1;omega) (by have:=i.2.1;omega)).mono ?_;rintro _ w1 ⟨rfl,j⟩;have A6:=zA (S0.o.below j);clear j S0;obtain⟨x,S⟩:=kA A6.o.k1;obtain⟨y,R⟩:=kA A6.o.k2;have X:=A6.o.lt;rw[HG.o];have HE:Hid (beginE t h n free=if h<0\/2<h then 4 else if(IA t h).on=I then 5 else if n<0\/12<n then 2 else if 24<jB t+n\/free<RA (jB t+n) then 6 else 0):=by rw[Hid,beginE,Qb (by rw[HG.o];decide)]
 have B1:Hid (∀e,beginE t h n free=e->e≠0->beginT t h n free=t):=λe h1 h2=>Qb (by rw[h1];exact h2);have m:Hid (beginE t h n free=0->beginT t h n free=QB t h ⟨I,n⟩):=λh1=>Rb h1;go_wp2_with fail;refine(UH _ _).mono ?_;rintro _ _ ⟨rfl,rfl⟩;by_cases hh:h<0\/2<h
 .have A5:=zA (HE.o.trans (Rb hh));have N:Hid (beginT t h n free=t):=by rw[Hid,beginT,Qb (by rw[A5.o];decide)]
  rw[show sA h 0 2=O by simp[sA];omega];go_wp2;exact Tb (by simp[results,results57,go_sem,y];try rfl) rfl ⟨_,by rw[A5.o],by rw[N.o];exact A6.o.same L.o (by rfl) ..⟩
 rw[show sA h 0 2=I by simp[sA];omega];have E1:=zA (HE.o.trans (Qb hh));have h3:h=0\/h=1\/h=2:=by omega
 cases ho:(IA t h).on with
 |true=>
  have A5:=zA (E1.o.trans (Rb ho));have N:Hid (beginT t h n free=t):=by rw[Hid,beginT,Qb (by rw[A5.o];decide)]
  rcases h3 with rfl|rfl|rfl
  all_goals
   simp[IA]at ho;have F:=zA ho;rw[ho]at x;go_wp2;exact Tb (by simp[results,results57,go_sem,y];try rfl) rfl ⟨_,by rw[A5.o],by rw[N.o];exact A6.o.same L.o (by rw[F.o]) ..⟩
 |false=>
  have E2:=zA (E1.o.trans (Qb (by rw[ho];decide)));clear hh;rcases h3 with rfl|rfl|rfl
  all_goals
   simp[IA]at ho;have F:=zA ho;rw[ho]at x;go_wp2_with fail;refine(bC _ _ _ _).mono ?_;rintro _ _ ⟨rfl,rfl⟩;by_cases hn:n<0\/12<n
   .have A5:=zA (E2.o.trans (Rb hn));rw[show sA n 0 12=O by simp[sA];omega];go_wp2;exact Tb (by simp[results,results57,go_sem,y];try rfl) rfl ⟨_,by rw[A5.o],by rw[B1.o _ A5.o (by decide)];exact A6.o.same L.o (by rw[F.o]) ..⟩
   rw[show sA n 0 12=I by simp[sA];omega];have k:=zA (E2.o.trans (Qb hn));go_wp2_with fail;refine(xU _ t _ (by rw[<-F.o];exact L.o.below A6.o.b)).mono ?_;rintro _ J ⟨rfl,hb⟩;have A7:=zA (A6.o.below hb);clear hb x S y R X;obtain⟨q,U⟩:∃q,q=jB t:=⟨_,rfl⟩;rw[<-U];have HQ:=zA U;have B0:=A0.o;rw[<-U]at B0 k;obtain⟨-,A1,A2⟩:=B0;clear U;obtain⟨x,S⟩:=kA A7.o.k1;obtain⟨y,R⟩:=kA A7.o.k2;have X:=A7.o.lt;rw[F.o]at x;have A4:IntKind.i64.wrap (q+n)=q+n:=by rw[Bc];omega
   have C:=pZ (q+n) free J;by_cases hm:24<q+n\/free<RA (q+n)
   .have A5:=zA (k.o.trans (Rb hm));rw[show(decide (q+n<=24)&&decide (RA (q+n)<=free))=O by simp;omega]at C
    replace C:=zA C
    clear hm;go_wp2_with fail;refine C.o.mono ?_;rintro _ _ ⟨rfl,rfl⟩;clear C;go_wp2;exact Tb (by simp[results,results57,go_sem,y];try rfl) rfl ⟨_,by rw[A5.o],by rw[B1.o _ A5.o (by decide)];exact A7.o.same L.o (by rw[F.o]) ..⟩
   rw[show(decide (q+n<=24)&&decide (RA (q+n)<=free))=I by simp;omega]at C
   replace C:=zA C
   have A5:=zA (k.o.trans (Qb hm));clear hm hn;go_wp2_with fail;refine C.o.mono ?_;rintro _ _ ⟨rfl,rfl⟩;clear C;go_wp2_with fail;refine(qH _ t _ (by rw[<-F.o];exact L.o.below A7.o.b) (by omega) (by omega) (by omega)).mono ?_;rintro _ w4 ⟨va,vd,vr,rfl,A,hb⟩;obtain⟨a1,c1,rfl,_,_⟩:=SegC.of_owns A.2.1;obtain⟨a2,c2,rfl,_,_⟩:=SegC.of_owns A.2.2.1;obtain⟨a3,c3,rfl,_,_⟩:=SegI.of_owns A.2.2.2;have A8:=zA (A7.o.below hb);have B:w.heap.size+2<=J.heap.size:=A7.o.lt;have A3:=A.lt;have l:=zA A;obtain⟨z,zf⟩:=kA A.1;rw[F.o]at z;clear hb A x S y R X;obtain⟨x,S⟩:=kA A8.o.k1;obtain⟨y,R⟩:=kA A8.o.k2;have X:=A8.o.lt;go_wp2
  .have Q:=l.o.hd0 ⟨I,n⟩;have A9:=A8.o.over B (((Ub _ _).setCell (p:=⟨J.heap.size,4,Z⟩) (Sb _) (Y I)).setCell (p:=⟨J.heap.size,5,Z⟩) (Sb _) (H G n));have D:=λv=>A9.made (v:=v) Q B s.o;dsimp only at D;exact Tb (by simp[results,results57,go_sem,y];try rfl) rfl ⟨_,by rw[A5.o],by rw[show beginT t 0 n free={t with h0:=⟨I,n⟩} from m.o A5.o];exact D _⟩
  .have Q:=l.o.hd1 ⟨I,n⟩;have A9:=A8.o.over B (((Ub _ _).setCell (p:=⟨J.heap.size,6,Z⟩) (Sb _) (Y I)).setCell (p:=⟨J.heap.size,7,Z⟩) (Sb _) (H G n));have D:=λv=>A9.made (v:=v) Q B s.o;dsimp only at D;exact Tb (by simp[results,results57,go_sem,y];try rfl) rfl ⟨_,by rw[A5.o],by rw[show beginT t 1 n free={t with h1:=⟨I,n⟩} from m.o A5.o];exact D _⟩
  .have Q:=l.o.hd2 ⟨I,n⟩;have A9:=A8.o.over B (((Ub _ _).setCell (p:=⟨J.heap.size,8,Z⟩) (Sb _) (Y I)).setCell (p:=⟨J.heap.size,9,Z⟩) (Sb _) (H G n));have D:=λv=>A9.made (v:=v) Q B s.o;dsimp only at D;exact Tb (by simp[results,results57,go_sem,y];try rfl) rfl ⟨_,by rw[A5.o],by rw[show beginT t 2 n free={t with h2:=⟨I,n⟩} from m.o A5.o];exact D _⟩
theorem pb(v:E)(t:Tx)(h b:Int)(s:ByteArray)(w:K)(hT:IsTx w v t)(hg:nA t=I)(hs:oA s=I):
  Calls prog 110 #[v,H G h,H G b,A s] w (TP w v (xC t h b s) (fillE t h b s)):=by
 have F:=(VA t).1 hg;have A4:Up (·.1) t.info:=(cD _ _).1 ((zB _).1 F.2.2.1.1).2;have k:Up (·.1) t.data:=(cD _ _).1 ((zB _).1 F.2.2.1.2.1).2;have A2:Up id t.rev:=((zB _).1 F.2.2.1.2.2).2;clear F;have U:=iB hg;have B0:=zA hT;have HG:=zA hg;obtain⟨a,c,a',c',r,d,rfl,j,m,hR,n1,n2,l⟩:=hT;have HM:=zA j;have HD:=zA m;have HR:=zA hR;have q:=zA (YS.start w #[H G t.seq,M a t.info.length c,M a' t.data.length c',M r t.rev.length d,Y t.h0.on,H G t.h0.left,Y t.h1.on,H G t.h1.left,Y t.h2.on,H G t.h2.left]);have HN:=zA (And.intro n1 (And.intro n2 l));clear j m hR n1 n2 l;go_enter func110,ntmps110;go_wp2_with fail;refine(JJ _ t h b _ (B0.o.below (vA (qA _ _) (qA _ _))) (by have:=U.1;omega) (by have:=U.2.1;omega)).mono ?_;rintro _ w1 ⟨rfl,B4⟩;have B:=zA (q.o.below B4);clear B4 q;obtain⟨x,L⟩:=kA B.o.k1;obtain⟨y,J⟩:=kA B.o.k2;have A8:=B.o.lt;by_cases hr:reachE t h b=0
 rotate_left
 .have A6:Hid (fillE t h b s=reachE t h b):=Rb hr;have N:Hid (xC t h b s=t):=Qb (by rw[A6.o];exact hr);have A0:(reachE t h b==0)=O:=Ec.2 hr;clear hr;generalize reachE t h b=ec at *;go_wp2;exact Tb (by simp[results,results110,go_sem,y];try rfl) rfl ⟨_,by rw[A6.o],by rw[N.o];exact B.o.same B0.o (by rfl) ..⟩
 obtain⟨-,hh, -⟩:=vD hr;have Q:=zA (show fillE t h b s=_ from Qb (λx=>x hr));rw[hr];clear hr
 replace Q:=zA (Q.o.trans (Qb (by rw[hs];decide)))
 have hz:(s.size:Int)=32:=by simpa[oA] using hs
 clear hs;go_wp2_with fail;refine(PI _ t b _ (B0.o.below B.o.b)).mono ?_;rintro _ i ⟨rfl,hb⟩;have C:=zA (B.o.below hb);clear hb x L y J A8;obtain⟨x,L⟩:=kA C.o.k1;obtain⟨y,J⟩:=kA C.o.k2;have A8:=C.o.lt
 cases hd:EB t b with
 |true=>
  have A6:=zA (Q.o.trans (Rb hd));have N:Hid (xC t h b s=t):=Qb (by rw[A6.o];decide);clear hd;go_wp2;exact Tb (by simp[results,results110,go_sem,y];try rfl) rfl ⟨_,by rw[A6.o],by rw[N.o];exact C.o.same B0.o (by rfl) ..⟩
 |false=>
  have A6:=zA (Q.o.trans (Qb (by rw[hd];decide)));have N:=zA (show xC t h b s=_ from Rb A6.o);clear hd Q;go_wp2_with fail;refine(qH _ t _ (B0.o.below C.o.b) (by omega) (by omega) (by omega)).mono ?_;rintro _ w4 ⟨va,vd,vr,rfl,A7,hb⟩;obtain⟨a1,c1,rfl,_,_⟩:=SegC.of_owns A7.2.1;obtain⟨a2,c2,rfl,_,_⟩:=SegC.of_owns A7.2.2.1;obtain⟨a3,c3,rfl,_,_⟩:=SegI.of_owns A7.2.2.2;have S:=zA (C.o.below hb);have X:w.heap.size+2<=i.heap.size:=C.o.lt;have A1:=A7.lt;have R:=zA A7;obtain⟨z,e⟩:=kA A7.1;clear hb A7 x L y J A8;obtain⟨x,L⟩:=kA S.o.k1;obtain⟨y,J⟩:=kA S.o.k2;have A8:=S.o.lt;obtain⟨z,e⟩:=kA R.o.1;go_wp2_with fail;have o:=R.o.2.2.1;have A3:=R.o.lt;refine(sN (i.heap.size+1) _ t.data b s _ o (by omega) k).mono ?_;rintro _ u1 ⟨v6,rfl,B3,hb⟩;obtain⟨u,n,rfl, -, -⟩:=SegC.of_owns B3;have A9:=R.o.below hb;have B2:=S.o.below hb;have B1:=zA (A9.set (t':={t with data:=putAt (·.1) t.data b (b,s)}) 2 (M u (putAt (·.1) t.data b (b,s)).length n) rfl A9.2.1 (qB B3 (by omega)) A9.2.2.2);have B:=zA (B2.over X ((Ub _ _).setCell (p:=⟨i.heap.size,2,Z⟩) (Sb _) (M u (putAt (·.1) t.data b (b,s)).length n)));clear z e x L y J A8;obtain⟨z,e⟩:=kA A9.1;obtain⟨y,J⟩:=kA B2.k2;obtain⟨x,L⟩:=kA B2.k1;have A8:=B2.lt;have A5:=A9.lt;clear o B3 hb A9 B2;go_wp2;have D:=λv=>B.o.made (v:=v) B1.o X (by have l1:=nE (·.1) t.info b (b,s);have l2:=nE (·.1) t.data b (b,s);have l3:=nE id t.rev b b;have l4:=BE (·.1) t.info b;have l5:=BE (·.1) t.data b;have l6:=BE id t.rev b;unfold maxLen;dsimp only at *;refine⟨?_,?_,?_⟩<;>omega);dsimp only at D;exact Tb (by simp[results,results110,go_sem,y];try rfl) rfl ⟨_,by rw[A6.o],by rw[N.o];exact D _⟩
theorem Ga(v:E)(t:Tx)(h b:Int)(s:ByteArray)(w:K)(hT:IsTx w v t)(hg:nA t=I)(hs:oA s=I):
  Calls prog 109 #[v,H G h,H G b,A s] w (TP w v (ZB t h b s) (changeE t h b s)):=by
 have Q:=(VA t).1 hg;have A0:Up (·.1) t.info:=(cD _ _).1 ((zB _).1 Q.2.2.1.1).2;have A4:Up (·.1) t.data:=(cD _ _).1 ((zB _).1 Q.2.2.1.2.1).2;have u:Up id t.rev:=((zB _).1 Q.2.2.1.2.2).2;clear Q;have m:=iB hg;have B8:=zA hT;have HG:=zA hg;obtain⟨a,c,a',c',r,d,rfl,q,hD,hR,n1,n2,n3⟩:=hT;have HM:=zA q;have HD:=zA hD;have HR:=zA hR;have S0:=zA (YS.start w #[H G t.seq,M a t.info.length c,M a' t.data.length c',M r t.rev.length d,Y t.h0.on,H G t.h0.left,Y t.h1.on,H G t.h1.left,Y t.h2.on,H G t.h2.left]);have HN:=zA (And.intro n1 (And.intro n2 n3));clear q hD hR n1 n2 n3;go_enter func109,ntmps109;go_wp2_with fail;refine(JJ _ t h b _ (B8.o.below (vA (qA _ _) (qA _ _))) (by have:=m.1;omega) (by have:=m.2.1;omega)).mono ?_;rintro _ w1 ⟨rfl,n⟩;have B3:=zA (S0.o.below n);clear n S0;obtain⟨x,J⟩:=kA B3.o.k1;obtain⟨y,B1⟩:=kA B3.o.k2;have F:=B3.o.lt;by_cases hr:reachE t h b=0
 rotate_left
 .have B4:Hid (changeE t h b s=reachE t h b):=Rb hr;have N:Hid (ZB t h b s=t):=Qb (by rw[B4.o];exact hr);have A1:(reachE t h b==0)=O:=Ec.2 hr;clear hr;generalize reachE t h b=ec at *;go_wp2;exact Tb (by simp[results,results109,go_sem,y];try rfl) rfl ⟨_,by rw[B4.o],by rw[N.o];exact B3.o.same B8.o (by rfl) ..⟩
 obtain⟨-,hh, -⟩:=vD hr;have i:=zA (show changeE t h b s=_ from Qb (λx=>x hr));rw[hr];clear hr
 replace i:=zA (i.o.trans (Qb (by rw[hs];decide)))
 have hz:(s.size:Int)=32:=by simpa[oA] using hs
 clear hs;go_wp2_with fail;refine(oO a' c' t.data b _ (HD.o.below B3.o.b) HN.o.2.1).mono ?_;rintro _ U ⟨rfl,hb⟩;have L:=zA (B3.o.below hb);clear hb x J y B1 F;obtain⟨x,J⟩:=kA L.o.k1;obtain⟨y,B1⟩:=kA L.o.k2;have F:=L.o.lt
 cases hd:(uA b t.data).isSome with
 |true=>
  have B4:=zA (i.o.trans (Rb hd));have N:Hid (ZB t h b s=t):=Qb (by rw[B4.o];decide);clear hd;go_wp2;exact Tb (by simp[results,results109,go_sem,y];try rfl) rfl ⟨_,by rw[B4.o],by rw[N.o];exact L.o.same B8.o (by rfl) ..⟩
 |false=>
  have X:=zA (i.o.trans (Qb (by rw[hd];decide)));clear hd i;go_wp2_with fail;refine(qH _ t _ (B8.o.below L.o.b) (by omega) (by omega) (by omega)).mono ?_;rintro _ w4 ⟨va,vd,vr,rfl,B0,hb⟩;obtain⟨a1,c1,rfl,_,_⟩:=SegC.of_owns B0.2.1;obtain⟨a2,c2,rfl,_,_⟩:=SegC.of_owns B0.2.2.1;obtain⟨a3,c3,rfl,_,_⟩:=SegI.of_owns B0.2.2.2;have e:=zA (L.o.below hb);have R:w.heap.size+2<=U.heap.size:=L.o.lt;have A2:=B0.lt;have B6:=zA B0;obtain⟨z,S⟩:=kA B0.1;clear hb B0 x J y B1 F;obtain⟨x,J⟩:=kA e.o.k1;obtain⟨y,B1⟩:=kA e.o.k2;have F:=e.o.lt;go_wp2_with fail;refine(rP U.heap.size t _ _ _ h b w4 B6.o HG.o hh).mono ?_;rintro _ w5 ⟨rfl,B0,hb⟩;have B7:=zA (e.o.over R hb);have A8:=B0.lt;rw[NC]at B0;clear hb z S x J y B1 F B6 e;obtain⟨x,J⟩:=kA B7.o.k1;obtain⟨y,B1⟩:=kA B7.o.k2;have F:=B7.o.lt;by_cases hn:nameE t h b=0
  rotate_left
  .have N:Hid (ZB t h b s=t):=Qb (by rw[X.o];exact hn);have B4:=X;have A7:(nameE t h b==0)=O:=Ec.2 hn;clear hn B0;generalize nameE t h b=ec at *;go_wp2;exact Tb (by simp[results,results109,go_sem,y];try rfl) rfl ⟨_,by rw[B4.o],by rw[N.o];exact B7.o.same B8.o (by rfl) ..⟩
  have N:=zA (show ZB t h b s=_ from Rb (by rw[X.o];exact hn));have B4:=zA (X.o.trans hn);rw[Rb hn]at B0;rw[hn];clear hn X;have l:=kG t h b;obtain⟨j,ht⟩:∃j,j=nameT t h b:=⟨_,rfl⟩;dsimp only[iD,FD]at N;rw[<-ht]at B0 N l;obtain⟨q1,q2,q3⟩:=l;have B6:=zA B0;have Q1:=zA q1;have Q2:=zA q2;have Q3:=zA q3;clear B0 ht q1 q2 q3;obtain⟨z,S⟩:=kA B6.o.1;go_wp2_with fail;have o:=B6.o.2.1;rw[Q1.o]at o;have A5:=B6.o.lt;refine(sN (U.heap.size+1) _ t.info b s _ o (by omega) A0).mono ?_;rintro _ u1 ⟨v6,rfl,B5,hb⟩;obtain⟨p1,k1,rfl, -, -⟩:=SegC.of_owns B5;have B:=B6.o.below hb;have C:=B7.o.below hb;have k:=zA (B.set (t':={j with info:=putAt (·.1) t.info b (b,s)}) 1 (M p1 (putAt (·.1) t.info b (b,s)).length k1) rfl (qB B5 (by omega)) B.2.2.1 B.2.2.2);have B3:=zA (C.over R ((Ub _ _).setCell (p:=⟨U.heap.size,1,Z⟩) (Sb _) (M p1 (putAt (·.1) t.info b (b,s)).length k1)));clear z S x J y B1 F;obtain⟨z,S⟩:=kA B.1;obtain⟨y,B1⟩:=kA C.k2;obtain⟨x,J⟩:=kA C.k1;have F:=C.lt;have A6:=B.lt;clear o B5 hb B C;go_wp2_with fail;refine(show∀W,W=_->Calls _ _ _ W _ from λW1 hW=>?_) _ rfl;rw[<-hW]at k B3;clear hW;have o:=k.o.2.2.2;dsimp only at o;rw[Q3.o]at o;have A3:=k.o.lt;refine(iV (U.heap.size+1) _ t.rev b _ o (by omega) u).mono ?_;rintro _ u2 ⟨v6,rfl,B5,hb⟩;obtain⟨p2,k2,rfl, -, -⟩:=SegI.of_owns B5;have B:=k.o.below hb;have C:=B3.o.below hb;have B2:=zA (B.set (t':={{j with info:=putAt (·.1) t.info b (b,s)} with rev:=dropAt id t.rev b}) 3 (M p2 (dropAt id t.rev b).length k2) rfl B.2.1 B.2.2.1 (qB B5 (by omega)));have L:=zA (C.over R ((Ub _ _).setCell (p:=⟨U.heap.size,3,Z⟩) (Sb _) (M p2 (dropAt id t.rev b).length k2)));clear z S x J y B1 F;obtain⟨z,S⟩:=kA B.1;obtain⟨y,B1⟩:=kA C.k2;obtain⟨x,J⟩:=kA C.k1;have F:=C.lt;have A9:=B.lt;clear o B5 hb B C;go_wp2;have D:=λv=>L.o.made (v:=v) B2.o R (by have l1:=nE (·.1) t.info b (b,s);have l2:=nE (·.1) t.data b (b,s);have l3:=nE id t.rev b b;have l4:=BE (·.1) t.info b;have l5:=BE (·.1) t.data b;have l6:=BE id t.rev b;unfold maxLen;dsimp only at *;refine⟨?_,?_,?_⟩<;>first|omega|(have:=Q1.o;have:=Q2.o;have:=Q3.o;simp only[*];omega))
  dsimp only at D;exact Tb (by simp[results,results109,go_sem,y];try rfl) rfl ⟨_,by rw[B4.o],by rw[N.o];exact D _⟩
theorem OW(v:E)(t:Tx)(h b:Int)(w:K)(hT:IsTx w v t)(hg:nA t=I):
  Calls prog 111 #[v,H G h,H G b] w (TP w v (GB t h b) (revokeE t h b)):=by
 have S:=(VA t).1 hg;have A0:Up (·.1) t.info:=(cD _ _).1 ((zB _).1 S.2.2.1.1).2;have u:Up (·.1) t.data:=(cD _ _).1 ((zB _).1 S.2.2.1.2.1).2;have s:Up id t.rev:=((zB _).1 S.2.2.1.2.2).2;clear S;have l:=iB hg;have B8:=zA hT;have HG:=zA hg;obtain⟨a,c,a',c',r,d,rfl,q,hD,hR,n1,n2,n3⟩:=hT;have HM:=zA q;have HD:=zA hD;have HR:=zA hR;have S0:=zA (YS.start w #[H G t.seq,M a t.info.length c,M a' t.data.length c',M r t.rev.length d,Y t.h0.on,H G t.h0.left,Y t.h1.on,H G t.h1.left,Y t.h2.on,H G t.h2.left]);have HN:=zA (And.intro n1 (And.intro n2 n3));clear q hD hR n1 n2 n3;go_enter func111,ntmps111;go_wp2_with fail;refine(JJ _ t h b _ (B8.o.below (vA (qA _ _) (qA _ _))) (by have:=l.1;omega) (by have:=l.2.1;omega)).mono ?_;rintro _ B6 ⟨rfl,m⟩;have F:=zA (S0.o.below m);clear m S0;obtain⟨x,L⟩:=kA F.o.k1;obtain⟨y,B2⟩:=kA F.o.k2;have J:=F.o.lt;by_cases hr:reachE t h b=0
 rotate_left
 .have B4:Hid (revokeE t h b=reachE t h b):=Rb hr;have N:Hid (GB t h b=t):=Qb (by rw[B4.o];exact hr);have A2:(reachE t h b==0)=O:=Ec.2 hr;clear hr;generalize reachE t h b=ec at *;go_wp2;exact Tb (by simp[results,results111,go_sem,y];try rfl) rfl ⟨_,by rw[B4.o],by rw[N.o];exact F.o.same B8.o (by rfl) ..⟩
 obtain⟨-,hh, -⟩:=vD hr;have n:=zA (show revokeE t h b=_ from Qb (λx=>x hr));rw[hr];clear hr;go_wp2_with fail;refine(jI r d t.rev b _ (HR.o.below F.o.b) HN.o.2.2).mono ?_;rintro _ w2 ⟨rfl,rfl⟩
 cases hd:tA t.rev b with
 |true=>
  have B4:=zA (n.o.trans (Rb hd));have N:Hid (GB t h b=t):=Qb (by rw[B4.o];decide);clear hd;go_wp2;exact Tb (by simp[results,results111,go_sem,y];try rfl) rfl ⟨_,by rw[B4.o],by rw[N.o];exact F.o.same B8.o (by rfl) ..⟩
 |false=>
  have U:=zA (n.o.trans (Qb (by rw[hd];decide)));clear hd n;go_wp2_with fail;refine(qH _ t _ (B8.o.below F.o.b) (by omega) (by omega) (by omega)).mono ?_;rintro _ w4 ⟨va,vd,vr,rfl,A,hb⟩;obtain⟨a1,c1,rfl,_,_⟩:=SegC.of_owns A.2.1;obtain⟨a2,c2,rfl,_,_⟩:=SegC.of_owns A.2.2.1;obtain⟨a3,c3,rfl,_,_⟩:=SegI.of_owns A.2.2.2;have e:=zA (F.o.below hb);have Q:w.heap.size+2<=B6.heap.size:=F.o.lt;have A3:=A.lt;have R:=zA A;obtain⟨z,B5⟩:=kA A.1;clear hb A x L y B2 J;obtain⟨x,L⟩:=kA e.o.k1;obtain⟨y,B2⟩:=kA e.o.k2;have J:=e.o.lt;go_wp2_with fail;refine(rP B6.heap.size t _ _ _ h b w4 R.o HG.o hh).mono ?_;rintro _ w5 ⟨rfl,A,hb⟩;have B7:=zA (e.o.over Q hb);have A9:=A.lt;rw[NC]at A;clear hb z B5 x L y B2 J R e;obtain⟨x,L⟩:=kA B7.o.k1;obtain⟨y,B2⟩:=kA B7.o.k2;have J:=B7.o.lt;by_cases hn:nameE t h b=0
  rotate_left
  .have N:Hid (GB t h b=t):=Qb (by rw[U.o];exact hn);have B4:=U;have A8:(nameE t h b==0)=O:=Ec.2 hn;clear hn A;generalize nameE t h b=ec at *;go_wp2;exact Tb (by simp[results,results111,go_sem,y];try rfl) rfl ⟨_,by rw[B4.o],by rw[N.o];exact B7.o.same B8.o (by rfl) ..⟩
  have N:=zA (show GB t h b=_ from Rb (by rw[U.o];exact hn));have B4:=zA (U.o.trans hn);rw[Rb hn]at A;rw[hn];clear hn U;have k:=kG t h b;obtain⟨X,ht⟩:∃X,X=nameT t h b:=⟨_,rfl⟩;dsimp only[iD,FD]at N;rw[<-ht]at A N k;obtain⟨q1,q2,q3⟩:=k;have R:=zA A;have Q1:=zA q1;have Q2:=zA q2;have Q3:=zA q3;clear A ht q1 q2 q3;obtain⟨z,B5⟩:=kA R.o.1;go_wp2_with fail;have o:=R.o.2.1;rw[Q1.o]at o;have A5:=R.o.lt;refine(bO (B6.heap.size+1) _ t.info b _ o (by omega) A0).mono ?_;rintro _ u1 ⟨v6,rfl,B1,hb⟩;obtain⟨p1,k1,rfl, -, -⟩:=SegC.of_owns B1;have B:=R.o.below hb;have C:=B7.o.below hb;have i:=zA (B.set (t':={X with info:=dropAt (·.1) t.info b}) 1 (M p1 (dropAt (·.1) t.info b).length k1) rfl (qB B1 (by omega)) B.2.2.1 B.2.2.2);have F:=zA (C.over Q ((Ub _ _).setCell (p:=⟨B6.heap.size,1,Z⟩) (Sb _) (M p1 (dropAt (·.1) t.info b).length k1)));clear z B5 x L y B2 J;obtain⟨z,B5⟩:=kA B.1;obtain⟨y,B2⟩:=kA C.k2;obtain⟨x,L⟩:=kA C.k1;have J:=C.lt;have A7:=B.lt;clear o B1 hb B C;go_wp2_with fail;refine(show∀W,W=_->Calls _ _ _ W _ from λW1 hW=>?_) _ rfl;rw[<-hW]at i F;clear hW;have o:=i.o.2.2.1;dsimp only at o;rw[Q2.o]at o;have A4:=i.o.lt;refine(bO (B6.heap.size+1) _ t.data b _ o (by omega) u).mono ?_;rintro _ u2 ⟨v6,rfl,B1,hb⟩;obtain⟨p2,k2,rfl, -, -⟩:=SegC.of_owns B1;have B:=i.o.below hb;have C:=F.o.below hb;have j:=zA (B.set (t':={{X with info:=dropAt (·.1) t.info b} with data:=dropAt (·.1) t.data b}) 2 (M p2 (dropAt (·.1) t.data b).length k2) rfl B.2.1 (qB B1 (by omega)) B.2.2.2);have S2:=zA (C.over Q ((Ub _ _).setCell (p:=⟨B6.heap.size,2,Z⟩) (Sb _) (M p2 (dropAt (·.1) t.data b).length k2)));clear z B5 x L y B2 J;obtain⟨z,B5⟩:=kA B.1;obtain⟨y,B2⟩:=kA C.k2;obtain⟨x,L⟩:=kA C.k1;have J:=C.lt;have B0:=B.lt;clear o B1 hb B C;go_wp2_with fail;refine(show∀W,W=_->Calls _ _ _ W _ from λW2 hW=>?_) _ rfl;rw[<-hW]at j S2;clear hW
  have o:=j.o.2.2.2;dsimp only at o;rw[Q3.o]at o;have A1:=j.o.lt;refine(VR (B6.heap.size+1) _ t.rev b _ o (by omega) s).mono ?_;rintro _ u3 ⟨v6,rfl,B1,hb⟩;obtain⟨p3,k3,rfl, -, -⟩:=SegI.of_owns B1;have B:=j.o.below hb;have C:=S2.o.below hb;have B3:=zA (B.set (t':={{{X with info:=dropAt (·.1) t.info b} with data:=dropAt (·.1) t.data b} with rev:=putAt id t.rev b b}) 3 (M p3 (putAt id t.rev b b).length k3) rfl B.2.1 B.2.2.1 (qB B1 (by omega)));have S3:=zA (C.over Q ((Ub _ _).setCell (p:=⟨B6.heap.size,3,Z⟩) (Sb _) (M p3 (putAt id t.rev b b).length k3)));clear z B5 x L y B2 J;obtain⟨z,B5⟩:=kA B.1;obtain⟨y,B2⟩:=kA C.k2;obtain⟨x,L⟩:=kA C.k1;have J:=C.lt;have A6:=B.lt;clear o B1 hb B C;go_wp2;have D:=λv=>S3.o.made (v:=v) B3.o Q (by have l1:=nE (·.1) t.info b (b,⟨#[]⟩);have l2:=nE (·.1) t.data b (b,⟨#[]⟩);have l3:=nE id t.rev b b;have l4:=BE (·.1) t.info b;have l5:=BE (·.1) t.data b;have l6:=BE id t.rev b;unfold maxLen;dsimp only at *;refine⟨?_,?_,?_⟩<;>first|omega|(have:=Q1.o;have:=Q2.o;have:=Q3.o;simp only[*];omega));dsimp only at D;exact Tb (by simp[results,results111,go_sem,y];try rfl) rfl ⟨_,by rw[B4.o],by rw[N.o];exact D _⟩
theorem jV(t:Tx)(ua:Option Addr)(i:Nat)(Q:Option Addr)(z:Nat)(ue:Option Addr)(y:Nat)(w:K):
  Calls prog 113 #[F #[H G t.seq,M ua t.info.length i,M Q t.data.length z,M ue t.rev.length y,Y t.h0.on,H G t.h0.left,Y t.h1.on,H G t.h1.left,Y t.h2.on,H G t.h2.left]] w λe w'=>e=.returned (Y (kC t))/\Below w.heap.size w w':=by
 by_cases h1:t.info.length=0
 .by_cases h2:t.data.length=0
  .by_cases h3:t.rev.length=0
   .have A:Hid (kC t=I):=by simp[Hid,kC,h1,h2,h3]
    rw[h1,h2,h3];clear h1 h2 h3;go_enter func113,ntmps113;go_wp2;go_ret;exact⟨by rw[A.o];rfl,qA _ _⟩
   .have A:Hid (kC t=O):=by simp[Hid,kC,h1,h2,h3]
    have A4:(t.rev.length==0)=O:=by simpa using h3
    have A0:((t.rev.length:Int)==0)=O:=by simpa using h3
    rw[h1,h2];clear h1 h2 h3;go_enter func113,ntmps113;go_wp2;go_ret;exact⟨by rw[A.o];rfl,qA _ _⟩
  .have A:Hid (kC t=O):=by simp[Hid,kC,h1,h2]
   have A1:(t.data.length==0)=O:=by simpa using h2
   have A2:((t.data.length:Int)==0)=O:=by simpa using h2
   rw[h1];clear h1 h2;go_enter func113,ntmps113;go_wp2;go_ret;exact⟨by rw[A.o];rfl,qA _ _⟩
 .have A:Hid (kC t=O):=by simp[Hid,kC,h1]
  have A5:(t.info.length==0)=O:=by simpa using h1
  have A3:((t.info.length:Int)==0)=O:=by simpa using h1
  clear h1;go_enter func113,ntmps113;go_wp2;go_ret;exact⟨by rw[A.o];rfl,qA _ _⟩
theorem mS(a:Option Addr)(c:Nat)(l:List Tx)(w:K)(h:SegTx w a l)(hn:l.length*128<=140737488355328)(hf:∀t∈l,Few t):
  Calls Tryz.prog 55 #[.slice a l.length c] w λe w'=>∃y,e=.returned y/\w'.ownsRow w.heap.size 99 2 y (newestL l).length (cellsC (newestL l))/\Below w.heap.size w w':=by
 go_enter Tryz.func55,Tryz.ntmps55;go_wp2_with fail;refine(ob a c l _ h hn hf).mono ?_;rintro e E ⟨B,n,rfl,R,hB,O⟩;have U:=zA R;have M:=zA O;clear h hf R O;go_wp2
 go_loopw [4,10] (λv i wr=>∃k:Nat,k<=12/\i=.int G k/\Hid (wr.ownsRow E.heap.size 99 2 v (asN (newestF l) k).length (cellsC (asN (newestF l) k)))/\Hid (Below E.heap.size E wr)) (λ_ i _=>12 - (intOf i).toNat)
 case atStart=>exact⟨0,Vb _,rfl,Kc _ _ _ _,Ub _ _⟩
 case round=>
  obtain⟨k,hk,rfl,A,D⟩:=hrel;by_cases hlt:k<12
  .have A0:(k:Int)<12:=by omega
   have hq:=QG (newestF l) k;have z:=zA (JD (newestF l) k);have L:=zA (U.o.below D.o);have C:(Lit.int G (k:Int)).wf=I:=wfI (by omega) (by omega);generalize asN (newestF l) k=q at *
   cases ht:newestF l (k:Int) with
   |none=>
    have F:Hid (asN (newestF l) (k+1)=q):=by rw[Hid,z.o,vC,ht];simp
    have S:=L.o.lookNone (k:Int) C (by rw[hQ,ht];rfl);clear z C;go_wp2
    go_roundw
    case rel=>exact⟨k+1,by omega,by go_num,by rw[F.o];exact dA A.o (qA _ _),vA D.o (qA _ _)⟩
    case measure=>simp[intOf];omega
   |some u=>
    have F:Hid (asN (newestF l) (k+1)=q++[((k:Int),u)]):=by rw[Hid,z.o,vC,ht];rfl
    have S:=L.o.lookSome (k:Int) C (a:=(k:Int)) (s:=u) (by rw[hQ,ht];rfl);have N:=zA (dA A.o (qA wr (.cells #[.int G (k:Int),.string u] 99)));have A1:=zA (vA D.o (qA wr (.cells #[.int G (k:Int),.string u] 99)));clear z C A;go_wp2_with (at_builtin;refine uG _ E E.heap.size rfl _ _ rfl _ q.length (cellsC q) rfl (dA N.o (qA _ _)) (J ⟨wr.heap.size+1,0,Z⟩) 1 [((k:Int),u)] rfl (.inr ⟨wr.heap.size+1,0,rfl,by simp,λi hi=>?_⟩) (by simp;omega) (ac A1.o.size (by simp)) (vA A1.o (qA _ _)) ?_)
    .have:i=0:=by simpa using hi
     subst this;exact⟨by simp[go_sem],by simp[go_sem]⟩
    .intro y w' A2 Q;clear N A1;go_wp2
     go_roundw
     case rel=>exact⟨k+1,by omega,by go_num,by rw[F.o,Yb,FE];exact A2,Q⟩
     case measure=>simp[intOf];omega
  .have e:k=12:=by omega
   subst e;go_wp2;go_ret;exact⟨_,rfl,qB A.o M.o.size,vA M.o D.o⟩
open Go.Proofs.Tryz
open Go.RowKit Go.Shelf
attribute [local go_sem] Oper.semAt_some
theorem Ta(h:k<l.length):l.reverse.drop k=l.getD (l.length - 1 - k) txz::l.reverse.drop (k+1):=by
 rw[me (by simpa using h),List.getElem_reverse,List.getD,Ic (by omega)];rfl
theorem yU(h:k<l.length)(b:Int):LB (l.reverse.drop k) b=if tA (l.getD (l.length - 1 - k) txz).rev b=I then 0 else if(uA b (l.getD (l.length - 1 - k) txz).info).isSome=I then 1 else LB (l.reverse.drop (k+1)) b:=by
 rw[Ta h,LB]
theorem QK{base:Nat}{A B:K}{row:Option Nat}(h:Below base w A)(hb:base<=w.heap.size)(e:A.grownBy B row)(Q:∀r,row=J r->base<=r):Below base w B:=
 h.trans ((Ub base A).grown e (ac hb h.size) Q)
theorem MK{tmps:Array E}{V:K}{b Q:Nat}{x y:Int}(hD:b<Q)(z:V.heap[Q]?=J (.deferred (J [])))(hB:Below w.heap.size w V)(hb:V.heap[b]?=J (.cells #[H G x] 3 (0,0)))(hw:w.heap.size<=b)
  (h4:tmps.getD 4 undef=C (J ⟨b,0,Z⟩)) (hy:x=y):
  bodyPostM Fence.wide n prog Tryz.f142 (λe w'=>e=.returned (H G y)/\Below w.heap.size w w') .ret ⟨tmps,[{target:=.collected Q,args:=#[]}]⟩ V:=by
 subst hy;refine mP [Q] V (by simp) (λr i=>by rw[Rc.1 i];exact z) ?_;have A0:(BF [Q] V).heap[b]?=J (.cells #[H G x] 3 (0,0)):=(vO [Q] V b (λr i=>by rw[Rc.1 i];omega)).trans hb;have B:=Hc (BF [Q] V) _ 0 _ _ _ A0;have A:tmps[4]?.getD undef=C (J ⟨b,0,Z⟩):=by simpa using h4
 refine⟨H G x,?_,rfl,hB.trans (WN [Q] V (λr i=>by rw[Rc.1 i];omega) (by simp) (λr i=>by rw[Rc.1 i];exact z))⟩;simp[results,results142,go_sem,A,B]
theorem ZZ(a:Option Addr)(c:Nat)(l:List Tx)(b:Int)(w:K)(h:SegTx w a l)(hn:l.length<=maxLen):
  Calls prog 142 #[M a l.length c,H G b] w λe w'=>e=.returned (H G (LB l.reverse b))/\Below w.heap.size w w':=by
 have HS:=zA h;clear h;refine(Dd (n:=9)).1 ?_;refine callsIn_of_wp_marks func142 rfl trivial ?_ rfl;simp only[ntmps142,List.size_toArray,List.length_cons,List.length_nil,Nat.reduceAdd,Nat.reduceSub,Array.replicate_succ,Array.replicate_zero,List.push_toArray,List.append_toArray,List.nil_append,List.cons_append]
 gi_wp2_with fail
 obtain⟨F0,S⟩:∃F0,F0=(w.alloc (.cells #[H G b] 3)).alloc (.cells #[H G 0] 3):=⟨_,rfl⟩;have C8:Below w.heap.size w F0:=by rw[S];exact vA (qA _ _) (qA _ _)
 have C4:F0.heap.size=w.heap.size+1+1:=by rw[S];simp
 have B9:F0.heap[w.heap.size]?=J (.cells #[H G b] 3 (0,0)):=by rw[S];exact sB (Ub _ _)
 have C5:(w.alloc (.cells #[H G b] 3)).heap.size=w.heap.size+1:=by simp
 have C9:F0.heap[w.heap.size+1]?=J (.cells #[H G 0] 3 (0,0)):=by rw[S,<-C5];exact Cc _ _
 rw[<-S];clear S C5;have B7:=zA C8;have C2:=zA B9;have D:=zA C9;have j:=zA C4;clear C8 B9 C9 C4;refine⟨trivial,(KX Fence.wide 8 trivial rfl a l.length c F0).mono ?_⟩;rintro e L ⟨rfl,z⟩;have A4:Below F0.heap.size F0 L:=by rw[z];exact qA _ _
 have cS:L.cell? ⟨F0.heap.size,0,Z⟩=J (M a l.length c):=by rw[z];simp[go_sem]
 have B8:L.heap.size=F0.heap.size+1:=by rw[z];simp
 have A6:=zA (vA B7.o A4);have D6:=zA (yA A4 (by have:=j.o;omega) C2.o);have A9:=zA (yA A4 (by have:=j.o;omega) D.o);have m:Hid (F0.heap.size=w.heap.size+1+1/\L.heap.size=w.heap.size+1+1+1):=⟨j.o,by rw[B8,j.o]⟩;have D5:=zA (HS.o.below A6.o);have D9:=zA cS;clear z cS A4 B8 C2 D B7 j
 gi_wp2_with fail
 obtain⟨cc,D2,B1⟩:=sY Fence.wide 8 trivial rfl (by decide) F0.heap.size c a l hn L (by have:=m.o;omega) D9.o D5.o;have D4:=zA B1;clear B1
 refine MX (F:=Fence.wide) (n:=9) rfl (by decide) (gf:=217) (lb:=#[C (J ⟨F0.heap.size,0,Z⟩)]) rfl trivial (enters_of func217 (by kernel_rfl) rfl)
  D2 (Ub _ _) KeepsR.trans KeepsR.put (λ_=>rfl)
  (λk V=>Below L.heap.size L V/\LB l.reverse b=LB (l.reverse.drop k) b)
  ?own ?start
  (λq V=>Below w.heap.size w V/\w.heap.size+1+1+1<=V.heap.size/\((q=.ret/\LB l.reverse b=0/\V.heap[w.heap.size+1]?=J (.cells #[H G 0] 3 (0,0)))\/(q=.exit 0/\LB l.reverse b=1/\V.heap[w.heap.size+1]?=J (.cells #[H G 0] 3 (0,0)))))
  ?ownS
  (λk a' V=>∃B6 A1 A2 t X c0 u c1 r d,a'=⟨#[M a l.length c,H G b,undef,C (J ⟨w.heap.size,0,Z⟩),C (J ⟨w.heap.size+1,0,Z⟩),undef,C (J ⟨B6,0,Z⟩),undef,undef,M a l.length c,.func (.func 217) #[] #[C (J ⟨F0.heap.size,0,Z⟩)],A1,A2,undef,undef,undef,undef,undef,undef,undef,undef,undef,undef,undef,undef],[]⟩/\Below L.heap.size L V/\LB l.reverse b=LB (l.reverse.drop k) b/\t=l.getD (l.length - 1 - k) txz/\L.heap.size<=B6/\V.heap[B6]?=J (.cells #[H G t.seq,M X t.info.length c0,M u t.data.length c1,M r t.rev.length d,Y t.h0.on,H G t.h0.left,Y t.h1.on,H G t.h1.left,Y t.h2.on,H G t.h2.left] 52 (0,0))/\IsTx L (.agg #[H G t.seq,M X t.info.length c0,M u t.data.length c1,M r t.rev.length d,Y t.h0.on,H G t.h0.left,Y t.h1.on,H G t.h1.left,Y t.h2.on,H G t.h2.left]) t)
  ?ownJ ?assign ?body ?done ?out
 case own=>
  rintro k A B row ⟨E8,E9⟩ N y;exact⟨QK E8 (Sb _) N (λr e=>(y r e).1),E9⟩
 case start=>exact⟨Ub _ _,rfl⟩
 case ownS=>
  rintro q A B row ⟨E8,E9,h3⟩ N y;have x:=m.o;have B5:B.heap[w.heap.size+1]?=A.heap[w.heap.size+1]?:=N.block _ (by omega) (λe=>by have:=(y _ e.symm).1;omega);exact⟨QK E8 (Sb _) N (λr e=>by have:=(y r e).1;omega),ac E9 N.size,by rw[B5];exact h3⟩
 case ownJ=>
  rintro k a' A B row ⟨B6,A1,A2,t,X,c0,u,c1,r,d,rfl,E8,E9,F3,D1,h6,hT⟩ N y;refine⟨B6,A1,A2,t,X,c0,u,c1,r,d,rfl,QK E8 (Sb _) N (λr e=>(y r e).1),E9,F3,D1,?_,hT⟩;refine(N.block _ (Wb.1 h6).1 (λe=>?_)).trans h6;obtain⟨_,o,F1,hc⟩:=y _ e.symm;rw[h6]at F1;cases F1;cases hc
 case assign=>
  rintro lp k V F6 A0 ⟨E8,E9⟩ D3 Q;unfold sJ;have hv:=D4.o (l.length - 1 - k) (by omega);obtain⟨t,F3⟩:∃t,t=l.getD (l.length - 1 - k) txz:=⟨_,rfl⟩;rw[<-F3]at hv;have A7:=hv;obtain⟨X,c0,u,c1,r,d,A8,_⟩:=hv;simp only[Value.agg.injEq]at A8;rw[A8]at A7|-;have C1:=λq (hq:q<V.heap.size)=>kd V (.cells #[H G t.seq,M X t.info.length c0,M u t.data.length c1,M r t.rev.length d,Y t.h0.on,H G t.h0.left,Y t.h1.on,H G t.h1.left,Y t.h2.on,H G t.h2.left] 52) q hq;have B0:=zA C1;have HK:=zA Q;have HT:=zA A7;have D7:=zA F3;have F4:=zA E8;have HR:=zA E9;clear C1 Q A7 A8 F3 E8 E9
  gi_wp2
  refine HK.o _ _ (B0.o _ (by omega)) (B0.o _ (by omega)) (λq _ o F1 _=>(B0.o q (Wb.1 F1).1).trans F1) ⟨V.heap.size,_,_,t,X,c0,u,c1,r,d,rfl,F4.o.alloc F4.o.size _,HR.o,D7.o,F4.o.size,Cc V _,HT.o⟩
 case body=>
  rintro lp k _ V A0 ⟨B6,A1,A2,t,X,c0,u,c1,r,d,rfl,E8,E9,F3,D1,h6,hT⟩ D3;have B4:=(hT.below E8).rows;obtain⟨hI,_,C3,C6,_,C0⟩:=B4;have x:=m.o;obtain⟨⟨y0,y1,y2,y3,y4,y5,y6,y7,y8,y9⟩,_⟩:=BA h6;have g3:=Hc V _ 0 _ _ _ (yA E8 (show w.heap.size<L.heap.size by omega) D6.o);have F2:=yA E8 (show w.heap.size+1<L.heap.size by omega) A9.o;have g4:=Hc V _ 0 _ _ _ F2;have f4:=jd V _ 0 _ _ F2;have hstep:=yU A0 b;rw[<-F3,<-E9]at hstep;have U:=zA hstep;have F4:=zA E8;have HI:=zA hI;have E2:=zA C3;have D:=zA F2;have D8:=E8.size;have E4:=zA C6;have E1:=zA C0
  have B3:∃b' A3,a=J ⟨b',A3,Z⟩/\b'<w.heap.size:=by
   rcases HS.o with e|⟨b',A3,e,F5,_⟩
   .rw[e]at A0;simp at A0
   .exact⟨b',A3,e,F5⟩
  have E0:=zA B3;clear E8 E9 F3 h6 hT hI C3 hstep x F2 y0 y2 y4 y5 y6 y7 y8 y9 C6 C0 B3
  gi_wp2_with fail
  refine⟨trivial,(CallsIn.inRound lp (Dd.2 (jI r d t.rev b V E2.o E1.o))).mono ?_⟩;rintro e V1 ⟨rfl,rfl⟩;by_cases hA:tA t.rev b=I
  .have R:Hid (LB l.reverse b=0):=by rw[Hid,U.o,Rb hA]
   rw[hA];clear hA U
   gi_wp2
   have x:=m.o;obtain⟨b',A3,E3,E7⟩:=E0.o;refine⟨⟨Sc _ _ _ _ (by simp only;omega),Sc _ _ _ _ (by simp only;omega)⟩,λq hq o F1 _=>(Sc _ _ _ _ ?_).trans F1,(vA A6.o F4.o).setCell (p:=⟨w.heap.size+1,0,Z⟩) (by simp only;omega) _,by simp only[World.setCell,Array.size_modify];omega,.inl ⟨rfl,R.o,zc _ _ 0 _ _ _ D.o⟩⟩;rcases hq with e|e
   .rw[e];simp only;omega
   .rw[e,E3];simp only[TH];omega
  .have B2:tA t.rev b=O:=by simpa using hA
   rw[B2]
   gi_wp2_with fail
   refine⟨trivial,(CallsIn.inRound lp (Dd.2 (xI X c0 t.info b V HI.o E4.o))).mono ?_⟩;rintro e V1 ⟨rfl,A5⟩;by_cases hG:(uA b t.info).isSome=I
   .have R:Hid (LB l.reverse b=1):=by rw[Hid,U.o,Qb hA,Rb hG]
    have E:=zA A5;rw[hG];clear hA B2 hG U A5
    gi_wp2
    have x:=m.o;have E6:=E.o.size;exact⟨⟨E.o.block _ (by omega),E.o.block _ (by omega)⟩,λq _ o F1 _=>yA E.o (Wb.1 F1).1 F1,vA (vA A6.o F4.o) E.o,by omega,.inr ⟨rfl,R.o,yA E.o (by omega) D.o⟩⟩
   .have R:Hid (LB l.reverse b=LB (l.reverse.drop (k+1)) b):=by rw[Hid,U.o,Qb hA,Qb hG]
    have C7:(uA b t.info).isSome=O:=by simpa using hG
    have E:=zA A5;rw[C7];clear hA B2 hG C7 U A5
    gi_wp2
    have x:=m.o;exact⟨⟨E.o.block _ (by omega),E.o.block _ (by omega)⟩,λq _ o F1 _=>yA E.o (Wb.1 F1).1 F1,vA F4.o E.o,R.o⟩
 case done=>
  rintro Dm V hD ⟨E8,E9⟩ Q;have x:=m.o;have D8:=E8.size;have F2:=yA E8 (show w.heap.size+1<L.heap.size by omega) A9.o;have g4:=Hc V _ 0 _ _ _ F2;have f4:=jd V _ 0 _ _ F2;have R:Hid (LB l.reverse b=1):=by rw[Hid,E9,Gd (by simp)];rfl
  have s:=zA (vA A6.o E8);have D:=zA F2;have i:=zA Q;have E5:=(Wb.1 Q).1;clear E8 E9 Q F2
  gi_wp2
  refine MK (b:=w.heap.size+1) (by omega) ((Sc _ _ _ _ (by simp only;omega)).trans i.o) (s.o.setCell (p:=⟨w.heap.size+1,0,Z⟩) (by simp only;omega) _) (zc _ _ 0 _ _ _ D.o) (by omega) rfl R.o.symm
 case out=>
  rintro q Dm V hD ⟨E8,E9,h3⟩ Q;have x:=m.o;rcases h3 with⟨rfl,h4,h5⟩|⟨rfl,h4,h5⟩
  .have R:=zA h4;have s:=zA E8;have D:=zA h5;have i:=zA Q;clear h4 E8 h5 Q
   gi_wp2
   exact MK (b:=w.heap.size+1) (by omega) i.o s.o D.o (by omega) rfl R.o.symm
  .have g4:=Hc V _ 0 _ _ _ h5;have f4:=jd V _ 0 _ _ h5;have R:=zA h4;have s:=zA E8;have D:=zA h5;have i:=zA Q;clear h4 E8 h5 Q
   gi_wp2
   exact MK (b:=w.heap.size+1) (by omega) ((Sc _ _ _ _ (by simp only;omega)).trans i.o) (s.o.setCell (p:=⟨w.heap.size+1,0,Z⟩) (by simp only;omega) _) (zc _ _ 0 _ _ _ D.o) (by omega) rfl R.o.symm
section
variable {j:Jn} {D:Dk}
theorem JL{u:Int}(a:0<=h)(b:h<=23)(c:0<=u)(d:u<=24):mB h u=I:=by simp[mB];omega
theorem Md.ringR(h:Md j D):mB j.rh j.ru=I:=by
 cases h with
 |idle p hs hz hD ht hq=>have:=ht.range;exact JL (by omega) (by omega) (by omega) (by omega)
 |commit P U k p hw hk hs hD ht he hse hrh hru hq hN=>
  have hr:=ht.range;obtain⟨_,hg,_,A1,A0⟩:=uD he;have A:=he;unfold NA at A;split at A
  .cases A
  rename_i hc;have C:lB P U j.sealed=(P+needN j.sealed.info.length j.sealed.rev.length)%24:=by rw[lB,Rb he,takeH,Rb A]
  have B:cB P U j.sealed=U+needN j.sealed.info.length j.sealed.rev.length:=by rw[cB,Rb he,takeU,Rb A]
  have A2:U+needN j.sealed.info.length j.sealed.rev.length<=24:=by
   unfold takeE at A;split at A
   .cases A
   split at A
   .cases A
   .omega
  have h0:0<=needN j.sealed.info.length j.sealed.rev.length:=by
   unfold takeE at A;split at A
   .cases A
   .omega
  rw[hrh,hru,C,B];exact JL (by omega) (by omega) (by omega) (by omega)
 |check k p hw hz hk hs hD ht hq=>have:=ht.range;exact JL (by omega) (by omega) (by omega) (by omega)
 |off l N P U p hs hf hD ht=>rw[p.rh,p.ru];rfl
 |back U k p hw hk hs hD ht=>rw[p.rh,p.ru];rfl
end
theorem PJ.ringR(h:PJ j):mB j.rh j.ru=I:=by
 obtain⟨D,A,h2,h3⟩:=h;exact A.ringR
section
variable (j:Jn) (D:Dk) (j':Jn) (D':Dk) (b:Nat)
structure SameB:Prop where
 hi:uA b j'.now.info=uA b j.now.info
 hd:uA b j'.now.data=uA b j.now.data
 hv:tA j'.now.rev b=tA j.now.rev b
 hq:j'.now.seq=j.now.seq
 hs:j'.sealed=j.sealed
 hdn:j'.done=j.done
 hr:j'.role b=j.role b
 hf:j'.freed b=j.freed b
 hl:j'.last=j.last
 hD:D'=D
structure WriteB (s:ByteArray):Prop where
 hi:uA b j'.now.info=some s
 hd0:uA b j.now.data=none
 hd:uA b j'.now.data=none
 hv:tA j'.now.rev b=false
 hq:j'.now.seq=j.now.seq
 hs:j'.sealed=j.sealed
 hdn:j'.done=j.done
 hr:j'.role b=1
 hr0:j.role b≠2
 hf:j'.freed b=j.freed b
 hl:j'.last=j.last
 hD:D'=D
structure FillB (s:ByteArray):Prop where
 hi0:uA b j.now.info=none
 hv0:tA j.now.rev b=false
 hi:uA b j'.now.info=none
 hv:tA j'.now.rev b=false
 hd:uA b j'.now.data=some s
 hq:j'.now.seq=j.now.seq
 hs:j'.sealed=j.sealed
 hdn:j'.done=j.done
 hr:j'.role b=2
 hr0:j.role b≠1
 hf0:j.freed b<=j.last
 hf:j'.freed b=j.freed b
 hl:j'.last=j.last
 hD:D'=D
structure RevokeB:Prop where
 hi:uA b j'.now.info=none
 hd:uA b j'.now.data=none
 hv:tA j'.now.rev b=true
 hq:j'.now.seq=j.now.seq
 hs:j'.sealed=j.sealed
 hdn:j'.done=j.done
 hr:j'.role b=0
 hr0:j.role b≠0
 hf:j'.freed b=j.now.seq
 hl:j'.last=j.last
 hD:D'=D
structure CommitB:Prop where
 hz:j.sealed=gA 0
 hs:j'.sealed=j.now
 hn:j'.now=gA (j.now.seq+1)
 hq:j.now.seq=j.last+1
 hdn:j'.done=j.done
 hr:j'.role b=j.role b
 hf:j'.freed b=j.freed b
 hl:j'.last=j.last
 hD:D'=D
structure ThroughB:Prop where
 hs:j'.sealed=gA 0
 hn:j'.now=j.now
 hse:j.sealed.seq=j.last+1
 hq:j.now.seq=j.last+2
 hdn:j'.done=j.done++[j.sealed]
 hr:j'.role b=j.role b
 hf:j'.freed b=j.freed b
 hl:j'.last=j.last+1
 hh:jA D' ((25+b:Nat):Int)=(uA b j.sealed.data).getD (jA D ((25+b:Nat):Int))
structure HomeB:Prop where
 hz:j.sealed=gA 0
 hs:j'.sealed=gA 0
 hn:j'.now=j.now
 hdn:j'.done=[]
 hr:j'.role b=j.role b
 hf:j'.freed b=j.freed b
 hl:j'.last=j.last
 hh:jA D' ((25+b:Nat):Int)=(newestF j.done b).getD (jA D ((25+b:Nat):Int))
inductive KpB:Prop
 |same (h:SameB j D j' D' b)
 |commit (h:CommitB j D j' D' b)
 |through (h:ThroughB j D j' D' b)
 |home (h:HomeB j D j' D' b)
inductive EvB:Prop
 |keep (h:KpB j D j' D' b)
 |write (s:ByteArray) (h:WriteB j D j' D' b s)
 |fill (s:ByteArray) (h:FillB j D j' D' b s)
 |revoke (h:RevokeB j D j' D' b)
end
inductive Ev (j:Jn)(D:Dk)(a:Ac)(j':Jn)(r:Rp)(D':Dk):Prop
 |calm (hd:j'.down=j.down) (hD:D'=D) (all:∀b:Nat,b<12->SameB j D j' D' b) (hk:r.code=0->a.kind≠2/\a.kind≠3/\a.kind≠4/\a.kind≠6/\a.kind≠10) (h8:a.kind=8->r.n=0)
   (h9:r.code=0->a.kind=9->∃b:Nat,b<12/\a.b=b/\textJ j b=(r.text,0)/\j.down=false)
 |write (b:Nat) (hb:b<12) (hab:a.b=b) (hk:a.kind=2) (hu:j.down=false) (hu':j'.down=false) (hc:r=eA 0) (here:WriteB j D j' D' b (fitT a.text)) (others:∀x:Nat,x<12->x≠b->SameB j D j' D' x)
 |fill (b:Nat) (hb:b<12) (hab:a.b=b) (hk:a.kind=3) (hu:j.down=false) (hu':j'.down=false) (hc:r=eA 0) (here:FillB j D j' D' b (fitT a.text)) (others:∀x:Nat,x<12->x≠b->SameB j D j' D' x)
 |revoke (b:Nat) (hb:b<12) (hab:a.b=b) (hk:a.kind=4) (hu:j.down=false) (hu':j'.down=false) (hc:r=eA 0) (here:RevokeB j D j' D' b) (others:∀x:Nat,x<12->x≠b->SameB j D j' D' x)
 |commit (hk:a.kind=6) (hu:j.down=false) (hu':j'.down=false) (hc:r.code=0) (hn:r.n=j.last+1) (all:∀b:Nat,CommitB j D j' D' b)
 |through (hk:a.kind=8) (hu:j.down=false) (hu':j'.down=false) (hc:r.code=0) (hn:r.n=j.last+1) (all:∀b:Nat,b<12->ThroughB j D j' D' b)
 |home (hk:a.kind=8) (hu:j.down=false) (hu':j'.down=false) (hc:r=eA 0) (all:∀b:Nat,b<12->HomeB j D j' D' b)
 |on (hk:a.kind=8) (hd:j.down=true) (hu':j'.down=false) (hc:r=eA 0) (hl:j'.last=fndN D - 1) (hs:j'.sealed=gA 0) (hn:j'.now=gA (fndN D)) (hdn:j'.done=[]) (hr:∀b:Nat,j'.role b=LB (fndL D).reverse b) (hf:∀b:Nat,j'.freed b=0)
   (hdk:j'.disk=D') (hh:∀b:Nat,b<12->jA D' ((25+b:Nat):Int)=CC D b)
 |crash (hk:a.kind=10) (hu':j'.down=true) (hc:r=eA 0) (hl:j'.last=j.last) (left:Left j D D')
section
variable {j:Jn} {D:Dk} {a:Ac} {j':Jn} {r:Rp} {D':Dk}
end
section
variable {j:Jn} {D:Dk}
theorem rL{S:List St}{s:St}{r:List St}(Q:∀s∈S,zC s)(hl:S.length<=50)(z:cA D=I)(e:D.wr=[])(y:s::r=S.drop k):dC (runK D (S.take k)) s=0:=by
 obtain⟨C,_,e3⟩:=rG y;have B:s∈S:=Yc C;have A:=WC (S.take k) D (λu i=>Q u (bd i)) z (by rw[e,Nc];simp;omega);refine ES (Q s B) A.1 ?_;have:=A.2;rw[e,Nc]at this;simp at this;omega
theorem pO{N:Int}(Q:∀t∈l,nA t=I)(h:pB (newestL l) P N=0):(∀s∈checkS (newestL l) P N,zC s)/\(checkS (newestL l) P N).length<=15/\checkS (newestL l) P N≠[]:=by
 obtain⟨A,C⟩:=PE h;have D:oA (encT (superMk P N))=I:=by have:=gE C;simp[oA];omega
 have B:=RH Q;have A0:=SE B;rw[A];exact⟨fG B D,by simp[putR];omega,by simp[putR]⟩
theorem Md.stepE(h:Md j D){s:St}{r:List St}(Q:j.steps=s::r):dC j.disk s=0:=by
 cases h with
 |idle p hs2 hz hD ht hq=>rw[hs2]at Q;cases Q
 |commit P U k p hw hk hs2 hD ht he hse hrh hru hq hN=>
  obtain⟨C,B⟩:=yH he;rw[hD];exact rL C B ht.good ht.clean (Q.symm.trans hs2)
 |check k p hw hz hk hs2 hD ht hq=>
  have E:=ht.check;have e:=ht.goods;rw[CE]at E;have F:∀t∈j.done.map toldOf,nA t=I:=e;have A:=pO F (by rw[CE];exact E);rw[CE]at A;rw[hD];exact rL A.1 (by omega) ht.good ht.clean (Q.symm.trans hs2)
 |off l N P U p hs2 hf hD ht=>rw[hs2]at Q;cases Q
 |back U k p hw hk hs2 hD ht=>
  have A:=pO ht.goods ht.check;rw[hD];exact rL A.1 (by omega) ht.good ht.clean (Q.symm.trans hs2)
theorem Md.work(h:Md j D)(hd:j.down=I)(Q:j.steps≠[]):j.work=11:=by
 cases h with
 |idle p=>rw[p.up]at hd;cases hd
 |commit P U k p=>rw[p.up]at hd;cases hd
 |check k p=>rw[p.up]at hd;cases hd
 |off l N P U p hs2=>exact absurd hs2 Q
 |back U k p hw=>exact hw
end
theorem lR{l:List (Int×ByteArray)}(h:(uA b l).isSome=I):b∈blksOf l:=by
 induction l with
 |nil=>cases h
 |cons y l ih=>
  rw[uA]at h;by_cases e:y.1=b
  .simp[blksOf,e]
  .rw[Qb e]at h;have:=ih h;simp only[blksOf,List.map_cons,List.mem_cons]at this|-;exact .inr this
theorem SZ(h:nA t=I)(Q:tA t.rev b=I):(uA b t.info).isSome=O:=by
 obtain⟨_,_,_,A,_⟩:=(VA t).1 h;unfold YC at A;rw[Bf]at A
 cases hs:(uA b t.info).isSome with
 |false=>rfl
 |true=>
  rw[tA,Ve]at Q;obtain⟨y,B,e⟩:=Q;have:=A.2.2 b (lR hs) y (by simp[B]);exact absurd (by simpa using e:y=b).symm this
theorem Kb(l:List Tx):docF (l.map toldOf)=docF l:=by
 unfold docF;rw[List.foldl_map];rfl
theorem SP{N:Int}(h:pB (newestL l) P N=0):¬checkS (newestL l) P N=[]:=by
 rw[(PE h).1];simp[putR]
theorem PJ.rj(h:PJ j):RJ j:=by
 have L:=h.ringR;obtain⟨D,m,J,M⟩:=h;have rd:=m.ready J M
 have E:asN (docF j.done) 12=newestL j.done:=by
  have key:∀{N P U:Int},Tells D (j.done.map toldOf) N P U->asN (docF j.done) 12=newestL j.done:=λA=>by
   have:=yP A.goods;rw[CE,Kb]at this;exact this.symm
  cases m with
  |idle p B hz hD A K=>exact key A
  |commit P U k p hw hk B hD A=>exact key A
  |check k p hw hz hk B hD A=>exact key A
  |off l N P U p=>rw[p.done];rfl
  |back U k p=>rw[p.done];rfl
 refine⟨J,M,λhd=>(m.pow hd).good,rd.used0,rd.used1,rd.seq,rd.last,m.disk,⟨λs r B=>m.stepE B,?_,rd.done,?_,rd.next,?_⟩,?_,E,?_,?_⟩
 .intro F
  cases m with
  |idle p B=>exact absurd B F
  |commit P U k p hw=>exact .inl hw
  |check k p hw=>exact .inr (.inl hw)
  |off l N P U p B=>exact absurd B F
  |back U k p hw=>exact .inr (.inr hw)
 .cases m with
  |idle p=>rw[p.fL];exact Vb _
  |commit P U k p=>rw[p.fL];exact Vb _
  |check k p=>rw[p.fL];exact Vb _
  |off l N P U p B hf=>rw[hf.1];exact Vb _
  |back U k p hw hk B hD A=>have:=OH D;rw[A.tL]at this;omega
 .intro t A b Q
  cases m with
  |idle p=>rw[p.fL]at A;cases A
  |commit P U k p=>rw[p.fL]at A;cases A
  |check k p=>rw[p.fL]at A;cases A
  |off l N P U p B hf=>rw[hf.1]at A;cases A
  |back U k p hw hk B hD hT=>exact SZ (hT.goods t A) Q
 .intro B hd I O K;have p:=m.pow hd;have hn:=lW p.good;have hm:=p.room (by rw[xH,I,O];rfl)
  have e:NA j.rh j.ru j.now=0:=by
   unfold NA
   have A0:0<=needN (j.now.info.length:Int) (j.now.rev.length:Int):=by
    unfold needN
    repeat' split
    all_goals omega
   rw[Qb (by rw[L,p.good,I];simp),takeE,Qb (by rw[L];simp;omega),Qb (by omega)]
  obtain⟨R,_⟩:=uD e;exact⟨e,by rw[R];simp⟩
 .intro B hd F
  cases m with
  |idle p hs2 hz hD A K=>
   have C:=A.check;rw[CE]at C;exact⟨C,SP C,E⟩
  |commit P U k p hw hk hs2=>
   rw[B]at hs2;have:=congrArg List.length hs2;rw[Uc]at this;simp at this;omega
  |check k p hw hz hk hs2=>
   rw[B]at hs2;have:=congrArg List.length hs2;rw[Uc]at this;simp at this;omega
  |off l N P U p=>rw[p.off]at hd;cases hd
  |back U k p=>rw[p.off]at hd;cases hd
 .intro B hd
  cases m with
  |idle p=>rw[p.up]at hd;cases hd
  |commit P U k p=>rw[p.up]at hd;cases hd
  |check k p=>rw[p.up]at hd;cases hd
  |off l N P U p hs2 hf hD A=>
   have C:=A.check;rw[hD,A.tL,A.tN,A.tP];exact⟨A.tE,C,SP C,(yP A.goods).symm⟩
  |back U k p hw hk hs2=>
   rw[B]at hs2;have:=congrArg List.length hs2;rw[Uc]at this;simp at this;omega
def wkR (j:Jn):Int:=if j.steps=[] then 0 else if j.work=6 then 1 else if j.work=7 then 2 else 3
def fA (j:Jn)(V:Sl):Array E:=#[M V.da j.disk.safe.length V.dc,M V.db j.disk.wr.length V.dd,Y j.down,H G j.rh,H G j.ru,H G j.now.seq,M V.na j.now.info.length V.nc,M V.nb j.now.data.length V.nd,M V.ne j.now.rev.length V.nf,Y j.now.h0.on,H G j.now.h0.left,Y j.now.h1.on,H G j.now.h1.left,Y j.now.h2.on,H G j.now.h2.left,H G j.sealed.seq,M V.sa j.sealed.info.length V.sc,M V.sb j.sealed.data.length V.sd,M V.se j.sealed.rev.length V.sf,Y j.sealed.h0.on,H G j.sealed.h0.left,Y j.sealed.h1.on,H G j.sealed.h1.left,Y j.sealed.h2.on,H G j.sealed.h2.left,M V.ca j.done.length V.cc,H G (j.role 0),H G (j.role 1),H G (j.role 2),H G (j.role 3),H G (j.role 4),H G (j.role 5),H G (j.role 6),H G (j.role 7),H G (j.role 8),H G (j.role 9),H G (j.role 10),H G (j.role 11),H G (j.freed 0),H G (j.freed 1),H G (j.freed 2),H G (j.freed 3),H G (j.freed 4),H G (j.freed 5),H G (j.freed 6),H G (j.freed 7),H G (j.freed 8),H G (j.freed 9),H G (j.freed 10),H G (j.freed 11),H G (wkR j),M V.ta j.steps.length V.tc,M V.fa j.fL.length V.fc,H G j.fN,H G j.fP,H G j.last,H G j.acts]
def RBox (w:K)(R:Nat)(j:Jn)(V:Sl):Prop:=w.heap[R]?=J (.cells (fA j V) 59 (0,0))
def RAt (w:K)(R:Nat)(X:List Nat)(j:Jn):Prop:=R∈X/\∃V,RBox w R j V/\RowsR (aA w X) j V
section
variable {w w':World} {R:Nat} {X:List Nat} {j j':Jn} {V V':Sl}
theorem RBox.lt(h:RBox w R j V):R<w.heap.size:=(Wb.1 h).1
theorem RBox.cell(h:RBox w R j V)(k:Nat):w.cell? ⟨R,k,Z⟩=(fA j V)[k]?:=Hc w _ _ _ _ _ h
theorem RBox.set(h:RBox w R j V)(k:Nat)(v:E)(e:(fA j V).setIfInBounds k v=fA j' V'):RBox (w.setCell ⟨R,k,Z⟩ v) R j' V':=by
 unfold RBox;rw[zc _ _ k _ _ _ h,e]
theorem RAt.lt(h:RAt w R X j):R<w.heap.size:=by
 obtain⟨_,V,A,_⟩:=h;exact A.lt
theorem RAt.but(h:RAt w R X j){Y:List Nat}(hb:ButL Y w.heap.size w w')(e:∀y∈Y,y∈X)(Q:R∉Y):RAt w' R X j:=by
 obtain⟨C,V,A,B⟩:=h;exact⟨C,V,(hb.block R A.lt Q).trans A,B.ext (Ext.butL (hb.wider e))⟩
theorem RAt.below(h:RAt w R X j)(hb:Below w.heap.size w w'):RAt w' R X j:=h.but (Y:=[]) (ButL.of_below hb) (by simp) (by simp)
theorem RAt.more{b:Nat}(h:RAt w R X j)(hb:Below w.heap.size w w')(Q:w.heap.size<=b):RAt w' R (b::X) j:=by
 obtain⟨C,V,A,B⟩:=h;exact⟨by simp[C],V,yA hb A.lt A,B.ext (Ext.newL hb Q)⟩
theorem RAt.less{b:Nat}(h:RAt w R (b::X) j)(Q:R∈X):RAt w R X j:=by
 obtain⟨_,V,A,B⟩:=h;exact⟨Q,V,A,B.ext (Ext.lessL b)⟩
theorem RAt.set{b:Nat}(h:RAt w R X j)(hb:b∈X)(Q:b≠R)(k:Nat)(u:E):RAt (w.setCell ⟨b,k,Z⟩ u) R X j:=
 h.but ((ButL.refl [b] _ w).set (.inl (by simp)) k u) (by simpa using hb) (by simpa using Ne.symm Q)
theorem RowsR.kept(h:RowsR (aA w X) j V)(hb:ButL X w.heap.size w w'):RowsR (aA w' X) j V:=h.ext (Ext.butL hb)
end
def nD (w:K)(R:Nat)(X:List Nat)(q:Jn×Rp)(e:Ending)(w':K):Prop:=e=.returned (vRp q.2)/\RAt w' R X q.1/\ButL [R] w.heap.size w w'
open Go.Proofs.Tryz
theorem wb(t:Tx)(a:Option Addr)(c:Nat)(b:Option Addr)(d:Nat)(e:Option Addr)(f:Nat)(h:Int)(w:K)(i:IsTx w (txv t a c b d e f) t)(Q:nA t=I):
  Calls prog 89 #[txv t a c b d e f,H G h] w λx w'=>x=.returned (S #[txv (stopT t h) a c b d e f,H G (stopE t h)])/\Below w.heap.size w w':=by
 have C:Hid (stopE t h=if h<0\/2<h\/(IA t h).on=O then 4 else 0):=by rw[Hid,stopE,Qb (by rw[Q];decide)]
 have D:Hid (stopE t h=4->stopT t h=t):=λe=>by rw[stopT,Qb (by rw[e];decide)]
 have J:Hid (stopE t h=0->stopT t h=QB t h ⟨O,0⟩):=λe=>by rw[stopT,Rb e]
 have M:=zA i;have L:=zA Q;clear i Q;unfold txv txc at *;go_enter func89,ntmps89;go_wp2_with fail;refine(pF t a c b d e f _ (M.o.below (vA (qA _ _) (qA _ _))) L.o).mono ?_;rintro _ F ⟨rfl,A⟩;have A1:w.heap.size+1<F.heap.size:=by have:=A.size;simp at this;omega
 have A0:w.heap.size<F.heap.size:=by omega
 obtain⟨x,xf⟩:=kA (sB A);obtain⟨y,yf⟩:=kA (JB A);have B:=zA (vA (vA (qA _ _) (qA _ _)) A);clear A;have A2:h<0\/2<h\/h=0\/h=1\/h=2:=by omega
 rcases A2 with h1|h1|h1
 .have E:=zA (C.o.trans (Rb (.inl h1)));go_wp2;refine Tb (by simp[results,results89,go_sem,y];rfl) rfl ⟨by rw[D.o E.o,E.o],?_⟩
  repeat refine Zb ?_ (by simp) _
  exact B.o
 .have E:=zA (C.o.trans (Rb (.inr (.inl h1))));have h2:¬h<0:=by omega
  go_wp2;refine Tb (by simp[results,results89,go_sem,y];rfl) rfl ⟨by rw[D.o E.o,E.o],?_⟩
  repeat refine Zb ?_ (by simp) _
  exact B.o
 .cases ho:(IA t h).on with
  |false=>
   have E:=zA (C.o.trans (Rb (.inr (.inr ho))));rcases h1 with rfl|rfl|rfl
   all_goals
    simp[IA]at ho;have z:=zA ho;rw[ho]at x;go_wp2;refine Tb (by simp[results,results89,go_sem,y];rfl) rfl ⟨by rw[D.o E.o,E.o,z.o],?_⟩
    repeat refine Zb ?_ (by simp) _
    exact B.o
  |true=>
   have E:=zA (C.o.trans (Qb (by rw[ho];simp;omega)));rcases h1 with rfl|rfl|rfl
   all_goals
    simp[IA]at ho;have z:=zA ho;rw[ho]at x;go_wp2;refine Tb (by simp[results,results89,go_sem,y];rfl) rfl ⟨by rw[J.o E.o,E.o];rfl,?_⟩
    repeat refine Zb ?_ (by simp) _
    exact B.o
theorem TW(t:Tx)(a:Option Addr)(c:Nat)(b:Option Addr)(d:Nat)(e:Option Addr)(f:Nat)(h n free:Int)(w:K)(hT:IsTx w (txv t a c b d e f) t)(hg:nA t=I):
  Calls prog 88 #[txv t a c b d e f,H G h,H G n,H G free] w λx w'=>x=.returned (S #[txv (beginT t h n free) a c b d e f,H G (beginE t h n free)])/\Below w.heap.size w w':=by
 have N:Hid (beginE t h n free=if h<0\/2<h then 4 else if(IA t h).on=I then 5 else if n<0\/12<n then 2 else if 24<jB t+n\/free<RA (jB t+n) then 6 else 0):=by rw[Hid,beginE,Qb (by rw[hg];decide)]
 have L:Hid (¬beginE t h n free=0->beginT t h n free=t):=λe=>by rw[beginT,Qb e]
 have HY:Hid (beginE t h n free=0->beginT t h n free=QB t h ⟨I,n⟩):=λe=>by rw[beginT,Rb e]
 have C:=IE hg;have HT:=zA hT;have HG:=zA hg;clear hT hg;unfold txv txc at *;go_enter func88,ntmps88;go_wp2_with fail;refine(pF t a c b d e f _ (HT.o.below (vA (qA _ _) (qA _ _))) HG.o).mono ?_;rintro _ i ⟨rfl,D⟩;have s:w.heap.size+1<i.heap.size:=by have:=D.size;simp at this;omega
 have X:w.heap.size<i.heap.size:=by omega
 have A4:=zA (sB D);have m:=zA (JB D);obtain⟨x,k⟩:=kA (sB D);obtain⟨y,j⟩:=kA (JB D);have B:=zA (vA (vA (qA _ _) (qA _ _)) D);clear D;have hh:h<0\/2<h\/h=0\/h=1\/h=2:=by omega
 rcases hh with h1|h1|h1
 .have E:=zA (N.o.trans (Rb (.inl h1)));have A:=zA (L.o (by rw[E.o];decide));clear C;go_wp2;refine Tb (by simp[results,results88,go_sem,y];rfl) rfl ⟨by rw[A.o,E.o],?_⟩
  repeat refine Zb ?_ (by simp) _
  exact B.o
 .have E:=zA (N.o.trans (Rb (.inr h1)));have A:=zA (L.o (by rw[E.o];decide));have h2:¬h<0:=by omega
  clear C;go_wp2;refine Tb (by simp[results,results88,go_sem,y];rfl) rfl ⟨by rw[A.o,E.o],?_⟩
  repeat refine Zb ?_ (by simp) _
  exact B.o
 .have Y:=zA (N.o.trans (Qb (by omega)))
  cases ho:(IA t h).on with
  |true=>
   have E:=zA (Y.o.trans (Rb ho));have A:=zA (L.o (by rw[E.o];decide));clear C;rcases h1 with rfl|rfl|rfl
   all_goals
    simp[IA]at ho;have A3:=zA ho;rw[ho]at x;go_wp2;refine Tb (by simp[results,results88,go_sem,y];rfl) rfl ⟨by rw[A.o,E.o,A3.o],?_⟩
    repeat refine Zb ?_ (by simp) _
    exact B.o
  |false=>
   have U:=zA (Y.o.trans (Qb (by rw[ho];simp)));clear N Y;rcases h1 with rfl|rfl|rfl
   all_goals
    simp[IA]at ho;have A3:=zA ho;rw[ho]at x A4;have O:=HT;rw[ho]at O;clear ho;by_cases hn:n<0\/12<n
    .have E:=zA (U.o.trans (Rb hn));have A:=zA (L.o (by rw[E.o];decide));clear C;by_cases z:n<0
     .clear hn;go_wp2;refine Tb (by simp[results,results88,go_sem,y];rfl) rfl ⟨by rw[A.o,E.o,A3.o],?_⟩
      repeat refine Zb ?_ (by simp) _
      exact B.o
     .have l:12<n:=by omega
      clear hn;go_wp2;refine Tb (by simp[results,results88,go_sem,y];rfl) rfl ⟨by rw[A.o,E.o,A3.o],?_⟩
      repeat refine Zb ?_ (by simp) _
      exact B.o
    .have A2:=zA (U.o.trans (Qb hn));have z:¬n<0:=by omega
     have l:¬12<n:=by omega
     have u:=C.2.1;have r:=C.2.2;clear hn C U;go_wp2_with fail;refine(SS _ t _ (O.o.below B.o)).mono ?_;rintro _ Z ⟨rfl,J⟩;have A1:w.heap.size+1<Z.heap.size:=by have:=J.size;omega
     have A0:w.heap.size<Z.heap.size:=by omega
     clear x k y j;obtain⟨x,k⟩:=kA (yA J X A4.o);obtain⟨y,j⟩:=kA (yA J s m.o);have M:=zA (vA B.o J);clear J B A4 m;obtain⟨q,p⟩:∃q,q=jB t:=⟨_,rfl⟩;rw[<-p]at A2 u r|-;clear p;by_cases hr1:24<q+n
     .have E:=zA (A2.o.trans (Rb (.inl hr1)));have A:=zA (L.o (by rw[E.o];decide));clear A2;go_wp2;refine Tb (by simp[results,results88,go_sem,y];rfl) rfl ⟨by rw[A.o,E.o,A3.o],?_⟩
      repeat refine Zb ?_ (by simp) _
      exact M.o
     .have F:=DR (q+n) Z;obtain⟨R,Q⟩:∃R,R=RA (q+n):=⟨_,rfl⟩;rw[<-Q]at F A2;clear Q;by_cases hr2:free<R
      .have E:=zA (A2.o.trans (Rb (.inr hr2)));have A:=zA (L.o (by rw[E.o];decide));clear A2;go_wp2_with fail;refine F.mono ?_;rintro _ w3 ⟨rfl,rfl⟩;go_wp2;refine Tb (by simp[results,results88,go_sem,y];rfl) rfl ⟨by rw[A.o,E.o,A3.o],?_⟩
       repeat refine Zb ?_ (by simp) _
       exact M.o
      .have E:=zA (A2.o.trans (Qb (by omega)));have A:=zA (HY.o E.o);clear A2;go_wp2_with fail;refine F.mono ?_;rintro _ w3 ⟨rfl,rfl⟩;go_wp2;refine Tb (by simp[results,results88,go_sem,y];rfl) rfl ⟨by rw[A.o,E.o];rfl,?_⟩
       repeat refine Zb ?_ (by simp) _
       exact M.o
theorem kD(c:Int)(w:K):Calls prog 32 #[H G c] w λe w'=>e=.returned (F #[H G c,H G 0,A ⟨#[]⟩])/\Below w.heap.size w w':=by
 go_enter func32,ntmps32;go_wp2;refine Tb (by simp[results,results32,go_sem]) rfl ⟨rfl,?_⟩
 repeat refine Zb ?_ (by simp) _
 exact qA _ _
theorem uI(c:Int)(w:K):Calls prog 84 #[H G c] w λe w'=>e=.returned (F #[H G c,H G 0,A ⟨#[]⟩])/\Below w.heap.size w w':=by
 go_enter func84,ntmps84;go_wp2;refine Tb (by simp[results,results84,go_sem]) rfl ⟨rfl,?_⟩
 repeat refine Zb ?_ (by simp) _
 exact qA _ _
