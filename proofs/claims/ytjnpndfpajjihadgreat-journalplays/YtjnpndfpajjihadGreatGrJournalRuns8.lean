import Derived.Test.YtjnpndfpajjihadGreatGrJournalRuns7
import Derived.Laws.CopyOwn
set_option maxRecDepth 100000
set_option maxHeartbeats 40000000
namespace Go.Proofs.YtjnpndfpajjihadGreat
open Go.RowKit
open Value renaming int -> H,slice -> M,string -> A,agg -> F,tuple -> S
open IntKind renaming i64 -> G
open Option renaming none -> Z,some -> J
open Bool renaming false -> O,true -> I
open Go renaming World -> K,Value -> E
open Obj renaming cells -> T
open Ending renaming returned -> N
open _root_.ByteArray renaming empty -> U
variable{base g k m:Nat}{d:Dk}{l:List ByteArray}{n:Int}{s:ByteArray}{w:World}
def row (s:ByteArray)(n m:Nat):List E:=List.replicate n (A s)++List.replicate m (A ⟨#[]⟩)
def reps (s:ByteArray)(k:Nat):List E:=List.replicate k (A s)
theorem LF(s:ByteArray)(k:Nat):(reps s k).length=k:=by simp[reps]
theorem XO{j:Nat}{u:E}(h:(reps s k)[j]?=J u):j<k/\u=A s:=by
 rw[reps,jg]at h;split at h
 .exact⟨by assumption,by cases h;rfl⟩
 .cases h
theorem EN(s:ByteArray)(n m:Nat):(row s n m).length=n+m:=by simp[row]
theorem NQ(s:ByteArray)(n m k:Nat):splice (row s n m) n (reps s k)=row s (n+k) (m - k):=by
 have B:(row s n m).take n=List.replicate n (A s):=by simp[row]
 have D:(row s n m).drop (n+k)=List.replicate (m - k) (A ⟨#[]⟩):=by simp[row,List.drop_append]
 rw[splice,B,LF,D,row,reps,<-od,List.replicate_append_replicate]
theorem YX(s:ByteArray)(n m j:Nat)(h:j<n):(row s n m)[j]?=J (A s):=by
 rw[row,ve (by simpa using h)];simp[h]
theorem qN(s:ByteArray)(k:Nat):∀u∈reps s k,u.oneCell'=I:=by
 intro u A;rw[List.eq_of_mem_replicate A];rfl
theorem SY{wr:K}{B n:Nat}(D:Hid (wr.heap[B]?=J (T (row s n m).toArray 9 (0,0))))(hk:k<=n):
  ∀j v,(reps s k)[j]?=J v->wr.cell? ((⟨B,0,Z⟩:Addr).add j)=J v:=by
 intro j v A;obtain⟨A0,rfl⟩:=XO A;rw[qd,Dc,Hc wr B j _ 9 (0,0) D.o]
 simpa using YX s n m j (by omega)
theorem TO:(Tryz.prog.info? 9).map (λi=>i.size)=J 1:=by kernel_rfl
theorem kW(w:K):Calls Tryz.prog 117 #[H .u64 1,H .u64 37] w λe B=>e=N (S #[H .u64 0,H .u64 37])/\w=B:=by
 refine(Tryz.bits_Mul 1 37 (by decide) (by decide) w).mono ?_;rintro e B ⟨rfl,rfl⟩;exact⟨rfl,rfl⟩
theorem Jb(s:ByteArray)(w:K):(Instr.makeSlice 42 (H G 37) (H G 37)).run Tryz.prog w=.ok (M (J ⟨w.heap.size,0,Z⟩) 37 37) (w.alloc (T (row s 0 37).toArray 9)):=by kernel_rfl
open Go.Proofs.Tryz
def fill (l:List ByteArray)(m:Nat):List E:=cellsS l++List.replicate m (A ⟨#[]⟩)
theorem TS(l:List ByteArray)(m:Nat)(s:ByteArray):(fill l (m+1)).set l.length (A s)=fill (l++[s]) m:=by
 have B:(cellsS l).length=l.length:=by simp[cellsS]
 rw[fill,wg _ _ (by omega),B,Fe,Ag,Bg,fill,lI,od];rfl
theorem xK(l:List ByteArray):fill l 0=cellsS l:=by simp[fill]
theorem oY(l:List ByteArray)(m k:Nat)(h:k<l.length+m):∃u,(fill l m)[k]?=J u:=by
 have:k<(fill l m).length:=by simp[fill,cellsS];omega
 exact⟨_,Ic this⟩
theorem qM(w:K):(Instr.makeSlice 42 (H G 37) (H G 37)).run prog w=.ok (M (J ⟨w.heap.size,0,Z⟩) 37 37) (w.alloc (T (fill [] 37).toArray 9)):=by kernel_rfl
theorem QJ(w:K)(base:Nat)(hb:base<=w.heap.size):(w.alloc (T (fill [] 37).toArray 9)).ownsRow base 9 1 (M (J ⟨w.heap.size,0,Z⟩) 37 37) 37 (fill [] 37):=by
 have:=Rf (e:=9) (size:=1) w (fill [] 37).toArray 37 hb (by decide) (by simp[fill,cellsS])
 simpa using this
theorem DK(h:w.ownsRow base 9 1 (M (J ⟨g,0,Z⟩) 37 37) 37 (fill l (m+1)))(s:ByteArray):
  (w.setCell ⟨g,l.length,Z⟩ (A s)).ownsRow base 9 1 (M (J ⟨g,0,Z⟩) 37 37) 37 (fill (l++[s]) m):=by
 have:=(h.stored l.length (A s)).1
 rwa [TS]at this
theorem sL(h:w.ownsRow base 9 1 (M (J ⟨g,0,Z⟩) 37 37) 37 (fill l (m+1))):
  (∃u,w.cell? ⟨g,l.length,Z⟩=J u)/\w.frozen? ⟨g,l.length,Z⟩=O/\base<=g/\g<w.heap.size/\l.length+(m+1)=37:=by
 have B:l.length+(m+1)=37:=by have:=h.1;simp[fill,cellsS]at this;omega
 obtain⟨u,C⟩:=oY l (m+1) l.length (by omega);have A:=h.lt g rfl;exact⟨⟨u,by rw[h.cellAt _ (by omega)];exact C⟩,h.frozenAt _,A.1,A.2,B⟩
def iC (d:Dk)(k:Nat):List ByteArray:=(List.range k).map λn:Nat=>rB d (n:Int)
def MB (d:Dk):Dk:=if cA d=I then⟨iC d 37,[]⟩ else d
def SD (d:Dk):Int:=if cA d=I then 0 else 2
theorem RE(d:Dk)(k:Nat):(iC d k).length=k:=by simp[iC]
theorem YQ(d:Dk)(k:Nat):iC d (k+1)=iC d k++[rB d (k:Int)]:=by simp[iC,List.range_succ]
theorem UY(v:E)(d:Dk)(w:K)(h:IsDk w v d)(hg:cA d=O):
  Calls prog 92 #[v] w λe L=>e=N (S #[v,H G 2])/\Below w.heap.size w L:=by
 have I:Hid (IsDk w v d):=h;obtain⟨a,c,Q,R,rfl,_,_,_,_⟩:=h;go_enter func92,ntmps92;go_wp2_with fail;refine(mD _ d _ (I.o.below (vA (qA _ _) (qA _ _)))).mono ?_;rintro e B ⟨rfl,A⟩;obtain⟨D,A1⟩:=QD A;have A0:w.heap.size+1<B.heap.size:=by have:=A.size;simp at this;omega
 go_wp2;refine Tb (v:=S #[F #[M a d.safe.length c,M Q d.wr.length R],H G 2]) (by simp[results,results92,go_sem,D]) rfl ⟨rfl,?_⟩;have C:Below w.heap.size w B:=vA (vA (qA _ _) (qA _ _)) A;exact(C.setCell (by simp) _).setCell (by simp) _
theorem Pb(v:E)(d:Dk)(w:K)(h:IsDk w v d)(hg:cA d=I):
  Calls prog 92 #[v] w λe w'=>∃v2,e=N (S #[v2,H G 0])/\IsDk w' v2 ⟨iC d 37,[]⟩/\Below w.heap.size w w'/\VC w.heap.size v2:=by
 have q:Hid (IsDk w v d):=h;obtain⟨a,c,y,x,rfl,_,_,_,_⟩:=h;have L:=zA (fD hg);have B3:=qM;go_enter func92,ntmps92;go_wp2_with fail;refine(mD _ d _ (q.o.below (vA (qA _ _) (qA _ _)))).mono ?_;rintro e A8 ⟨rfl,B⟩;have A4:w.heap.size+1<A8.heap.size:=by have:=B.size;simp at this;omega
 have B6:=xA B (b:=w.heap.size) (o:=0) (v:=M a d.safe.length c) (by simp;omega) (by simp[go_sem]);have p:=xA B (b:=w.heap.size) (o:=1) (v:=M y d.wr.length x) (by simp;omega) (by simp[go_sem]);have n:=xA B (b:=w.heap.size+1) (o:=0) (v:=M Z 0 0) (by simp) (by simp[go_sem]);have X:=xA B (b:=w.heap.size+1) (o:=1) (v:=M Z 0 0) (by simp) (by simp[go_sem]);have Y:=bA B (b:=w.heap.size+1) (o:=0) (v:=O) (by simp) (by simp[go_sem]);have f1:=bA B (b:=w.heap.size+1) (o:=1) (v:=O) (by simp) (by simp[go_sem]);have Q:Below w.heap.size w A8:=vA (vA (qA _ _) (qA _ _)) B;clear B;go_wp2
 go_loopw [13] (λi wr=>∃k:Nat,k<=37/\i=H G k/\Hid (wr.ownsRow A8.heap.size 9 1 (M (J ⟨A8.heap.size,0,Z⟩) 37 37) 37 (fill (iC d k) (37 - k)))/\Below A8.heap.size A8 wr) (λi _=>37 - (intOf i).toNat)
 case atStart=>exact⟨0,Vb _,rfl,QJ _ _ (Sb _),qA _ _⟩
 case round=>
  obtain⟨k,hk,rfl,D,A⟩:=hrel;have A1:=A.size;by_cases hlt:k<37
  .have A0:(k:Int)<37:=by omega
   have z0:=xA A (by omega) B6;have z:=xA A (by omega) p;clear B3;go_wp2_with fail;refine(GM _ d k _ (q.o.below (vA Q A)) L.o.1 hlt L.o.2).mono ?_;rintro e w3 ⟨rfl,R⟩;have C:=dA D.o R;rw[show 37 - k=(36 - k)+1 from by omega]at C;have r:=sL C;have B0:=DK C (rB d k);rw[RE]at r B0;obtain⟨⟨u,hu⟩,A7,A2,A3,_⟩:=r;have s:=zA B0;clear C B0 D z0 z;go_wp2
   go_roundw
   case rel=>
    refine⟨k+1,by omega,by go_num,?_,?_⟩
    .rw[YQ,show 37 - (k+1)=36 - k from by omega];exact s
    .exact(vA A R).setCell (by simp) _
   case measure=>simp[intOf];omega
  .have e:k=37:=by omega
   have B1:=D.o;rw[e,show 37 - 37=0 from rfl,xK]at B1;obtain⟨a2,c2,A9,B2,B5⟩:=SegS.of_owns B1;have B4:=zA B5;have B7:=zA B2;have U:=xA A (by omega) n;have m:=xA A (by omega) X;have A6:=bA A (by omega) Y;have A5:=bA A (by omega) f1;rw[RE]at A9;simp only[Value.slice.injEq]at A9;obtain⟨l,_,j⟩:=A9;subst l j;clear D B1 B2 B5 n X Y f1 B6 p B3 e;go_wp2;refine Tb (v:=S #[F #[M (J ⟨A8.heap.size,0,Z⟩) 37 37,M Z 0 0],H G 0]) (by simp[results,results92,go_sem,U,m]) rfl ⟨_,rfl,⟨J ⟨A8.heap.size,0,Z⟩,37,Z,0,?_,?_,.inl rfl,?_,?_⟩,?_,⟨_,_,_,_,_,_,rfl,λb B8 e=>by cases e;omega,λ_ _ e=>by cases e⟩⟩
   .simp only[RE];rfl
   .exact(B7.o.setCell B4.o (by simp;omega) _).setCell B4.o (by simp;omega) _
   .show(iC d 37).length<=maxLen;rw[RE];decide
   .exact Vb _
   .exact((vA Q A).setCell (by simp) _).setCell (by simp) _
theorem Ob(v:E)(d:Dk)(w:K)(h:IsDk w v d):
  Calls prog 92 #[v] w λe R=>∃L,e=N (S #[L,H G (SD d)])/\IsDk R L (MB d)/\(SD d≠0->L=v)/\Below w.heap.size w R/\(L=v\/VC w.heap.size L):=by
 cases hg:cA d with
 |false=>
  have B:SD d=2:=by simp[SD,hg]
  have A:MB d=d:=by simp[MB,hg]
  rw[B,A];exact(UY v d w h hg).mono λe R Q=>⟨v,Q.1,h.below Q.2,λ_=>rfl,Q.2,.inl rfl⟩
 |true=>
  have B:SD d=0:=by simp[SD,hg]
  have A:MB d=⟨iC d 37,[]⟩:=by simp[MB,hg]
  rw[B,A]
  exact(Pb v d w h hg).mono λe R Q=>by
   obtain⟨L,C,X,D,F⟩:=Q;exact⟨L,C,X,λh=>absurd rfl h,D,.inr F⟩
theorem Fb(n:Int)(z:ByteArray)(l:List (Int×ByteArray))(B:oA z=I)(h:l.all wrB=I):oA (fC n z l)=I:=by
 induction l generalizing z with
 |nil=>exact B
 |cons x r ih=>
  simp only[List.all_cons,Bool.and_eq_true]at h;refine ih _ ?_ h.2;by_cases e:x.1=n
  .rw[Rb e];have:=h.1;simp only[wrB,Bool.and_eq_true]at this;exact this.2
  .rw[Qb e];exact B
theorem MI(h:cA d=I):d.safe.length=37/\d.wr.length<=200/\d.safe.all oA=I/\d.wr.all wrB=I:=by
 simp only[cA,Bool.and_eq_true,decide_eq_true_eq]at h;exact⟨h.1.1.1,h.1.1.2,h.1.2,h.2⟩
theorem NO(h:cA d=I)(k:Nat)(hk:k<37):oA (d.safe.getD k U)=I:=by
 obtain⟨h1,_,A,_⟩:=MI h;rw[Zc]at A;exact A _ (Yc (xE d.safe k U (by omega)))
theorem FZ(h:cA d=I)(k:Nat)(B:k<37):oA (rB d k)=I:=
 Fb _ _ _ (by rw[pd];exact NO h k B) (MI h).2.2.2
theorem FW(n:Int)(l:List (Int×ByteArray))(s:ByteArray)(h:s∈SB n l):(n,s)∈l:=by
 induction l with
 |nil=>simp[SB]at h
 |cons x r ih=>
  by_cases e:x.1=n
  .simp only[SB,if_pos e,List.mem_cons]at h;rcases h with rfl|h
   .rw[<-e];simp
   .exact Ad _ (ih h)
  .simp only[SB,if_neg e]at h;exact Ad _ (ih h)
theorem ka{n:Nat}(h:s∈ways d n):s=d.safe.getD n U\/((n:Int),s)∈d.wr:=by
 simp only[ways,List.mem_cons]at h;rcases h with h|h
 .exact .inl h
 .exact .inr (FW _ _ _ h)
theorem BW(h:cA d=I)(B:k<37)(D:s∈ways d k):oA s=I:=by
 rcases ka D with rfl|hm
 .exact NO h k B
 .have:=(MI h).2.2.2;rw[Zc]at this;have:=this _ hm;simp only[wrB,Bool.and_eq_true]at this;exact this.2
theorem Ra{f:ByteArray->Bool}(h:∀k,k<l.length->f (l.getD k U)=I):l.all f=I:=by
 rw[Zc];intro x C;obtain⟨k,A⟩:=Hg C;have B:=(gd.1 A).1;have:=h k B
 rwa [List.getD,A]at this
theorem UQ(B:l.length=37)(h:∀k,k<37->oA (l.getD k U)=I):cA ⟨l,[]⟩=I:=by
 simp only[cA,B,Ra (l:=l) (f:=oA) (λk hk=>h k (by omega))];rfl
theorem oN(k m:Nat)(B:k<m):(iC d m).getD k U=rB d k:=by
 rw[iC,List.getD,Ld,Cf B];rfl
theorem pI(h:cA d=I):cA ⟨iC d 37,[]⟩=I:=
 UQ (RE d 37) λk B=>by rw[oN k 37 B];exact FZ h k B
theorem wG(hk:k<37):QA (k:Int)=I:=by simp[QA];omega
theorem SH(h:cA ⟨l,[]⟩=I)(B:k<37):jA ⟨l,[]⟩ k=l.getD k U:=by
 rw[jA,h,wG B];show rB ⟨l,[]⟩ k=_;rw[rB,pd];rfl
theorem oQ(h:cA d=I)(B:k<37):jA ⟨iC d 37,[]⟩ k=jA d k:=by
 rw[SH (pI h) B,oN k 37 B,jA,h,wG B];rfl
theorem DL(h:dB d n s=0):cA d=I/\QA n=I/\oA s=I/\¬d.wr.length=200:=by
 unfold dB at h;by_cases h1:(cA d&&QA n)=I
 .rw[Rb h1]at h;by_cases h2:oA s=I
  .rw[Rb h2]at h;by_cases h3:d.wr.length=200
   .rw[Rb h3]at h;cases h
   .simp at h1;exact⟨h1.1,h1.2,h2,h3⟩
  .rw[Qb h2]at h;cases h
 .rw[Qb h1]at h;cases h
theorem XD(h:dB d n s=0):kB d n s=⟨d.safe,d.wr++[(n,s)]⟩:=by rw[kB,Rb h]
theorem qW(h:dB d n s≠0):kB d n s=d:=by rw[kB,Qb h]
theorem eE(h:dB d n s=0):cA (kB d n s)=I:=by
 rw[XD h];obtain⟨A,B,C,hl⟩:=DL h;simp only[cA,Bool.and_eq_true,decide_eq_true_eq]at A|-;obtain⟨⟨⟨E,h2⟩,F⟩,D⟩:=A;refine⟨⟨⟨E,?_⟩,F⟩,?_⟩
 .simp;omega
 .rw[List.all_append,D];simp[wrB,B,C]
theorem yI(d:Dk)(n m:Int)(s:ByteArray):rB ⟨d.safe,d.wr++[(n,s)]⟩ m=if n=m then s else rB d m:=VK _ _ _ _
theorem cL(h:dB d n s=0):jA (kB d n s) n=s/\readE (kB d n s) n=0:=by
 have A:=eE h;have B:=(DL h).2.1;rw[jA,readE,A,B];refine⟨?_,rfl⟩;rw[XD h];simp[yI]
theorem OS(h:dB d n s=0)(m:Int):readE (kB d n s) m=readE d m/\(m≠n->jA (kB d n s) m=jA d m):=by
 have B:=eE h;have A:=(DL h).1;rw[jA,readE,jA,readE,B,A];refine⟨rfl,λD=>?_⟩;have e:rB (kB d n s) m=rB d m:=by rw[XD h,yI,Qb (λe=>D e.symm)]
 rw[e]
open Go.Proofs.Tryz
theorem qY(b off c:Nat)(a':Option Addr)(c':Nat)(d:Dk)(n:Nat)(w:K)(hn:d.safe.length=37)(hp:n<37)(hm:d.wr.length<=200)(hb:b<w.heap.size)
  (hc:∀i,i<d.safe.length->w.cell? ⟨b,off+i,Z⟩=J (A (d.safe.getD i U))) (hw:SegW w a' d.wr):
  Calls prog 97 #[F #[M (J ⟨b,off,Z⟩) 37 c,M a' d.wr.length c'],H G n] w λe w'=>∃v',e=N v'/\w'.ownsRow w.heap.size 9 1 v' (ways d n).length (cellsS (ways d n))/\Below w.heap.size w w':=by
 have HW:=zA hw;obtain⟨z,Q⟩:∃z,z=d.safe.getD n U:=⟨_,rfl⟩;have X:=hc n (by omega);rw[<-Q]at X;have A1:(n:Int)<37:=by omega
 have y:Hid (xB d n 0=[z]):=by rw[Q];rfl
 clear hn hw hc Q;obtain⟨i0,hi,B1,A9,l⟩:=Gc XF;go_enter func97,ntmps97;go_wp2
 go_loopw [5,17] (λv i wr=>∃k:Nat,k<=d.wr.length/\i=H G k/\Hid (wr.ownsRow w.heap.size 9 1 v (xB d n k).length (cellsS (xB d n k)))/\Below w.heap.size w wr) (λ_ i _=>d.wr.length - (intOf i).toNat)
 case atStart=>
  refine⟨0,Vb _,rfl,?_,vA (qA _ _) (qA _ _)⟩;rw[y.o];have h:=Rf (e:=9) (size:=1) (w.alloc (T #[M (J ⟨b,off,Z⟩) 37 c,M a' d.wr.length c'] 45)) #[A z] 1 (qA w _).size (by decide) rfl;unfold Hid
  simpa[cellsS] using h
 case round=>
  obtain⟨k,Y,rfl,A2,C⟩:=hrel;have A6:=C.size;by_cases hlt:k<d.wr.length
  .obtain⟨b',A0,rfl,A8,L⟩:=HW.o.resolve_left (by intro e;rw[e]at hlt;simp at hlt);obtain⟨x,S⟩:∃x,x=d.wr.getD k (0,U):=⟨_,rfl⟩;obtain⟨A5,E⟩:=L k hlt;rw[<-S]at A5 E;have q:Hid (d.wr[k]?=J x):=by rw[S];exact xE _ _ _ hlt
   clear S L;have g1:=xA C A8 A5;have g2:=xA C A8 E;clear A5 E;have hl:=oG d n k hm;obtain⟨m,s⟩:=x;by_cases he:m=n
   .have a:(m==(n:Int))=I:=by rw[he];simp
    have A3:Hid (xB d n (k+1)=xB d n k++[s]):=ZQ d n k (m,s) q.o he;clear he;go_wp2_with (at_builtin;refine wd _ rfl _ _ 42 rfl w.heap.size 9 i0 (A ⟨#[]⟩) 1 16 underlying42 hi B1 A9 l rfl (by decide) _ _ _ rfl ((A2.o.alloc _).alloc _) ⟨wr.heap.size+1,0,Z⟩ 1 1 (cellsS [s]) rfl ?qc1 ?qc2 ?qc3 ?qc4 ?qc5 ?qc6 ?_)
    case qc1=>rfl
    case qc2=>
     intro j u A4
     match j,A4 with
     |0,A4=>simp[cellsS]at A4;subst A4;simp[go_sem]
    case qc3=>exact JH
    case qc4=>unfold maxLen;omega
    case qc5=>omega
    case qc6=>omega
    intro v4 r B D _;have p:Below w.heap.size w r:=((C.alloc A6 _).alloc (by simp;omega) _).grown D (by simp;omega) (λk Y=>(A2.o.lt k Y).1);rw[<-lI,<-A3.o]at B;have B0:(xB d n k).length+1=(xB d n (k+1)).length:=by rw[A3.o];simp
    rw[B0]at B;have R:=zA B;clear B D A2 C;go_wp2
    go_roundw
    case rel=>exact⟨k+1,by omega,by go_num,R,p⟩
    case measure=>simp[intOf];omega
   .have a:(m==(n:Int))=O:=by simpa using he
    have A3:Hid (xB d n (k+1)=xB d n k):=RN d n k (m,s) q.o he;have R:=zA (A2.o.alloc (T #[H G m,A s] 102));clear he A2;go_wp2
    go_roundw
    case rel=>exact⟨k+1,by omega,by go_num,by rw[A3.o];exact R,C.alloc A6 _⟩
    case measure=>simp[intOf];omega
  .have e:k=d.wr.length:=by omega
   have A7:xB d n k=ways d n:=by rw[e,xB,Lc];rfl
   rw[A7]at A2;clear A7 e;go_wp2;go_ret;exact⟨_,rfl,A2.o,C⟩
theorem LS(v:E)(d:Dk)(n:Nat)(w:K)(h:IsDk w v d)(L:d.safe.length=37)(X:n<37)(i:d.wr.length<=200):
  Calls prog 97 #[v,H G n] w λe Q=>∃R,e=N R/\Q.ownsRow w.heap.size 9 1 R (ways d n).length (cellsS (ways d n))/\Below w.heap.size w Q:=by
 obtain⟨a,c,C,D,rfl,j,B,h1,h2⟩:=h;obtain⟨b,A,rfl,hb,F⟩:=j.resolve_left (by intro e;rw[e]at L;simp at L);have:=qY b A c C D d n w L X i hb F B;rw[<-L]at this;exact this
def wB (d:Dk)(q:Nat):Nat->List ByteArray×Nat
 |0=>([],q)
 |k+1=>((wB d q k).1++[(ways d k).getD ((wB d q k).2%(ways d k).length) U],(wB d q k).2/(ways d k).length)
def crashK (d:Dk)(q:Int):Dk:=if(cA d&&decide (0<=q))=I then⟨(wB d q.toNat 37).1,[]⟩ else d
def crashE (d:Dk)(q:Int):Int:=if(cA d&&decide (0<=q))=I then 0 else 2
theorem oE(d:Dk)(q k:Nat):(wB d q k).1.length=k:=by
 induction k with
 |zero=>rfl
 |succ k ih=>simp[wB,ih]
theorem yM(d:Dk)(q k:Nat):(wB d q k).2<=q:=by
 induction k with
 |zero=>exact Sb _
 |succ k ih=>exact ac (Nat.div_le_self _ _) ih
theorem mU(d:Dk)(n:Nat)(h:d.wr.length<=200):1<=(ways d n).length/\(ways d n).length<=201:=by
 have:=oG d n d.wr.length h;rw[xB,Lc]at this;exact this
theorem mX(v:E)(d:Dk)(q:Int)(w:K)(h:IsDk w v d)(L:(cA d&&decide (0<=q))=O):
  Calls prog 52 #[v,H G q] w λe X=>e=N (S #[v,H G 2])/\Below w.heap.size w X:=by
 have I:Hid (IsDk w v d):=h;obtain⟨a,c,Q,R,rfl,_,_,_,_⟩:=h
 cases hg:cA d with
 |false=>
  clear L;go_enter func52,ntmps52;go_wp2_with fail;refine(mD _ d _ (I.o.below (vA (qA _ _) (qA _ _)))).mono ?_;rintro e B ⟨rfl,A⟩;obtain⟨D,J⟩:=QD A;have b:w.heap.size+1<B.heap.size:=by have:=A.size;simp at this;omega
  go_wp2;refine Tb (v:=S #[F #[M a d.safe.length c,M Q d.wr.length R],H G 2]) (by simp[results,results52,go_sem,D]) rfl ⟨rfl,?_⟩;have C:Below w.heap.size w B:=vA (vA (qA _ _) (qA _ _)) A;exact(C.setCell (by simp) _).setCell (by simp) _
 |true=>
  have hq:q<0:=by simpa[hg] using L
  clear L;go_enter func52,ntmps52;go_wp2_with fail;refine(mD _ d _ (I.o.below (vA (qA _ _) (qA _ _)))).mono ?_;rintro e B ⟨rfl,A⟩;obtain⟨D,J⟩:=QD A;have b:w.heap.size+1<B.heap.size:=by have:=A.size;simp at this;omega
  go_wp2;refine Tb (v:=S #[F #[M a d.safe.length c,M Q d.wr.length R],H G 2]) (by simp[results,results52,go_sem,D]) rfl ⟨rfl,?_⟩;have C:Below w.heap.size w B:=vA (vA (qA _ _) (qA _ _)) A;exact(C.setCell (by simp) _).setCell (by simp) _
theorem tS(v:E)(d:Dk)(q:Nat)(w:K)(h:IsDk w v d)(hg:cA d=I)(hq:q<=9223372036854775807):
  Calls prog 52 #[v,H G q] w λe w'=>∃v2,e=N (S #[v2,H G 0])/\IsDk w' v2 ⟨(wB d q 37).1,[]⟩/\Below w.heap.size w w'/\VC w.heap.size v2:=by
 have HI:Hid (IsDk w v d):=h;obtain⟨a,c,a',c',rfl,_,_,_,_⟩:=h;have B9:=zA (fD hg);have C3:=qM;go_enter func52,ntmps52;go_wp2_with fail;refine(mD _ d _ (HI.o.below (vA (qA _ _) (qA _ _)))).mono ?_;rintro e B7 ⟨rfl,B⟩;have A8:w.heap.size+1<B7.heap.size:=by have:=B.size;simp at this;omega
 have x0:=xA B (b:=w.heap.size) (o:=0) (v:=M a d.safe.length c) (by simp;omega) (by simp[go_sem]);have x1:=xA B (b:=w.heap.size) (o:=1) (v:=M a' d.wr.length c') (by simp;omega) (by simp[go_sem]);have y0:=xA B (b:=w.heap.size+1) (o:=0) (v:=M Z 0 0) (by simp) (by simp[go_sem]);have y1:=xA B (b:=w.heap.size+1) (o:=1) (v:=M Z 0 0) (by simp) (by simp[go_sem]);have f0:=bA B (b:=w.heap.size+1) (o:=0) (v:=O) (by simp) (by simp[go_sem]);have f1:=bA B (b:=w.heap.size+1) (o:=1) (v:=O) (by simp) (by simp[go_sem]);have j:Below w.heap.size w B7:=vA (vA (qA _ _) (qA _ _)) B;clear B;go_wp2
 go_loopw [1,20] (λr i wr=>∃k:Nat,k<=37/\i=H G k/\r=H G ((wB d q k).2:Nat)/\Hid (wr.ownsRow B7.heap.size 9 1 (M (J ⟨B7.heap.size,0,Z⟩) 37 37) 37 (fill (wB d q k).1 (37 - k)))/\Below B7.heap.size B7 wr) (λ_ i _=>37 - (intOf i).toNat)
 case atStart=>exact⟨0,Vb _,rfl,rfl,QJ _ _ (Sb _),qA _ _⟩
 case round=>
  obtain⟨k,hk,rfl,rfl,D,A⟩:=hrel;have A9:=A.size;by_cases hlt:k<37
  .have A6:(k:Int)<37:=by omega
   have z0:=xA A (by omega) x0;have z1:=xA A (by omega) x1;have z:=yM d q k;obtain⟨r,x⟩:∃r,r=(wB d q k).2:=⟨_,rfl⟩;rw[<-x]at z|-;clear C3;go_wp2_with fail;refine(LS _ d k _ (HI.o.below (vA j A)) B9.o.1 hlt B9.o.2).mono ?_;rintro e w3 ⟨v3,rfl,C5,m⟩;obtain⟨a3,c3,C0,C7,_⟩:=SegS.of_owns C5;have s:=mU d k B9.o.2;obtain⟨b3,o3,C6,A7,n⟩:=C7.resolve_left (by intro e;rw[e]at s;simp at s);obtain⟨t,p⟩:∃t,t=(ways d k).getD (r%(ways d k).length) U:=⟨_,rfl⟩;have Y:=n (r%(ways d k).length) (cf _ (by omega));rw[<-p]at Y;have y:Hid (wB d q (k+1)=((wB d q k).1++[t],r/(ways d k).length)):=by rw[p,x];rfl
   obtain⟨L,l⟩:∃L,L=(ways d k).length:=⟨_,rfl⟩;rw[<-l]at C0 s Y y;rw[C0,C6];have C:=dA D.o m;rw[show 37 - k=(36 - k)+1 from by omega]at C;have X:=sL C;have C1:=DK C t;rw[oE]at X C1;obtain⟨⟨u,hu⟩,B6,B2,B3,_⟩:=X;have A5:=zA C1;clear C C1 D z0 z1 C5 C7 n C6 C0 l p x;have B0:0<=(r:Int)%(L:Int):=Int.emod_nonneg _ (by omega);have B1:(r:Int)%(L:Int)<(L:Int):=Int.emod_lt_of_pos _ (by omega);have hd0:0<=(r:Int)/(L:Int):=Int.ediv_nonneg (by omega) (by omega);have hd1:(r:Int)/(L:Int)<=9223372036854775807:=Int.le_trans (Int.ediv_le_self _ (by omega)) (by omega);go_wp2
   go_roundw
   case rel=>
    refine⟨k+1,by omega,by go_num,?_,?_,?_⟩
    .rw[y.o];rfl
    .rw[y.o,show 37 - (k+1)=36 - k from by omega];exact A5
    .exact(vA A m).setCell (by simp) _
   case measure=>simp[intOf];omega
  .have e:k=37:=by omega
   have C2:=D.o;rw[e,show 37 - 37=0 from rfl,xK]at C2;obtain⟨a2,c2,B8,Q,R⟩:=SegS.of_owns C2;have C4:=zA R;have A1:=zA Q;have A0:=xA A (by omega) y0;have A4:=xA A (by omega) y1;have B5:=bA A (by omega) f0;have B4:=bA A (by omega) f1;rw[oE]at B8;simp only[Value.slice.injEq]at B8;obtain⟨A3,_,A2⟩:=B8;subst A3 A2;clear D C2 Q R y0 y1 f0 f1 x0 x1 C3 e;go_wp2;refine Tb (v:=S #[F #[M (J ⟨B7.heap.size,0,Z⟩) 37 37,M Z 0 0],H G 0]) (by simp[results,results52,go_sem,A0,A4]) rfl ⟨_,rfl,⟨J ⟨B7.heap.size,0,Z⟩,37,Z,0,?_,?_,.inl rfl,?_,?_⟩,?_,⟨_,_,_,_,_,_,rfl,λb C8 e=>by cases e;omega,λ_ _ e=>by cases e⟩⟩
   .simp only[oE];rfl
   .exact(A1.o.setCell C4.o (by simp;omega) _).setCell C4.o (by simp;omega) _
   .show(wB d q 37).1.length<=maxLen;rw[oE];decide
   .exact Vb _
   .exact((vA j A).setCell (by simp) _).setCell (by simp) _
theorem xZ(v:E)(d:Dk)(q:Int)(w:K)(h:IsDk w v d)(hq:q<=9223372036854775807):
  Calls prog 52 #[v,H G q] w λe R=>∃L,e=N (S #[L,H G (crashE d q)])/\IsDk R L (crashK d q)/\(crashE d q≠0->L=v)/\Below w.heap.size w R/\(L=v\/VC w.heap.size L):=by
 cases hg:(cA d&&decide (0<=q)) with
 |false=>
  have A:crashE d q=2:=by simp only[crashE,hg];rfl
  have B:crashK d q=d:=by simp only[crashK,hg];rfl
  rw[A,B];exact(mX v d q w h hg).mono λe R Q=>⟨v,Q.1,h.below Q.2,λ_=>rfl,Q.2,.inl rfl⟩
 |true=>
  have A:crashE d q=0:=by simp only[crashE,hg];rfl
  have B:crashK d q=⟨(wB d q.toNat 37).1,[]⟩:=by simp only[crashK,hg];rfl
  simp at hg;obtain⟨n,rfl⟩:=Jd hg.2;rw[A,B];rw[pd]
  exact(tS v d n w h hg.1 (by omega)).mono λe R Q=>by
   obtain⟨L,X,C,F,D⟩:=Q;exact⟨L,X,C,λh=>absurd rfl h,F,.inr D⟩
theorem YN(q k m:Nat)(hk:k<m):(wB d q m).1.getD k U∈ways d k:=by
 induction m with
 |zero=>omega
 |succ m ih=>
  rw[wB];have B:=oE d q m;by_cases e:k<m
  .have:=ih e
   rwa [List.getD,ve (by omega)]
  .have C:k=m:=by omega
   subst C;rw[List.getD,ke (by omega),B,Fe];have A:(wB d q k).2%(ways d k).length<(ways d k).length:=cf _ (by simp[ways]);exact Yc (xE _ _ U A)
theorem fO(h:cA d=I)(q:Nat):cA ⟨(wB d q 37).1,[]⟩=I:=
 UQ (oE d q 37) λk B=>BW h B (YN q k 37 B)
open Go.Proofs.Tryz
theorem UX(b off c:Nat)(s:ByteArray)(w:K)(hb:b<w.heap.size)(X:w.cell? ⟨b,off,Z⟩=J (A s)):
  Calls prog 67 #[M (J ⟨b,off,Z⟩) 1 c,H G 37] w λe Q=>∃R,e=N R/\Q.ownsRow w.heap.size 9 1 R 37 (cellsS (List.replicate 37 s))/\Below w.heap.size w Q:=by
 have A4:=Jb s;go_enter func67,ntmps67;go_wp2_with fail;refine(kW _).mono ?_;rintro e w1 ⟨rfl,rfl⟩;go_wp2_with (refine wpList_copy_splice rfl (.tmp 31) (.tmp 32) 42 42 rfl 9 underlying42 TO _ _ _ _ _ _ rfl rfl w.heap.size 0 (row s 0 37) 9 ?qc1 (reps s 1) ?qc2 ?qc3 ?qc4 (qN s 1) w.heap.size w ?qc5 (Sb _) ?_)
 case qc1=>exact Cc w _
 case qc2=>rw[LF];rfl
 case qc3=>
  intro _ j v h;obtain⟨h0,rfl⟩:=XO h;rw[show j=0 from by omega,pe];exact X
 case qc4=>rw[EN,LF];decide
 case qc5=>exact qA _ _
 intro w2 L C;rw[NQ]at L;go_wp2
 go_loopw [8] (λi wr=>∃n:Nat,1<=n/\n<=37/\i=H G n/\Hid (wr.heap[w.heap.size]?=J (T (row s n (37 - n)).toArray 9 (0,0)))/\Below w.heap.size w wr) (λi _=>37 - (intOf i).toNat)
 case atStart=>exact⟨1,by omega,by omega,rfl,L,C⟩
 case round=>
  obtain⟨n,h1,A5,rfl,B,E⟩:=hrel;clear L C;by_cases hlt:n<37
  .have A1:(n:Int)<37:=by omega
   have A0:(n:Int)<=37:=by omega
   have A3:¬37=n:=by omega
   have A2:(reps s (min n (37 - n))).length<=37:=by rw[LF];omega
   go_wp2
   go_region_law (refine step_copy_splice rfl (.tmp 41) (.tmp 44) 42 42 rfl 9 underlying42 TO (J ⟨w.heap.size,n,Z⟩) (J ⟨w.heap.size,0,Z⟩) (37 - n) (37 - n) n 37 (by simp[Act.eval,Act.put]) (by simp[Act.eval,Act.put]) w.heap.size n (row s n (37 - n)) 9 B.o (reps s (min n (37 - n))) (by rw[LF]) (λ_=>⟨rfl,⟨w.heap.size,0,Z⟩,rfl,SY B (Nat.min_le_left _ _)⟩) (by rw[EN,LF];omega) (qN s _) w.heap.size w E.drew (Sb _) ?_;intro w4 D F)
   rw[NQ]at D;go_wp2
   have I:IntKind.i64.wrap ((n:Int)+((reps s (min n (37 - n))).length:Int))=((n+min n (37 - n):Nat):Int):=by
    rw[LF];rw[Bc];omega
   rw[I];refine⟨?_,?_⟩
   ·(repeat apply Exists.intro)
    exact⟨⟨n+min n (37 - n),by omega,by omega,rfl,by rw[show 37 - (n+min n (37 - n))=37 - n - min n (37 - n) from by omega];exact D,F⟩,rfl⟩
   .simp[Act.put,intOf];omega
  .have e:n=37:=by omega
   have a:Hid (wr.heap[w.heap.size]?=J (T (row s 37 0).toArray 9 (0,0))):=by have:=B.o;rw[e]at this;exact this
   clear e B;go_wp2;go_ret;refine⟨_,rfl,⟨by simp[cellsS],.inr ⟨w.heap.size,37,(row s 37 0).toArray,rfl,Sb _,a.o,by omega,by decide,by simp[row],?_⟩⟩,E⟩;simp[row,cellsS]
theorem zX(w:K):
  Calls prog 27 #[] w λe h=>∃g c,e=N (F #[M (J ⟨g,0,Z⟩) 37 c,M Z 0 0])/\h.ownsRow w.heap.size 9 1 (M (J ⟨g,0,Z⟩) 37 c) 37 (cellsS (List.replicate 37 (fitT ⟨#[]⟩)))/\Below w.heap.size w h:=by
 go_enter func27,ntmps27;go_wp2_with fail;refine(OF ⟨#[]⟩ _ (by decide)).mono ?_;rintro e X ⟨rfl,B⟩;have D:w.heap.size<X.heap.size:=by have:=B.size;simp at this;omega
 generalize hz:fitT ⟨#[]⟩=z;have U:Hid (fitT ⟨#[]⟩=z):=hz;clear hz;go_wp2_with fail;refine(UX _ _ _ z _ (by simp) (by simp[go_sem])).mono ?_;rintro e Q ⟨R,rfl,C,E⟩;have I:=zA C
 obtain⟨g,c2,u⟩:∃g c2,R=M (J ⟨g,0,Z⟩) 37 c2:=by
  rcases C.2 with⟨_,q⟩|⟨g,cap,A2,e,_⟩
  .cases q
  .exact⟨g,cap,e⟩
 subst u;have p:=xA B (b:=w.heap.size) (o:=0) (v:=M Z 0 0) (by simp) (by simp[go_sem]);have j:=xA B (b:=w.heap.size) (o:=1) (v:=M Z 0 0) (by simp) (by simp[go_sem]);have i:=bA B (b:=w.heap.size) (o:=0) (v:=O) (by simp) (by simp[go_sem]);have f1:=bA B (b:=w.heap.size) (o:=1) (v:=O) (by simp) (by simp[go_sem]);have A:Below X.heap.size X Q:=vA (qA _ _) E;have r:=xA A D p;have L:=xA A D j;have A1:=bA A D i;have A0:=bA A D f1;have S:Hid (Below w.heap.size w Q):=vA (vA (qA _ _) B) A;clear C p j i f1 E;go_wp2;refine Tb (v:=F #[M (J ⟨g,0,Z⟩) 37 c2,M Z 0 0]) (by simp[results,results27,go_sem,r,L]) rfl ⟨g,c2,rfl,?_,?_⟩
 .rw[<-U.o]at I;exact qB (Jc (Jc I.o (a:=⟨w.heap.size,0,Z⟩) (by simp;omega) _) (a:=⟨w.heap.size,1,Z⟩) (by simp;omega) _) (by simp;omega)
 .exact(S.o.setCell (by simp) _).setCell (by simp) _
