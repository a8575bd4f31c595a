import Derived.Test.YtjnpndfpajjihadGreatGrJournalRuns28
import Derived.Test.YtjnpndfpajjihadGreatGrJournalRuns31
set_option maxRecDepth 100000
set_option maxHeartbeats 40000000
namespace Go.Proofs.YtjnpndfpajjihadGreat
open Go.RowKit
open Value renaming int -> H,slice -> M,pointer -> C,bool -> Y,agg -> F
open IntKind renaming i64 -> G
open Option renaming none -> Z,some -> J
open Bool renaming false -> O,true -> I
open Go renaming World -> K,Value -> E
open Ending renaming returned -> N
variable{B base:Nat}{a b free h k n y:Int}{l:List (Int×ByteArray)}{s:ByteArray}{t:Tx}{va vd vr:Value}{w:World}
theorem iI(n:Int)(h: -9223372036854775808<=n/\n<=9223372036854775807):wrap64 n=n:=by unfold wrap64;omega
theorem NF(h:nA t=I)(k:Int):hdB (IA t k)=I:=by
 have:=((VA t).1 h).2.2.2.2;unfold IA;split
 .exact this.1
 .split
  .exact this.2.1
  .exact this.2.2
theorem IE(h:nA t=I):jB t=(t.info.length:Int)+(t.rev.length:Int)+t.h0.left+t.h1.left+t.h2.left/\0<=jB t/\jB t<=96:=by
 have hs:=iB h;have A:=((VA t).1 h).2.2.2.2;have a0:=(nC _).1 A.1;have a1:=(nC _).1 A.2.1;have a2:=(nC _).1 A.2.2
 have e:jB t=(t.info.length:Int)+(t.rev.length:Int)+t.h0.left+t.h1.left+t.h2.left:=by
  unfold jB;rw[iI ((t.info.length:Int)+(t.rev.length:Int)) (by omega),iI ((t.info.length:Int)+(t.rev.length:Int)+t.h0.left) (by omega),iI ((t.info.length:Int)+(t.rev.length:Int)+t.h0.left+t.h1.left) (by omega),iI _ (by omega)]
 rw[e];omega
theorem JJ(v:E)(t:Tx)(h b:Int)(w:K)(u:IsTx w v t)(z:t.info.length*24<=140737488355328)(r2:t.data.length*24<=140737488355328):
  Calls Tryz.prog 160 #[v,H G h,H G b] w λe p=>e=N (H G (reachE t h b))/\Below w.heap.size w p:=by
 have x:=zA u;obtain⟨a,c,a',c',r,d,rfl,O,U,i,j,n,Q⟩:=u;clear O U i j n Q;go_enter Tryz.func160,Tryz.ntmps160;go_wp2_with fail;refine(yJ _ t _ (x.o.below (qA _ _)) z r2).mono ?_;rintro e M ⟨rfl,C⟩;have A0:w.heap.size<M.heap.size:=by have:=C.size;simp at this;omega
 obtain⟨⟨L,m,Y,R,A1,Z,l,S,k,X⟩,_⟩:=BA (TG C);have J:=zA (vA (qA _ _) C);clear C
 cases hg:nA t with
 |false=>
  have A:Hid (reachE t h b=2):=by rw[Hid,reachE,Rb hg]
  go_wp2;go_ret;exact⟨by rw[A.o];rfl,J.o⟩
 |true=>
  have s:=zA hg;go_wp2_with fail;refine(CP _ t h _ (x.o.below J.o)).mono ?_;rintro e w2 ⟨rfl,F⟩;have D:=zA (vA J.o F);clear F L m Y R A1 Z l S k X hg
  cases ho:onB t h with
  |false=>
   have A:Hid (reachE t h b=4):=by
    rw[Hid,reachE,Qb (by rw[s.o];simp),Rb];rw[onB]at ho;by_cases q:0<=h/\h<=2
    .rw[QC.2 q,Uf]at ho;exact .inr (.inr (.inl ho))
    .omega
   go_wp2;go_ret;exact⟨by rw[A.o];rfl,D.o⟩
  |true=>
   have B:sA h 0 2=I/\(IA t h).on=I:=by rw[onB]at ho;simpa using ho
   have q:=QC.1 B.1
   cases hq:sA b 0 11 with
   |false=>
    have A:Hid (reachE t h b=4):=by
     rw[Hid,reachE,Qb (by rw[s.o];simp),Rb];by_cases hb:0<=b/\b<=11
     .rw[QC.2 hb]at hq;cases hq
     .omega
    clear B q;go_wp2_with (go_at_call 104;refine(bC _ _ _ _).mono ?_;rintro e p ⟨rfl,rfl⟩);go_ret;exact⟨by rw[A.o];rfl,D.o⟩
   |true=>
    have hb:=QC.1 hq
    have A:Hid (reachE t h b=0):=by
     rw[Hid,reachE,Qb (by rw[s.o];simp),Qb];rw[B.2];simp;omega
    clear B q hb;go_wp2_with (go_at_call 104;refine(bC _ _ _ _).mono ?_;rintro e p ⟨rfl,rfl⟩);go_ret;exact⟨by rw[A.o];rfl,D.o⟩
theorem vD(e:reachE t h b=0):nA t=I/\(h=0\/h=1\/h=2)/\(IA t h).on=I/\0<=b/\b<=11:=by
 unfold reachE at e
 cases hg:nA t with
 |false=>rw[Rb hg]at e;cases e
 |true=>
  rw[Qb (by rw[hg];simp)]at e;by_cases hc:h<0\/2<h\/(IA t h).on=O\/b<0\/11<b
  .rw[Rb hc]at e;cases e
  .have A:(IA t h).on=I:=by cases hh:(IA t h).on;exact absurd (.inr (.inr (.inl hh))) hc;rfl
   refine⟨rfl,by omega,A,by omega,by omega⟩
theorem FJ{l:List Int}(h:iA l=I):l.Nodup:=by
 rw[zB]at h;exact List.Pairwise.imp (λh=>by simp only[id]at h;omega) h.2
def UK (t:Tx):Prop:=(∀x∈blksOf t.info,x∉blksOf t.data/\x∉t.rev)/\∀x∈blksOf t.data,x∉t.rev
theorem pM(h1:iA (blksOf t.info)=I)(h2:iA (blksOf t.data)=I)(L:iA t.rev=I):(YC t).Nodup↔UK t:=by
 rw[YC,Bf,Bf];constructor
 .rintro⟨_,⟨_,_,a⟩,b⟩;refine⟨λx D=>⟨λe=>b x D x (Mc.2 (.inl e)) rfl,λe=>b x D x (Mc.2 (.inr e)) rfl⟩,λx D e=>a x D x e rfl⟩
 .rintro⟨a,b⟩;refine⟨FJ h1,⟨FJ h2,FJ L,λx D y hy e=>b x D (e▸hy)⟩,λx D y hy e=>?_⟩;rcases Mc.1 hy with hy|hy
  .exact(a x D).1 (e▸hy)
  .exact(a x D).2 (e▸hy)
theorem GK:b∈blksOf l↔(uA b l).isSome=I:=by
 rw[KI,Ve,blksOf,Wc];constructor
 .rintro⟨x,A,rfl⟩;exact⟨x,A,by simp⟩
 .rintro⟨x,A,e⟩;exact⟨x,A,by simpa using e⟩
theorem lN{l:List Int}:b∈l↔tA l b=I:=by
 rw[tA,Ve];constructor
 .intro h;exact⟨b,h,by simp⟩
 .rintro⟨x,A,e⟩;have:x=b:=by simpa using e
  rw[<-this];exact A
theorem aH:y∈blksOf (putAt (·.1) l b (b,s))↔y=b\/(y∈blksOf l/\y≠b):=by
 simp only[blksOf,List.mem_map];constructor
 .rintro⟨x,C,rfl⟩;rcases wE.1 C with rfl|⟨A,B⟩
  .exact .inl rfl
  .exact .inr ⟨⟨x,A,rfl⟩,B⟩
 .rintro(rfl|⟨⟨x,A,rfl⟩,B⟩)
  .exact⟨_,wE.2 (.inl rfl),rfl⟩
  .exact⟨x,wE.2 (.inr ⟨A,B⟩),rfl⟩
theorem tH:y∈blksOf (dropAt (·.1) l b)↔y∈blksOf l/\y≠b:=by
 simp only[blksOf,List.mem_map];constructor
 .rintro⟨x,C,rfl⟩;have:=OE.1 C;exact⟨⟨x,this.1,rfl⟩,this.2⟩
 .rintro⟨⟨x,A,rfl⟩,B⟩;exact⟨x,OE.2 ⟨A,B⟩,rfl⟩
theorem ZM(h:iA (blksOf l)=I)(h0:0<=b)(h1:b<=11)(s:ByteArray):iA (blksOf (putAt (·.1) l b (b,s)))=I:=by
 have A:=(zB _).1 h;rw[zB];refine⟨λy D=>?_,?_⟩
 .rcases aH.1 D with rfl|⟨e,_⟩
  .exact⟨h0,h1⟩
  .exact A.1 y e
 .rw[blksOf,cD]at A|-;exact sI A.2 rfl
theorem OP(h:iA (blksOf l)=I)(b:Int):iA (blksOf (dropAt (·.1) l b))=I:=by
 have A:=(zB _).1 h;rw[zB];refine⟨λy D=>A.1 y (tH.1 D).1,?_⟩;rw[blksOf,cD]at A|-;exact dJ A.2 b
theorem Eb{l:List Int}(h:iA l=I)(h0:0<=b)(h1:b<=11):iA (putAt id l b b)=I:=by
 rw[zB]at h|-;refine⟨λy D=>?_,sI h.2 rfl⟩;rcases wE.1 D with rfl|⟨e,_⟩
 .exact⟨h0,h1⟩
 .exact h.1 y e
theorem pW{l:List Int}(h:iA l=I)(b:Int):iA (dropAt id l b)=I:=by
 rw[zB]at h|-;exact⟨λy D=>h.1 y (OE.1 D).1,dJ h.2 b⟩
theorem pN(h:NB l=I)(b:Int)(D:oA s=I):NB (putAt (·.1) l b (b,s))=I:=by
 unfold NB at h|-;rw[Zc]at h|-;intro x A;rcases wE.1 A with rfl|⟨e,_⟩
 .exact D
 .exact h x e
theorem nM(h:NB l=I)(b:Int):NB (dropAt (·.1) l b)=I:=by
 unfold NB at h|-;rw[Zc]at h|-;intro x A;exact h x (OE.1 A).1
theorem rI{α:Type}{key:α->Int}{l:List α}(h:Up key l)(b:Int):(dropAt key l b).length+(if(l.any λx=>key x==b)=I then 1 else 0)=l.length:=by
 induction l with
 |nil=>rfl
 |cons x r ih=>
  have B:=We.1 h;have D:=ih B.2;have hd:=UL h b;have hd2:=UL B.2 b;rw[hd2]at D;rw[hd,ie,List.any_cons];by_cases e:key x=b
  .have A:(r.any λx=>key x==b)=O:=by
    rw[kg];intro y E;have:=B.1 y E;simp;omega
   rw[A]at D;have C:(key x==b)=I:=by simpa using e
   rw[Qb (by simpa using e),C,A];simp at D|-;omega
  .have C:(key x==b)=O:=by simpa using e
   rw[Rb (by simpa using e),C,vf,Td,Td];omega
theorem VP{α:Type}(key:α->Int)(l:List α)(b:Int)(x:α):(putAt key l b x).length=(dropAt key l b).length+1:=by
 simp[putAt,dropAt];omega
theorem mJ(t:Tx)(h b:Int):(nameT t h b).seq=t.seq:=by
 unfold nameT QB;split
 .rfl
 .split
  .rfl
  .split<;>rfl
theorem nN(L:nA t=I)(hh:h=0\/h=1\/h=2)(D:nameE t h b=0)(Q:(IA t h).on=I):
  hdB (nameT t h b).h0=I/\hdB (nameT t h b).h1=I/\hdB (nameT t h b).h2=I:=by
 have A:=((VA t).1 L).2.2.2.2;unfold nameT;by_cases e:EB t b=I
 .rw[Rb e];exact A
 .rw[Qb e];rw[nameE,Qb e]at D;have hk:=(nC _).1 (NF L h);have hl:(IA t h).left≠0:=by intro e;rw[Rb e]at D;cases D
  have B:hdB ⟨(IA t h).on,(IA t h).left - 1⟩=I:=(nC _).2 ⟨by show 0<=(IA t h).left - 1;omega,by show(IA t h).left - 1<=24;omega,λe=>by rw[Q]at e;cases e⟩;rcases hh with rfl|rfl|rfl
  .exact⟨B,A.2.1,A.2.2⟩
  .exact⟨A.1,B,A.2.2⟩
  .exact⟨A.1,A.2.1,B⟩
theorem WO(t:Tx)(h b:Int)(hh:h=0\/h=1\/h=2):(nameT t h b).h0.left+(nameT t h b).h1.left+(nameT t h b).h2.left=t.h0.left+t.h1.left+t.h2.left - (if EB t b=I then 0 else 1):=by
 unfold nameT
 cases EB t b with
 |true=>simp
 |false=>rcases hh with rfl|rfl|rfl<;>simp[QB,IA]<;>omega
theorem IL(e:changeE t h b s=0):reachE t h b=0/\oA s=I/\(uA b t.data).isSome=O/\nameE t h b=0:=by
 unfold changeE at e;by_cases h1:reachE t h b=0
 .rw[Qb (by simpa using h1)]at e
  cases h2:oA s with
  |false=>rw[Rb h2]at e;cases e
  |true=>
   rw[Qb (by rw[h2];simp)]at e
   cases h3:(uA b t.data).isSome with
   |true=>rw[Rb h3]at e;cases e
   |false=>rw[Qb (by rw[h3];simp)]at e;exact⟨h1,rfl,rfl,e⟩
 .rw[Rb h1]at e;exact absurd e h1
theorem dP(e:fillE t h b s=0):reachE t h b=0/\oA s=I/\EB t b=O:=by
 unfold fillE at e;by_cases h1:reachE t h b=0
 .rw[Qb (by simpa using h1)]at e
  cases h2:oA s with
  |false=>rw[Rb h2]at e;cases e
  |true=>
   rw[Qb (by rw[h2];simp)]at e
   cases h3:EB t b with
   |true=>rw[Rb h3]at e;cases e
   |false=>exact⟨h1,rfl,rfl⟩
 .rw[Rb h1]at e;exact absurd e h1
theorem kK(e:revokeE t h b=0):reachE t h b=0/\tA t.rev b=O/\nameE t h b=0:=by
 unfold revokeE at e;by_cases h1:reachE t h b=0
 .rw[Qb (by simpa using h1)]at e
  cases h3:tA t.rev b with
  |true=>rw[Rb h3]at e;cases e
  |false=>rw[Qb (by rw[h3];simp)]at e;exact⟨h1,rfl,e⟩
 .rw[Rb h1]at e;exact absurd e h1
theorem bI(h1:1<=t.seq/\t.seq<=2147483647)(h2:NB t.info=I)(c:NB t.data=I)(L:iA (blksOf t.info)=I)(Q:iA (blksOf t.data)=I)(D:iA t.rev=I)(X:UK t)(R:hdB t.h0=I/\hdB t.h1=I/\hdB t.h2=I):nA t=I:=
 (VA t).2 ⟨h1,⟨h2,c⟩,⟨L,Q,D⟩,(pM L Q D).2 X,R⟩
theorem YG(h:nA t=I):UK t:=by
 have:=(VA t).1 h;exact(pM this.2.2.1.1 this.2.2.1.2.1 this.2.2.1.2.2).1 this.2.2.2.1
theorem MN(e:changeE t h b s=0):nA (iD t h b s)=I:=by
 obtain⟨M,N,hd,O⟩:=IL e;obtain⟨E,L,K,b0,J⟩:=vD M;have A:=(VA t).1 E;have D:=YG E;refine bI (t:=iD t h b s) ?_ (pN A.2.1.1 b N) ?_ (ZM A.2.2.1.1 b0 J s) ?_ (pW A.2.2.1.2.2 b) ?_ (nN E L O K)
 .show 1<=(nameT t h b).seq/\(nameT t h b).seq<=2147483647;rw[mJ];exact A.1
 .show NB (nameT t h b).data=I;rw[(kG t h b).2.1];exact A.2.1.2
 .show iA (blksOf (nameT t h b).data)=I;rw[(kG t h b).2.1];exact A.2.2.1.2.1
 .have B:(iD t h b s).data=t.data:=(kG t h b).2.1;have X:b∉blksOf t.data:=λe=>by rw[GK,hd]at e;cases e
  refine⟨λx Q=>⟨?_,?_⟩,λx Q=>?_⟩
  .rw[B];rcases aH.1 Q with rfl|⟨R,_⟩
   .exact X
   .exact(D.1 x R).1
  .intro C;have F:=OE.1 C;rcases aH.1 Q with rfl|⟨R,_⟩
   .exact F.2 rfl
   .exact(D.1 x R).2 F.1
  .rw[B]at Q;intro C;exact D.2 x Q (OE.1 C).1
theorem jM(e:revokeE t h b=0):nA (FD t h b)=I:=by
 obtain⟨K,hd,L⟩:=kK e;obtain⟨E,J,X,b0,F⟩:=vD K;have B:=(VA t).1 E;have D:=YG E;refine bI (t:=FD t h b) ?_ (nM B.2.1.1 b) (nM B.2.1.2 b) (OP B.2.2.1.1 b) (OP B.2.2.1.2.1 b) (Eb B.2.2.1.2.2 b0 F) ?_ (nN E J L X)
 .show 1<=(nameT t h b).seq/\(nameT t h b).seq<=2147483647;rw[mJ];exact B.1
 .refine⟨λx Q=>⟨?_,?_⟩,λx Q=>?_⟩
  .intro A;exact(D.1 x (tH.1 Q).1).1 (tH.1 A).1
  .intro A;have C:=tH.1 Q;rcases wE.1 A with rfl|⟨R,_⟩
   .exact C.2 rfl
   .exact(D.1 x C.1).2 R
  .intro A;have C:=tH.1 Q;rcases wE.1 A with rfl|⟨R,_⟩
   .exact C.2 rfl
   .exact D.2 x C.1 R
theorem NS(e:fillE t h b s=0):nA {t with data:=putAt (·.1) t.data b (b,s)}=I:=by
 obtain⟨X,J,hd⟩:=dP e;obtain⟨E,hh,ho,b0,F⟩:=vD X;have B:=(VA t).1 E;have D:=YG E;have C:(uA b t.info).isSome=O/\tA t.rev b=O:=by rw[EB]at hd;simpa using hd
 refine bI (t:={t with data:=putAt (·.1) t.data b (b,s)}) B.1 B.2.1.1 (pN B.2.1.2 b J) B.2.2.1.1 (ZM B.2.2.1.2.1 b0 F s) B.2.2.1.2.2 ?_ B.2.2.2.2;refine⟨λx L=>⟨?_,(D.1 x L).2⟩,λx L=>?_⟩
 .intro A;rcases aH.1 A with rfl|⟨Q,_⟩
  .rw[GK,C.1]at L;cases L
  .exact(D.1 x L).1 Q
 .intro A;rcases aH.1 L with rfl|⟨R,_⟩
  .rw[lN]at A;rw[C.2]at A;cases A
  .exact D.2 x R A
theorem xL{x:Hd}(L:nA t=I)(D:hdB x=I):nA (QB t h x)=I:=by
 have A:=(VA t).1 L;unfold QB;split
 .exact(VA _).2 ⟨A.1,A.2.1,A.2.2.1,A.2.2.2.1,D,A.2.2.2.2.2⟩
 .split
  .exact(VA _).2 ⟨A.1,A.2.1,A.2.2.1,A.2.2.2.1,A.2.2.2.2.1,D,A.2.2.2.2.2.2⟩
  .exact(VA _).2 ⟨A.1,A.2.1,A.2.2.1,A.2.2.2.1,A.2.2.2.2.1,A.2.2.2.2.2.1,D⟩
theorem FT(e:changeE t h b s=0):jB (iD t h b s)=jB t:=by
 have K:=MN e;obtain⟨M,hs,hd,hn⟩:=IL e;obtain⟨D,L,ho,b0,b1⟩:=vD M;have E:=(VA t).1 D;have F:=YG D;have u1:Up (·.1) t.info:=(cD _ _).1 ((zB _).1 E.2.2.1.1).2;have u3:Up id t.rev:=((zB _).1 E.2.2.1.2.2).2;rw[(IE K).1,(IE D).1];have B:=rI u1 b;have C:=rI u3 b;have R:=VP (·.1) t.info b (b,s);have J:=WO t h b L;have x1:(iD t h b s).info.length=(dropAt (·.1) t.info b).length+1:=R;have x3:(iD t h b s).rev.length=(dropAt id t.rev b).length:=rfl;have A:(iD t h b s).h0.left+(iD t h b s).h1.left+(iD t h b s).h2.left=t.h0.left+t.h1.left+t.h2.left - (if EB t b=I then 0 else 1):=J;have O:(t.info.any λx=>x.1==b)=(uA b t.info).isSome:=(KI t.info b).symm;have Q:(t.rev.any λx=>id x==b)=tA t.rev b:=rfl;rw[O]at B;rw[Q]at C;have N:¬((uA b t.info).isSome=I/\tA t.rev b=I):=fun⟨e1,e2⟩=>(F.1 b (GK.2 e1)).2 (lN.2 e2);unfold EB at A
 cases c1:(uA b t.info).isSome with
 |true=>
  cases c3:tA t.rev b with
  |true=>exact absurd ⟨c1,c3⟩ N
  |false=>rw[c1]at B;rw[c3]at C;rw[c1]at A;simp at B C A;omega
 |false=>
  cases c3:tA t.rev b with
  |true=>rw[c1]at B;rw[c3]at C;rw[c1,c3]at A;simp at B C A;omega
  |false=>rw[c1]at B;rw[c3]at C;rw[c1,c3]at A;simp at B C A;omega
theorem wa(e:revokeE t h b=0):jB (FD t h b)=jB t:=by
 have Q:=jM e;obtain⟨K,hd,hn⟩:=kK e;obtain⟨D,J,ho,b0,b1⟩:=vD K;have E:=(VA t).1 D;have u1:Up (·.1) t.info:=(cD _ _).1 ((zB _).1 E.2.2.1.1).2;have u3:Up id t.rev:=((zB _).1 E.2.2.1.2.2).2;rw[(IE Q).1,(IE D).1];have B:=rI u1 b;have C:=rI u3 b;have p3:=VP id t.rev b b;have F:=WO t h b J;have x1:(FD t h b).info.length=(dropAt (·.1) t.info b).length:=rfl;have x3:(FD t h b).rev.length=(dropAt id t.rev b).length+1:=p3;have A:(FD t h b).h0.left+(FD t h b).h1.left+(FD t h b).h2.left=t.h0.left+t.h1.left+t.h2.left - (if EB t b=I then 0 else 1):=F;have L:(t.info.any λx=>x.1==b)=(uA b t.info).isSome:=(KI t.info b).symm;have M:(t.rev.any λx=>id x==b)=tA t.rev b:=rfl;rw[L]at B;rw[M,hd]at C;unfold EB at A;rw[hd,kf]at A
 cases c1:(uA b t.info).isSome with
 |true=>rw[c1]at B;rw[c1]at A;simp at B C A;omega
 |false=>rw[c1]at B;rw[c1]at A;simp at B C A;omega
def wC (t:Tx)(k h b n free:Int)(s:ByteArray):Int:=
 if k=0 then beginE t h n free else if k=1 then changeE t h b s else if k=2 then fillE t h b s else if k=3 then revokeE t h b else stopE t h
def cC (t:Tx)(k h b n free:Int)(s:ByteArray):Tx:=
 if k=0 then beginT t h n free else if k=1 then ZB t h b s else if k=2 then xC t h b s else if k=3 then GB t h b else stopT t h
theorem SX(h:a<=b):clampN a<=clampN b:=by unfold clampN;split<;>split<;>(try split)<;>(try split)<;>omega
theorem aN(h:a<=b):RA a<=RA b:=by
 have h1:=SX h;unfold RA;generalize clampN a=x at *;generalize clampN b=y at *;have e1:(if 0<x then(1:Int) else 0)<=if 0<y then 1 else 0:=by split<;>split<;>omega
 have e2:(if 10<x then(1:Int) else 0)<=if 10<y then 1 else 0:=by split<;>split<;>omega
 have e3:(if 20<x then(1:Int) else 0)<=if 20<y then 1 else 0:=by split<;>split<;>omega
 omega
theorem RV{m r:Int}(hm:0<=m)(hr:0<=r)(A1:m<=12)(A0:r<=12)(D:m+r<=a):LC m r=0/\needN m r<=RA a:=by
 have A:LC m r=0:=by rw[LC,Qb];omega
 refine⟨A,?_⟩;have B:RA (m+r)<=RA a:=aN D;refine Int.le_trans ?_ B;have C:clampN (m+r)=m+r:=by unfold clampN;rw[Qb (by omega),Qb (by omega)]
 rw[needN,Rb A,RA,C];have e1:(if 0<r then(1:Int) else 0)<=if 0<m+r then 1 else 0:=by split<;>split<;>omega
 have e2:(if 0<m then(1:Int) else 0)<=if 0<m+r then 1 else 0:=by split<;>split<;>omega
 have e3:(if 10<m then(1:Int) else 0)<=if 10<m+r then 1 else 0:=by split<;>split<;>omega
 have e4:0<=if 20<m+r then(1:Int) else 0:=by split<;>omega
 omega
theorem lW(h:nA t=I):LC (t.info.length:Int) (t.rev.length:Int)=0/\needN (t.info.length:Int) (t.rev.length:Int)<=RA (jB t):=by
 have hs:=iB h;have ha:=IE h;have A:=((VA t).1 h).2.2.2.2;have a0:=(nC _).1 A.1;have a1:=(nC _).1 A.2.1;have a2:=(nC _).1 A.2.2;exact RV (by omega) (by omega) (by omega) (by omega) (by omega)
theorem OQ(t:Tx)(h:Int)(x:Hd):(QB t h x).info=t.info/\(QB t h x).rev=t.rev:=by
 unfold QB;split
 .exact⟨rfl,rfl⟩
 .split<;>exact⟨rfl,rfl⟩
theorem AP{x:Hd}(D:nA t=I)(L:hdB x=I):jB (QB t h x)=jB t - (IA t h).left+x.left:=by
 have e:=(IE (xL (h:=h) D L)).1;have A:=(IE D).1;rw[e,A,(OQ t h x).1,(OQ t h x).2];unfold QB IA;split
 .show _+_+x.left+t.h1.left+t.h2.left=_;omega
 .split
  .show _+_+t.h0.left+x.left+t.h2.left=_;omega
  .show _+_+t.h0.left+t.h1.left+x.left=_;omega
theorem ZV(e:beginE t h n free=0):nA t=I/\(IA t h).on=O/\(0<=n/\n<=12)/\jB t+n<=24/\RA (jB t+n)<=free:=by
 unfold beginE at e
 cases hg:nA t with
 |false=>rw[Rb hg]at e;cases e
 |true=>
  rw[Qb (by rw[hg];simp)]at e;by_cases h1:h<0\/2<h
  .rw[Rb h1]at e;cases e
  .rw[Qb h1]at e
   cases ho:(IA t h).on with
   |true=>rw[Rb ho]at e;cases e
   |false=>
    rw[Qb (by rw[ho];simp)]at e;by_cases h2:n<0\/12<n
    .rw[Rb h2]at e;cases e
    .rw[Qb h2]at e;by_cases h3:24<jB t+n\/free<RA (jB t+n)
     .rw[Rb h3]at e;cases e
     .exact⟨rfl,rfl,by omega,by omega,by omega⟩
theorem oV(D:¬wC t k h b n free s=0):cC t k h b n free s=t:=by
 unfold wC at D;unfold cC;split
 .rename_i A;rw[Rb A]at D;rw[beginT,Qb D]
 .rename_i A;rw[Qb A]at D;split
  .rename_i A;rw[Rb A]at D;rw[ZB,Qb D]
  .rename_i A;rw[Qb A]at D;split
   .rename_i A;rw[Rb A]at D;rw[xC,Qb D]
   .rename_i A;rw[Qb A]at D;split
    .rename_i A;rw[Rb A]at D;rw[GB,Qb D]
    .rename_i A;rw[Qb A]at D;rw[stopT,Qb D]
theorem AY(Q:nA t=I):
  nA (cC t k h b n free s)=I/\(k≠0->jB (cC t k h b n free s)<=jB t)/\(wC t k h b n free s=0->k=0->RA (jB (cC t k h b n free s))<=free):=by
 by_cases he:wC t k h b n free s=0
 .have R:=(nC _).1 (NF Q h);unfold wC at he;unfold cC;split
  .rename_i A;rw[Rb A]at he;obtain⟨_,K,M,A0,J⟩:=ZV he;have E:hdB ⟨I,n⟩=I:=(nC _).2 ⟨M.1,by show n<=24;omega,λe=>by cases e⟩;have L:(IA t h).left=0:=R.2.2 K;have F:=AP (h:=h) Q E;rw[L]at F;rw[beginT,Rb he];refine⟨xL Q E,λe=>absurd A e,λ_ _=>?_⟩;rw[F,show jB t - 0+(Hd.mk I n).left=jB t+n from by show _ - 0+n=_;omega];exact J
  .rename_i A;rw[Qb A]at he;split
   .rename_i D;rw[Rb D]at he;rw[ZB,Rb he];exact⟨MN he,λ_=>by rw[FT he];omega,λ_ e=>absurd e A⟩
   .rename_i D;rw[Qb D]at he;split
    .rename_i C;rw[Rb C]at he;rw[xC,Rb he];refine⟨NS he,λ_=>?_,λ_ e=>absurd e A⟩;exact Int.le_of_eq rfl
    .rename_i C;rw[Qb C]at he;split
     .rename_i B;rw[Rb B]at he;rw[GB,Rb he];exact⟨jM he,λ_=>by rw[wa he];omega,λ_ e=>absurd e A⟩
     .rename_i B;rw[Qb B]at he;have E:hdB ⟨O,0⟩=I:=rfl;have F:=AP (h:=h) Q E;rw[stopT,Rb he];refine⟨xL Q E,λ_=>?_,λ_ e=>absurd e A⟩;rw[F];show jB t - (IA t h).left+0<=_;omega
 .rw[oV he];exact⟨Q,λ_=>Le _,λe=>absurd e he⟩
def CL (base:Nat)(v:E)(t:Tx):Prop:=
 ∃a c L Q r d,v=F #[H G t.seq,M a t.info.length c,M L t.data.length Q,M r t.rev.length d,Y t.h0.on,H G t.h0.left,Y t.h1.on,H G t.h1.left,Y t.h2.on,H G t.h2.left]/\
  (∀x D,a=J ⟨x,D,Z⟩->base<=x)/\(∀x D,L=J ⟨x,D,Z⟩->base<=x)/\∀x D,r=J ⟨x,D,Z⟩->base<=x
theorem BoxTx.from(h:BoxTx w B t va vd vr)(hb:base<=B+1):
  CL base (F #[H G t.seq,va,vd,vr,Y t.h0.on,H G t.h0.left,Y t.h1.on,H G t.h1.left,Y t.h2.on,H G t.h2.left]) t:=by
 obtain⟨a,c,rfl,_,Q⟩:=SegC.of_owns h.2.1;obtain⟨A,C,rfl,_,L⟩:=SegC.of_owns h.2.2.1;obtain⟨r,d,rfl,_,D⟩:=SegI.of_owns h.2.2.2;exact⟨a,c,A,C,r,d,rfl,λx o e=>ac hb (Q x o e),λx o e=>ac hb (L x o e),λx o e=>ac hb (D x o e)⟩
def DF (base:Nat)(v:E)(t:Tx):Prop:=CL base v t/\RoomTx v
theorem DD{sz k n c:Nat}{e:TypeId}{a:Option Addr}{D:List E}(h:w.ownsRow base e sz (M a n c) k D):n<=c:=by
 rcases h.2 with⟨e,_⟩|⟨g,cap,A0,e,_,_,h1,_⟩
 .simp only[Value.slice.injEq]at e;omega
 .simp only[Value.slice.injEq]at e;omega
theorem BoxTx.fromR(h:BoxTx w B t va vd vr)(hb:base<=B+1):
  DF base (F #[H G t.seq,va,vd,vr,Y t.h0.on,H G t.h0.left,Y t.h1.on,H G t.h1.left,Y t.h2.on,H G t.h2.left]) t:=by
 refine⟨h.from hb,?_⟩;obtain⟨_,D,C,A⟩:=h;obtain⟨a,c,rfl,_,_⟩:=SegC.of_owns D;obtain⟨a',c',rfl,_,_⟩:=SegC.of_owns C;obtain⟨r,d,rfl,_,_⟩:=SegI.of_owns A;exact⟨_,_,_,_,_,_,_,_,_,_,_,_,_,_,_,_,rfl,DD D,DD C,DD A⟩
theorem BoxTx.other(h:BoxTx w B t va vd vr){p:Addr}(hp:p.block<B)(u:E):BoxTx (w.setCell p u) B t va vd vr:=
 ⟨(Sc _ _ _ _ (by omega)).trans h.1,Jc h.2.1 (by omega) _,Jc h.2.2.1 (by omega) _,Jc h.2.2.2 (by omega) _⟩
theorem nE{α:Type}(key:α->Int)(l:List α)(b:Int)(x:α):(putAt key l b x).length<=2*l.length+1:=by
 have h1:=Pd (λy=>decide (key y<b)) l;have h2:=Pd (λy=>decide (b<key y)) l;simp[putAt];omega
theorem BE{α:Type}(key:α->Int)(l:List α)(b:Int):(dropAt key l b).length<=2*l.length:=by
 have h1:=Pd (λy=>decide (key y<b)) l;have h2:=Pd (λy=>decide (b<key y)) l;simp[dropAt];omega
open Go.Proofs.Tryz
def NC (t:Tx)(h b:Int):Tx:=if nameE t h b=0 then nameT t h b else t
theorem Ab(B:Nat)(t:Tx)(va vd vr:E)(b:Int)(w:K)(c:BoxTx w B t va vd vr)(s:t.info.length<=1000)(u:t.data.length<=1000)(r:t.rev.length<=1000)(hl:0<=t.h0.left/\t.h0.left<=24):
  Calls prog 162 #[C (J ⟨B,0,Z⟩),H G 0,H G b] w λe j=>e=N (H G (nameE t 0 b))/\BoxTx j B (NC t 0 b) va vd vr/\Below B w j:=by
 have x:=zA (c.is (by unfold maxLen;omega) (by unfold maxLen;omega) (by unfold maxLen;omega));obtain⟨a1,c1,rfl,_,_⟩:=SegC.of_owns c.2.1;obtain⟨a2,c2,rfl,_,_⟩:=SegC.of_owns c.2.2.1;obtain⟨a3,c3,rfl,_,_⟩:=SegI.of_owns c.2.2.2;have q:=zA c;have A0:=c.lt;clear c s u r;obtain⟨⟨U,M,p,S,L,m,R,I,X,Q⟩,O⟩:=BA q.o.1;go_enter func162,ntmps162;go_wp2_with fail;refine(PI _ t b _ x.o).mono ?_;rintro e Y ⟨rfl,i⟩;have A:=zA (q.o.below i);have D:Hid (Below B w Y):=i.mono (by omega);clear U M p S L m R I X Q O i;obtain⟨⟨U,M,p,S,L,m,R,I,X,Q⟩,O⟩:=BA A.o.1
 cases hn:EB t b with
 |true=>
  have d:Hid (nameE t 0 b=0):=by rw[Hid,nameE,Rb hn]
  have F:Hid (nameT t 0 b=t):=by rw[Hid,nameT,Rb hn]
  go_wp2;go_ret;exact⟨by rw[d.o];rfl,by rw[NC,Rb d.o,F.o];exact A.o,D.o⟩
 |false=>
  by_cases h0:t.h0.left=0
  .have d:Hid (nameE t 0 b=7):=by rw[Hid,nameE,Qb (by rw[hn];simp),Rb (show(IA t 0).left=0 from h0)]
   have H0:=zA h0;clear hn;go_wp2;go_ret;exact⟨by rw[d.o];rfl,by rw[NC,Qb (by rw[d.o];decide)];exact A.o,D.o⟩
  .have d:Hid (nameE t 0 b=0):=by rw[Hid,nameE,Qb (by rw[hn];simp),Qb (show¬(IA t 0).left=0 from h0)]
   have F:Hid (nameT t 0 b={t with h0:=⟨t.h0.on,t.h0.left - 1⟩}):=by rw[Hid,nameT,Qb (by rw[hn];simp)];rfl
   go_wp2;go_ret;refine⟨by rw[d.o];rfl,?_,D.o.setCell (by simp) _⟩;rw[NC,Rb d.o,F.o];exact A.o.set (t':={t with h0:=⟨t.h0.on,t.h0.left - 1⟩}) 5 (H G (t.h0.left - 1)) rfl A.o.2.1 A.o.2.2.1 A.o.2.2.2
theorem rW(B:Nat)(t:Tx)(va vd vr:E)(b:Int)(w:K)(c:BoxTx w B t va vd vr)(s:t.info.length<=1000)(u:t.data.length<=1000)(r:t.rev.length<=1000)(hl:0<=t.h1.left/\t.h1.left<=24):
  Calls prog 162 #[C (J ⟨B,0,Z⟩),H G 1,H G b] w λe j=>e=N (H G (nameE t 1 b))/\BoxTx j B (NC t 1 b) va vd vr/\Below B w j:=by
 have x:=zA (c.is (by unfold maxLen;omega) (by unfold maxLen;omega) (by unfold maxLen;omega));obtain⟨a1,c1,rfl,_,_⟩:=SegC.of_owns c.2.1;obtain⟨a2,c2,rfl,_,_⟩:=SegC.of_owns c.2.2.1;obtain⟨a3,c3,rfl,_,_⟩:=SegI.of_owns c.2.2.2;have q:=zA c;have A0:=c.lt;clear c s u r;obtain⟨⟨U,M,p,S,L,m,R,I,X,Q⟩,O⟩:=BA q.o.1;go_enter func162,ntmps162;go_wp2_with fail;refine(PI _ t b _ x.o).mono ?_;rintro e Y ⟨rfl,i⟩;have A:=zA (q.o.below i);have D:Hid (Below B w Y):=i.mono (by omega);clear U M p S L m R I X Q O i;obtain⟨⟨U,M,p,S,L,m,R,I,X,Q⟩,O⟩:=BA A.o.1
 cases hn:EB t b with
 |true=>
  have d:Hid (nameE t 1 b=0):=by rw[Hid,nameE,Rb hn]
  have F:Hid (nameT t 1 b=t):=by rw[Hid,nameT,Rb hn]
  go_wp2;go_ret;exact⟨by rw[d.o];rfl,by rw[NC,Rb d.o,F.o];exact A.o,D.o⟩
 |false=>
  by_cases h0:t.h1.left=0
  .have d:Hid (nameE t 1 b=7):=by rw[Hid,nameE,Qb (by rw[hn];simp),Rb (show(IA t 1).left=0 from h0)]
   have H0:=zA h0;clear hn;go_wp2;go_ret;exact⟨by rw[d.o];rfl,by rw[NC,Qb (by rw[d.o];decide)];exact A.o,D.o⟩
  .have d:Hid (nameE t 1 b=0):=by rw[Hid,nameE,Qb (by rw[hn];simp),Qb (show¬(IA t 1).left=0 from h0)]
   have F:Hid (nameT t 1 b={t with h1:=⟨t.h1.on,t.h1.left - 1⟩}):=by rw[Hid,nameT,Qb (by rw[hn];simp)];rfl
   go_wp2;go_ret;refine⟨by rw[d.o];rfl,?_,D.o.setCell (by simp) _⟩;rw[NC,Rb d.o,F.o];exact A.o.set (t':={t with h1:=⟨t.h1.on,t.h1.left - 1⟩}) 7 (H G (t.h1.left - 1)) rfl A.o.2.1 A.o.2.2.1 A.o.2.2.2
theorem BV(B:Nat)(t:Tx)(va vd vr:E)(b:Int)(w:K)(c:BoxTx w B t va vd vr)(s:t.info.length<=1000)(u:t.data.length<=1000)(r:t.rev.length<=1000)(hl:0<=t.h2.left/\t.h2.left<=24):
  Calls prog 162 #[C (J ⟨B,0,Z⟩),H G 2,H G b] w λe j=>e=N (H G (nameE t 2 b))/\BoxTx j B (NC t 2 b) va vd vr/\Below B w j:=by
 have x:=zA (c.is (by unfold maxLen;omega) (by unfold maxLen;omega) (by unfold maxLen;omega));obtain⟨a1,c1,rfl,_,_⟩:=SegC.of_owns c.2.1;obtain⟨a2,c2,rfl,_,_⟩:=SegC.of_owns c.2.2.1;obtain⟨a3,c3,rfl,_,_⟩:=SegI.of_owns c.2.2.2;have q:=zA c;have A0:=c.lt;clear c s u r;obtain⟨⟨U,M,p,S,L,m,R,I,X,Q⟩,O⟩:=BA q.o.1;go_enter func162,ntmps162;go_wp2_with fail;refine(PI _ t b _ x.o).mono ?_;rintro e Y ⟨rfl,i⟩;have A:=zA (q.o.below i);have D:Hid (Below B w Y):=i.mono (by omega);clear U M p S L m R I X Q O i;obtain⟨⟨U,M,p,S,L,m,R,I,X,Q⟩,O⟩:=BA A.o.1
 cases hn:EB t b with
 |true=>
  have d:Hid (nameE t 2 b=0):=by rw[Hid,nameE,Rb hn]
  have F:Hid (nameT t 2 b=t):=by rw[Hid,nameT,Rb hn]
  go_wp2;go_ret;exact⟨by rw[d.o];rfl,by rw[NC,Rb d.o,F.o];exact A.o,D.o⟩
 |false=>
  by_cases h0:t.h2.left=0
  .have d:Hid (nameE t 2 b=7):=by rw[Hid,nameE,Qb (by rw[hn];simp),Rb (show(IA t 2).left=0 from h0)]
   have H0:=zA h0;clear hn;go_wp2;go_ret;exact⟨by rw[d.o];rfl,by rw[NC,Qb (by rw[d.o];decide)];exact A.o,D.o⟩
  .have d:Hid (nameE t 2 b=0):=by rw[Hid,nameE,Qb (by rw[hn];simp),Qb (show¬(IA t 2).left=0 from h0)]
   have F:Hid (nameT t 2 b={t with h2:=⟨t.h2.on,t.h2.left - 1⟩}):=by rw[Hid,nameT,Qb (by rw[hn];simp)];rfl
   go_wp2;go_ret;refine⟨by rw[d.o];rfl,?_,D.o.setCell (by simp) _⟩;rw[NC,Rb d.o,F.o];exact A.o.set (t':={t with h2:=⟨t.h2.on,t.h2.left - 1⟩}) 9 (H G (t.h2.left - 1)) rfl A.o.2.1 A.o.2.2.1 A.o.2.2.2
theorem rP(B:Nat)(t:Tx)(va vd vr:E)(h b:Int)(w:K)(D:BoxTx w B t va vd vr)(L:nA t=I)(hh:h=0\/h=1\/h=2):
  Calls prog 162 #[C (J ⟨B,0,Z⟩),H G h,H G b] w λe Q=>e=N (H G (nameE t h b))/\BoxTx Q B (NC t h b) va vd vr/\Below B w Q:=by
 have hs:=iB L;rcases hh with rfl|rfl|rfl
 .have:=(nC _).1 (NF L 0);exact Ab B t va vd vr b w D (by omega) (by omega) (by omega) ⟨this.1,this.2.1⟩
 .have:=(nC _).1 (NF L 1);exact rW B t va vd vr b w D (by omega) (by omega) (by omega) ⟨this.1,this.2.1⟩
 .have:=(nC _).1 (NF L 2);exact BV B t va vd vr b w D (by omega) (by omega) (by omega) ⟨this.1,this.2.1⟩
