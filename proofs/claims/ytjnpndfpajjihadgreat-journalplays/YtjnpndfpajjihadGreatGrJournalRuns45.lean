import Derived.Test.YtjnpndfpajjihadGreatGrJournalRuns36
import Derived.Test.YtjnpndfpajjihadGreatGrJournalRuns44
set_option maxRecDepth 100000
set_option maxHeartbeats 40000000
namespace Go.Proofs.YtjnpndfpajjihadGreat
open Go.Proofs.Tryz
open Go.RowKit
open Value renaming int -> H,slice -> M,pointer -> C,string -> A,agg -> F
open IntKind renaming i64 -> G
open Option renaming none -> Z,some -> J
open Bool renaming false -> O,true -> I
open Go renaming World -> K
open Obj renaming cells -> T
theorem vV(R:Nat)(X:List Nat)(j:Jn)(w:K)(h:RAt w R X j)(hX:∀x∈X,x<w.heap.size)(C4:IntKind.i64.wrap (j.now.seq+1)=j.now.seq+1)(hE:j.steps=[]->uC j.now=false->kC j.now=false->j.now.seq<=2147483645->NA j.rh j.ru j.now=0/\¬commitS j.rh j.ru j.now=[]):
  Calls prog 38 #[C (J ⟨R,0,Z⟩)] w (nD w R X (commitJ j)):=by
 have C2:=h.1;have C3:=h.lt;obtain⟨V,h⟩:=h.rs2 (.cells #[H G 0,H G 0,A ⟨#[]⟩] 31);have m:=zA h;have q:=zA (Cc w (.cells #[H G 0,H G 0,A ⟨#[]⟩] 31));have e:w.heap.size<(w.alloc (.cells #[H G 0,H G 0,A ⟨#[]⟩] 31)).heap.size:=by simp
 have p:=zA hE
 have HX:Hid (∀y∈w.heap.size::X,y<w.heap.size+1):=λy O=>by
  rcases Xc.1 O with rfl|O
  .omega
  .have:=hX y O;omega
 clear h hE hX;go_enter func38,ntmps38;obtain⟨x,u⟩:=kA m.o.k;unfold fA at x;obtain⟨y,B8⟩:=kA q.o;by_cases hs:j.steps=[]
 rotate_left
 .have hw:(wkR j !=0)=I:=by
   unfold wkR;rw[Qb hs]
   repeat' split
   all_goals rfl
  have E:Hid (commitJ j=(j,eA 9)):=by rw[Hid,commitJ,Rb (.inl hs)]
  clear hs p;go_wp2_with fail;refine(uI 9 _).mono ?_;rintro _ Q ⟨rfl,B5⟩;have C0:=zA (m.o.below B5);have l9:w.heap.size<Q.heap.size:=Xb e B5.size;obtain⟨y,B8⟩:=kA (yA B5 e q.o);clear B5;go_wp2;exact Tb (by simp[results,results38,go_sem,y];rfl) rfl ⟨by rw[E.o];rfl,by rw[E.o];exact C0.o.reply C2 C3 _ _ _⟩
 have hw:wkR j=0:=by rw[wkR,Rb hs]
 rw[hw]at x;go_wp2_with fail;refine(pQ _ j.now _ (m.o.r.now.ext (Ext.seenL _ _))).mono ?_;rintro _ w1 ⟨rfl,S⟩;have B7:=zA (m.o.below S);have U:=zA (yA S e q.o);have L:=Xb e S.size;have m1:=B7.o.lt;clear S x u y B8 m q e;obtain⟨x,u⟩:=kA B7.o.k;unfold fA at x;obtain⟨y,B8⟩:=kA U.o
 cases ho:uC j.now with
 |true=>
  have E:Hid (commitJ j=(j,eA 9)):=by rw[Hid,commitJ,Rb (.inr ho)]
  clear ho hs p;go_wp2_with fail;refine(uI 9 _).mono ?_;rintro _ Q ⟨rfl,B5⟩;have C0:=zA (B7.o.below B5);have l9:w.heap.size<Q.heap.size:=Xb L B5.size;obtain⟨y,B8⟩:=kA (yA B5 L U.o);clear B5;go_wp2;exact Tb (by simp[results,results38,go_sem,y];rfl) rfl ⟨by rw[E.o];rfl,by rw[E.o];exact C0.o.reply C2 C3 _ _ _⟩
 |false=>
  have E1:=zA (show commitJ j=if kC j.now=I then(j,eA 4) else if 2147483645<j.now.seq then(j,eA 11) else if NA j.rh j.ru j.now=0 then _ else _ by rw[commitJ,Qb (by rw[ho];simp[hs])]);by_cases hm:kC j.now=I
  .have E:=zA (E1.o.trans (Rb hm));have l:=hm;unfold kC at l;simp only[Bool.and_eq_true,decide_eq_true_eq]at l;obtain⟨⟨e1,D⟩,b⟩:=l;have B2:=B7;rw[e1,D,b]at x;clear hm e1 D b ho hs p E1;go_wp2_with fail;refine(uI 4 _).mono ?_;rintro _ Q ⟨rfl,B5⟩;have C0:=zA (B7.o.below B5);have l9:w.heap.size<Q.heap.size:=Xb L B5.size;obtain⟨y,B8⟩:=kA (yA B5 L U.o);clear B5;go_wp2;exact Tb (by simp[results,results38,go_sem,y];rfl) rfl ⟨by rw[E.o];rfl,by rw[E.o];exact C0.o.reply C2 C3 _ _ _⟩
  have s:=zA (E1.o.trans (Qb hm))
  have C1:¬j.now.info.length=0\/j.now.info.length=0/\¬j.now.data.length=0\/j.now.info.length=0/\j.now.data.length=0/\¬j.now.rev.length=0:=by
   unfold kC at hm;simp only[Bool.and_eq_true,decide_eq_true_eq,not_and]at hm;omega
  have i:=zA (p.o hs ho (by simpa using hm));clear hs ho hm p E1;by_cases hq:2147483645<j.now.seq
  .have E:=zA (s.o.trans (Rb hq));clear i s;rcases C1 with e1|⟨e1,D⟩|⟨e1,D,b⟩
   all_goals
    try (have B1:((j.now.info.length:Int)==0)=false:=Ec.2 (by omega))
    try (have A6:((j.now.data.length:Int)==0)=false:=Ec.2 (by omega))
    try (have A8:((j.now.rev.length:Int)==0)=false:=Ec.2 (by omega))
    try (rw[e1]at x)
    try (rw[D]at x)
    clear e1
    try clear D
    try clear b
    go_wp2_with fail;refine(uI 11 _).mono ?_;rintro _ Q ⟨rfl,B5⟩;have C0:=zA (B7.o.below B5);have l9:w.heap.size<Q.heap.size:=Xb L B5.size;obtain⟨y,B8⟩:=kA (yA B5 L U.o);clear B5;go_wp2;exact Tb (by simp[results,results38,go_sem,y];rfl) rfl ⟨by rw[E.o];rfl,by rw[E.o];exact C0.o.reply C2 C3 _ _ _⟩
  obtain⟨h0,A1⟩:=i.o (by omega);have HN:=zA A1;have E:=zA (s.o.trans ((Qb hq).trans (Rb h0)));have A7:=zA h0;clear i s h0 A1;rcases C1 with e1|⟨e1,D⟩|⟨e1,D,b⟩
  all_goals
   try (have B1:((j.now.info.length:Int)==0)=false:=Ec.2 (by omega))
   try (have A6:((j.now.data.length:Int)==0)=false:=Ec.2 (by omega))
   try (have A8:((j.now.rev.length:Int)==0)=false:=Ec.2 (by omega))
   try (rw[e1]at x)
   try (rw[D]at x)
   clear e1
   try clear D
   try clear b
   go_wp2;rename_i KK A4;refine(show∀A0:Act,A0=_->Code.wp prog _ _ A0 _ from λA0 B6=>?_) _ rfl;have A2:A0.tmps.size=108:=by rw[B6];rfl
   have A9:A0.defers=[]:=by rw[B6]
   have v0:A0.eval (.tmp 0)=C (J ⟨R,0,Z⟩):=by rw[B6];rfl
   have v2:A0.eval (.tmp 2)=C (J ⟨w.heap.size,0,Z⟩):=by rw[B6];rfl
   have v4:A0.eval (.tmp 4)=undef:=by rw[B6];rfl
   clear B6;refine uP (W:=w1) 8 4 [C (J ⟨R,0,Z⟩),C (J ⟨R,0,Z⟩),C (J ⟨R,3,Z⟩),F #[H G j.rh,H G j.ru],C (J ⟨R,0,Z⟩),C (J ⟨R,0,Z⟩),C (J ⟨R,5,Z⟩),uB j V] #[H G (lB j.rh j.ru j.now),H G (cB j.rh j.ru j.now)] (H G 0) (w.heap.size::X) (λv w=>∃a c,v=M a (commitS j.rh j.ru j.now).length c/\SegSt w a (commitS j.rh j.ru j.now)/\(commitS j.rh j.ru j.now).length<=c) 39 #[H G 0,H G 0] (by kernel_rfl) A2 v4 (Ub _ _).drew (by kernel_rfl) (by kernel_rfl) (by kernel_rfl) ⟨?_,?_,?_,?_,?_,?_,?_,?_,trivial⟩ (λ_ _ _ he ⟨a,c,h1,h2,C1⟩=>⟨a,c,h1,h2.ext he,C1⟩) rfl (by simp[Value.oneCell']) ?_ ?_ ?_ ?_ ?_ ?_ ?_ ?_ ?_
   iterate 8
    refine⟨rfl,⟨_,rfl,by decide,by decide⟩,λa w' B9 hR N=>?_⟩;have z0:=(B9.other 0 rfl).trans v0;have pc:=Act.eval_const a;have d:=Act.eval_func a;obtain⟨c0,_⟩:=kA ((B7.o.below hR).k);unfold fA at c0
    revert N z0 pc d
    generalize a.eval=ρ;intro N z0 pc d;simp[Region.binds]at N;simp only[execOp,uB,List.getD_cons_succ,List.getD_cons_zero]
    go_simp
   .intro a w' B9 hR N;simp[Region.binds]at N;refine⟨86,#[F #[H G j.rh,H G j.ru],uB j V],?_,(eR j.rh j.ru j.now V.na V.nb V.ne V.nc V.nd V.nf w' ((B7.o.r.now.ext (Ext.seenL _ _)).below hR) (RoomTx.is B7.o.r.room).1 A7.o).mono λ_ w3 ⟨a3,c3,he,h1,h2,C1,h4⟩=>⟨_,he,h2,λY hY=>⟨a3,c3,rfl,h1.hideF C1 λy O=>by rcases hY y O with h5|h5;(have:=HX.o y h5;have:=hR.size;omega);exact h5.2,h4⟩⟩⟩;have d:=Act.eval_func a
    revert N d
    generalize a.eval=ρ;intro N d;simp only[execOp]
    go_simp
   rotate_left
   iterate 7 (intros;simp only[execOp];go_simp)
   intro a w2 B yv B9 hB pT pY pE hT n O;obtain⟨a3,c3,rfl,A3,A5⟩:=O;have f0:=(B9.other 0 rfl).trans v0;have f2:=(B9.other 2 rfl).trans v2;obtain⟨g,hg,rfl⟩:=nB a 108 (B9.size.trans A2) (B9.defers.trans A9);rw[hg]at pT pY pE f0 f2;simp only[List.range,List.range.loop,List.map_cons,List.map_nil,pT,pY,pE,f0,f2];show KK _ _;apply A4;have S2:=zA (B7.o.below hB);have K2:=zA (yA hB L U.o);have HT:=zA (A3.ext (Ext.lessL B));have HC:=zA A5;have l2:w.heap.size<w2.heap.size:=Xb L hB.size;have m2:=S2.o.lt;have q2:B<w2.heap.size:=(Wb.1 n).1;have B3:¬B=R:=by omega
   have B4:¬B=w.heap.size:=by omega
   obtain⟨z,zf⟩:=kA n;clear B9 hB n A3 A5 A4 x u y B8 B7 U pT pY pE;obtain⟨x,u⟩:=kA S2.o.k;unfold fA at x;obtain⟨y,B8⟩:=kA K2.o;go_wp2
   go_region
   have B0:Hid (wkR {j with rh:=lB j.rh j.ru j.now,ru:=cB j.rh j.ru j.now,sealed:=j.now,work:=6,steps:=commitS j.rh j.ru j.now}=1):=by rw[Hid,wkR,Qb HN.o];rfl
   go_wp2
   exact Tb (by simp[results,results38,go_sem,y];rfl) rfl ⟨by rw[E.o];rfl,by
    rw[E.o]
    exact UJ (((S2.o.set (j':={j with rh:=lB j.rh j.ru j.now,ru:=cB j.rh j.ru j.now,sealed:=j.now,work:=6,steps:=commitS j.rh j.ru j.now}) (V':={V with sa:=V.na,sc:=V.nc,sb:=V.nb,sd:=V.nd,se:=V.ne,sf:=V.nf,ta:=a3,tc:=c3}) (by(iterate 14 refine ButL.set ?_ (.inl (by simp)) _ _);exact ButL.refl _ _ _) (by(iterate 14 apply XB);exact S2.o.k) (λr E=>⟨(r.ext E).disk,(r.ext E).now,(r.ext E).now,(r.ext E).done,(r.ext E).found,HT.o.ext E,HC.o,r.room⟩) (by unfold fA;rw[B0.o];kernel_rfl)).now (T:=gA (j.now.seq+1)) (FC _ _) (bF _)).reply C2 C3 _ _ _)⟩
theorem PW(R:Nat)(X:List Nat)(j:Jn)(w:K)(h:RAt w R X j)(m:∀x∈X,x<w.heap.size)(d:RJ j)(c b an:Int)(a:ByteArray)(n:¬400<=j.acts):
  Calls prog 12 #[C (J ⟨R,0,Z⟩),F #[H G 8,H G c,H G b,H G an,A a]] w (nD w R X (doJ j ⟨8,c,b,an,a⟩)):=by
 have L:=h.1;have r:=h.lt;obtain⟨V,h⟩:=h.rs;have M:=zA (h.rs4 (j.acts+1) (T #[H G 8,H G c,H G b,H G an,A a] 24) (T #[H G 0,H G 0,A ⟨#[]⟩] 31));have U:Hid ((((w.setCell ⟨R,56,Z⟩ (H G (j.acts+1))).alloc (T #[H G 8,H G c,H G b,H G an,A a] 24)).alloc (T #[H G 0,H G 0,A ⟨#[]⟩] 31)).heap[w.heap.size+1]?=J (T #[H G 0,H G 0,A ⟨#[]⟩] 31 (0,0))):=aC (by simp[World.setCell]);have A0:Hid ((((w.setCell ⟨R,56,Z⟩ (H G (j.acts+1))).alloc (T #[H G 8,H G c,H G b,H G an,A a] 24)).alloc (T #[H G 0,H G 0,A ⟨#[]⟩] 31)).heap[w.heap.size]?=J (T #[H G 8,H G c,H G b,H G an,A a] 24 (0,0))):=yA (qA _ _) (by simp[World.setCell]) (aC (by simp[World.setCell]));have I:(((w.setCell ⟨R,56,Z⟩ (H G (j.acts+1))).alloc (T #[H G 8,H G c,H G b,H G an,A a] 24)).alloc (T #[H G 0,H G 0,A ⟨#[]⟩] 31)).heap.size=w.heap.size+2:=by simp[World.setCell]
 have p:Hid (∀y∈((w.heap.size+1)::X),y<(((w.setCell ⟨R,56,Z⟩ (H G (j.acts+1))).alloc (T #[H G 8,H G c,H G b,H G an,A a] 24)).alloc (T #[H G 0,H G 0,A ⟨#[]⟩] 31)).heap.size):=λy hy=>by
  rw[I];rcases Xc.1 hy with rfl|hy
  .omega
  .have:=m y hy;omega
 have s:=zA d;have N:=zA I;obtain⟨x,Q⟩:=kA h.k;unfold fA at x;have A1:IntKind.i64.wrap (j.acts+1)=j.acts+1:=by have:=d.a0;have:=d.a1;rw[Bc];omega
 have A2:(j.acts==400)=O:=Ec.2 (by have:=d.a1;omega);have A3:w.heap.size≠R:=by omega
 have u:w.heap.size+1≠R:=by omega
 clear d m h I;go_enter func12,ntmps12;have E:Hid (doJ j ⟨8,c,b,an,a⟩=stepJ {j with acts:=j.acts+1}):=by rw[Hid];simp[doJ,n,MC]
 obtain⟨q,l⟩:∃q,q=stepJ {j with acts:=j.acts+1}:=⟨_,rfl⟩;rw[<-l]at E;have i:=zA (IR R ((w.heap.size+1)::X) {j with acts:=j.acts+1} _ M.o.at p.o s.o.step);rw[<-l]at i;clear l;go_wp2_with fail;refine i.o.mono ?_;rintro _ Y ⟨rfl,B,e⟩;obtain⟨V2,D⟩:=M.o.of B e;have D:=zA D;have S:=zA ((e.block _ (by rw[N.o];omega) (by simpa using u)).trans U.o);have l2:w.heap.size+1<Y.heap.size:=Xb (by rw[N.o];omega) e.size;obtain⟨y,yf⟩:=kA S.o;clear B e i x Q;dsimp only[vRp];go_wp2;exact Tb (by simp[results,results12,go_sem,y];try rfl) rfl ⟨by rw[E.o];try rfl,by rw[E.o];exact D.o.replyB L r (Fc _) _ _ _⟩
theorem Wa(R:Nat)(X:List Nat)(j:Jn)(w:K)(h:RAt w R X j)(p:∀x∈X,x<w.heap.size)(i:RJ j)(e d an:Int)(c:ByteArray)(z:¬400<=j.acts)(hd:j.down=O):
  Calls prog 12 #[C (J ⟨R,0,Z⟩),F #[H G 6,H G e,H G d,H G an,A c]] w (nD w R X (doJ j ⟨6,e,d,an,c⟩)):=by
 have L:=h.1;have A5:=h.lt;obtain⟨V,h⟩:=h.rs;have r:=zA (h.rs4 (j.acts+1) (T #[H G 6,H G e,H G d,H G an,A c] 24) (T #[H G 0,H G 0,A ⟨#[]⟩] 31));have Y:Hid ((((w.setCell ⟨R,56,Z⟩ (H G (j.acts+1))).alloc (T #[H G 6,H G e,H G d,H G an,A c] 24)).alloc (T #[H G 0,H G 0,A ⟨#[]⟩] 31)).heap[w.heap.size+1]?=J (T #[H G 0,H G 0,A ⟨#[]⟩] 31 (0,0))):=aC (by simp[World.setCell]);have A2:Hid ((((w.setCell ⟨R,56,Z⟩ (H G (j.acts+1))).alloc (T #[H G 6,H G e,H G d,H G an,A c] 24)).alloc (T #[H G 0,H G 0,A ⟨#[]⟩] 31)).heap[w.heap.size]?=J (T #[H G 6,H G e,H G d,H G an,A c] 24 (0,0))):=yA (qA _ _) (by simp[World.setCell]) (aC (by simp[World.setCell]));have n:(((w.setCell ⟨R,56,Z⟩ (H G (j.acts+1))).alloc (T #[H G 6,H G e,H G d,H G an,A c] 24)).alloc (T #[H G 0,H G 0,A ⟨#[]⟩] 31)).heap.size=w.heap.size+2:=by simp[World.setCell]
 have b:Hid (∀y∈((w.heap.size+1)::X),y<(((w.setCell ⟨R,56,Z⟩ (H G (j.acts+1))).alloc (T #[H G 6,H G e,H G d,H G an,A c] 24)).alloc (T #[H G 0,H G 0,A ⟨#[]⟩] 31)).heap.size):=λy hy=>by
  rw[n];rcases Xc.1 hy with rfl|hy
  .omega
  .have:=p y hy;omega
 have s:=zA i;have Q:=zA n;obtain⟨x,S⟩:=kA h.k;unfold fA at x;have A0:IntKind.i64.wrap (j.acts+1)=j.acts+1:=by have:=i.a0;have:=i.a1;rw[Bc];omega
 have A1:(j.acts==400)=O:=Ec.2 (by have:=i.a1;omega);have A3:w.heap.size≠R:=by omega
 have M:w.heap.size+1≠R:=by omega
 clear i p h n;go_enter func12,ntmps12;have E:Hid (doJ j ⟨6,e,d,an,c⟩=commitJ {j with acts:=j.acts+1}):=by rw[Hid];simp[doJ,z,MC,hd,poweredJ]
 have N:=hd;rw[hd]at x;have a:=zA hd;clear hd N;obtain⟨q,D⟩:∃q,q=commitJ {j with acts:=j.acts+1}:=⟨_,rfl⟩;rw[<-D]at E;have m:=zA (vV R ((w.heap.size+1)::X) {j with acts:=j.acts+1} _ r.o.at b.o s.o.seq λu=>s.o.commit u a.o);rw[<-D]at m;clear D;go_wp2_with fail;refine m.o.mono ?_;rintro _ A4 ⟨rfl,B,l⟩;obtain⟨V2,I⟩:=r.o.of B l;have I:=zA I;have U:=zA ((l.block _ (by rw[Q.o];omega) (by simpa using M)).trans Y.o);have l2:w.heap.size+1<A4.heap.size:=Xb (by rw[Q.o];omega) l.size;obtain⟨y,yf⟩:=kA U.o;clear B l m x S;dsimp only[vRp];go_wp2;exact Tb (by simp[results,results12,go_sem,y];try rfl) rfl ⟨by rw[E.o];try rfl,by rw[E.o];exact I.o.replyB L A5 (Fc _) _ _ _⟩
