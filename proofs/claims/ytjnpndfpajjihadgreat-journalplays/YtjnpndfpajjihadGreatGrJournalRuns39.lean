import Derived.Test.YtjnpndfpajjihadGreatECommit
import Derived.Test.YtjnpndfpajjihadGreatGrJournalRuns41
set_option maxRecDepth 100000
set_option maxHeartbeats 40000000
namespace Go.Proofs.YtjnpndfpajjihadGreat
open Go.Proofs.Tryz
open Go.RowKit
open Value renaming int -> H,slice -> M,pointer -> C,string -> A,agg -> F
open IntKind renaming i64 -> G
open Option renaming none -> Z,some -> J
open Bool renaming false -> O,true -> I
open Go renaming World -> K
open Obj renaming cells -> T
theorem qX(B:Nat)(X:List Nat)(j:Jn)(w:K)(h:JAt w B X j)(hX:∀x∈X,x<w.heap.size)(B6:IntKind.i64.wrap (j.now.seq+1)=j.now.seq+1)(hE:j.steps=[]->uC j.now=O->kC j.now=O->j.now.seq<=2147483645->NA j.rh j.ru j.now=0):
  Calls prog 63 #[C (J ⟨B,0,Z⟩)] w (IB w B X (commitJ j)):=by
 have B5:=h.1;have A6:=h.lt;have A5:B≠w.heap.size:=by omega
 obtain⟨V,s⟩:=h.js;obtain⟨x,xf⟩:=kA s.k;unfold rA at x;have B1:=zA (s.oneT (.cells #[H G 0,H G 0,A ⟨#[]⟩] 31) (.cells (txc j.now V.na V.nc V.nb V.nd V.ne V.nf) 52) rfl);have B3:=zA (pC (W:=(w.alloc (.cells #[H G 0,H G 0,A ⟨#[]⟩] 31)).alloc (.cells (txc j.now V.na V.nc V.nb V.nd V.ne V.nf) 52)) (b:=w.heap.size) hX (by simp;omega) (by simp;omega));have B4:=zA hE;unfold txc at B1 B3;have A4:=zA B6;clear h hX hE s B6;go_enter func63,ntmps63;go_wp2_with fail;refine(show∀W,W=_->Calls _ _ _ W _ from λW1 hW=>?_) _ rfl;rw[<-hW]at B1 B3;clear hW;clear x xf;refine(gH B (w.heap.size::X) j W1 B1.o.at).mono ?_;rintro _ _ ⟨rfl,rfl⟩;by_cases hs:j.steps=[]
 rotate_left
 .have E:Hid (commitJ j=(j,eA 9)):=Rb (.inl hs);rw[show decide (0<j.steps.length)=I by simpa[List.length_pos_iff] using hs];clear hs B4;go_wp2_with fail;refine(B1.o.code 9).mono ?_;rintro _ w9 ⟨rfl,A7⟩;have A7:=zA A7;obtain⟨y,d⟩:=kA A7.o.tl.b0.2.1;have A9:=A7.o.tl.b0.1;go_wp2;exact A7.o.told E.o B5 A7.o.tl.b0 (Sb _) λW c=>by simp[results,results63,go_sem,c]
 rw[show decide (0<j.steps.length)=O by rw[hs];rfl];obtain⟨z,N⟩:=kA B1.o.b0.2.1;go_wp2_with fail;refine(cO _ j.now _ (B1.o.r.now.ext (Ext.seenL _ _))).mono ?_;rintro _ w2 ⟨rfl,hb⟩;have i:=zA (B1.o.below hb);have p:=zA (λy A9=>Xb (B3.o y A9) hb.size);clear hb z N B1 B3
 cases ho:uC j.now with
 |true=>
  have E:Hid (commitJ j=(j,eA 9)):=Rb (.inr ho);clear ho hs B4;go_wp2_with fail;refine(i.o.code 9).mono ?_;rintro _ w9 ⟨rfl,A7⟩;have A7:=zA A7;obtain⟨y,d⟩:=kA A7.o.tl.b0.2.1;have A9:=A7.o.tl.b0.1;go_wp2;exact A7.o.told E.o B5 A7.o.tl.b0 (Sb _) λW c=>by simp[results,results63,go_sem,c]
 |false=>
  have U:=zA (show commitJ j=if kC j.now=I then(j,eA 4) else if 2147483645<j.now.seq then(j,eA 11) else if NA j.rh j.ru j.now=0 then _ else _ from Qb (by rw[ho];simp[hs]));obtain⟨z,N⟩:=kA i.o.b0.2.1;go_wp2_with fail;refine(jV j.now V.na V.nc V.nb V.nd V.ne V.nf w2).mono ?_;rintro _ w3 ⟨rfl,hb⟩;have D:=zA (i.o.below hb);have B3:=zA (λy A9=>Xb (p.o y A9) hb.size);clear hb z N i p
  cases hm:kC j.now with
  |true=>
   have E:=zA (U.o.trans (Rb hm));clear hm ho hs B4 U;go_wp2_with fail;refine(D.o.code 4).mono ?_;rintro _ w9 ⟨rfl,A7⟩;have A7:=zA A7;obtain⟨y,d⟩:=kA A7.o.tl.b0.2.1;have A9:=A7.o.tl.b0.1;go_wp2;exact A7.o.told E.o B5 A7.o.tl.b0 (Sb _) λW c=>by simp[results,results63,go_sem,c]
  |false=>
   have B7:=zA (U.o.trans (Qb (by rw[hm];decide)));obtain⟨z,N⟩:=kA D.o.b0.2.1;by_cases hq:2147483645<j.now.seq
   .have E:=zA (B7.o.trans (Rb hq));clear hm ho hs B4 U B7;go_wp2_with fail;refine(D.o.code 11).mono ?_;rintro _ w9 ⟨rfl,A7⟩;have A7:=zA A7;obtain⟨y,d⟩:=kA A7.o.tl.b0.2.1;have A9:=A7.o.tl.b0.1;go_wp2;exact A7.o.told E.o B5 A7.o.tl.b0 (Sb _) λW c=>by simp[results,results63,go_sem,c]
   have h0:=B4.o hs ho hm (by omega);have E:=zA (B7.o.trans ((Qb hq).trans (Rb h0)));have l:=zA h0;clear B4 U B7 h0 hm ho hs;go_wp2;rename_i KK A2;refine(show∀A0:Act,A0=_->Code.wp prog _ _ A0 _ from λA0 A8=>?_) _ rfl;have R:A0.tmps.size=67:=by rw[A8];rfl
   have n:A0.defers=[]:=by rw[A8]
   have v0:A0.eval (.tmp 0)=C (J ⟨B,0,Z⟩):=by rw[A8];rfl
   have v2:A0.eval (.tmp 2)=C (J ⟨w.heap.size,0,Z⟩):=by rw[A8];rfl
   have v3:A0.eval (.tmp 3)=C (J ⟨w.heap.size+1,0,Z⟩):=by rw[A8];rfl
   have v4:A0.eval (.tmp 4)=undef:=by rw[A8];rfl
   clear A8;refine uP (W:=w3) 5 4 [C (J ⟨B,0,Z⟩),C (J ⟨B,0,Z⟩),C (J ⟨B,3,Z⟩),F #[H G j.rh,H G j.ru],uB j V] #[H G (lB j.rh j.ru j.now),H G (cB j.rh j.ru j.now)] (H G (NA j.rh j.ru j.now)) (w.heap.size::X) (λv w=>∃a c,v=M a (commitS j.rh j.ru j.now).length c/\SegSt w a (commitS j.rh j.ru j.now)/\(commitS j.rh j.ru j.now).length<=c) 39 #[H G 0,H G 0] (by kernel_rfl) R v4 (Ub _ _).drew (by kernel_rfl) (by kernel_rfl) (by kernel_rfl) ⟨?_,?_,?_,?_,?_,trivial⟩ (λ_ _ _ he ⟨a,c,h1,h2,h3⟩=>⟨a,c,h1,h2.ext he,h3⟩) rfl (by simp[Value.oneCell']) ?_ ?_ ?_ ?_ ?_ ?_ ?_ ?_ ?_
   iterate 5
    refine⟨rfl,⟨_,rfl,by decide,by decide⟩,λa w' B0 S L=>?_⟩;have z0:=(B0.other 0 rfl).trans v0;have z3:=(B0.other 3 rfl).trans v3;have pc:=Act.eval_const a;have Q:=Act.eval_func a;obtain⟨c0,_⟩:=kA ((D.o.below S).k);unfold rA at c0;obtain⟨c1,_⟩:=kA ((D.o.below S).b0.2.1)
    revert L z0 z3 pc Q
    generalize a.eval=ρ;intro L z0 z3 pc Q;simp[Region.binds]at L;simp only[execOp,uB,List.getD_cons_succ,List.getD_cons_zero]
    go_simp
   .intro a w' B0 S L;simp[Region.binds]at L;refine⟨114,#[F #[H G j.rh,H G j.ru],uB j V],?_,(Xa j.rh j.ru j.now V.na V.nb V.ne V.nc V.nd V.nf w' ((D.o.r.now.ext (Ext.seenL _ _)).below S) (RoomTx.is D.o.r.room).1 (RoomTx.is D.o.r.room).2.2 l.o).mono λ_ w3 ⟨a3,c3,he,h4,h3,h1,h2⟩=>⟨_,he,h2,λY hY=>⟨a3,c3,rfl,h1.hideF h3 λy A9=>by rcases hY y A9 with h5|h5;(have:=B3.o y h5;have:=S.size;omega);exact h5.2,h4⟩⟩⟩;have Q:=Act.eval_func a
    revert L Q
    generalize a.eval=ρ;intro L Q;simp only[execOp]
    go_simp
   rotate_left
   iterate 7 (intros;simp only[execOp];go_simp)
   intro a w5 T yv B0 hB pT pY pE hT A1 A9;obtain⟨a3,c3,rfl,m,A3⟩:=A9;have f0:=(B0.other 0 rfl).trans v0;have f2:=(B0.other 2 rfl).trans v2;have f3:=(B0.other 3 rfl).trans v3;obtain⟨g,hg,rfl⟩:=nB a 67 (B0.size.trans R) (B0.defers.trans n);rw[hg]at pT pY pE f0 f2 f3;simp only[List.range,List.range.loop,List.map_cons,List.map_nil,pT,pY,pE,f0,f2,f3];show KK _ _;apply A2;have B2:=zA (((D.o.below hB).has (by have:=D.o.lt;omega) A1).gives (G':=λw=>SegSt w a3 _) (m.ext (Ext.lessL T)) λ_ _ e h=>h.ext e);have HC:=zA A3;clear B0 hB A1 m A3 A2 z N D B3 pT pY pE f0 f2 f3 hg v0 v2 v3 v4 R n;rw[l.o];obtain⟨x,xf⟩:=kA B2.o.k;unfold rA at x;obtain⟨y,d⟩:=kA B2.o.b0.2.1;obtain⟨u,uf⟩:=kA B2.o.tl.tl.b0.2.1;obtain⟨z,N⟩:=kA B2.o.tl.b0.2.1;have n1:=B2.o.b0.1;have n2:=B2.o.tl.b0.1;have n3:=B2.o.lt;have q:=A4.o;go_wp2
   go_region
   go_wp2;have s:=B2.o.ring (lB j.rh j.ru j.now) (cB j.rh j.ru j.now)
   replace s:=((s.sealed s.r.now).now0 (j.now.seq+1))
   replace s:=s.steps 6 s.g HC.o
   dsimp only[yB]at s;exact s.toldD E.o B5 s.tl.tl.b0 (Sb _) λW c=>by simp[results,results63,go_sem,c]
theorem Na(B:Nat)(X:List Nat)(j:Jn)(w:K)(h:JAt w B X j)(m:∀x∈X,x<w.heap.size)(l:RJ j)(hd:j.down=O)(p k e an:Int)(Q:ByteArray)(z:Q.size<=maxLen)(hk:p=1\/p=5\/p=2\/p=3\/p=4\/p=6\/p=7\/p=9):
  Calls prog 24 #[C (J ⟨B,0,Z⟩),F #[H G p,H G k,H G e,H G an,A Q]] w (IB w B X (poweredJ j ⟨p,k,e,an,Q⟩)):=by
 rcases hk with rfl|rfl|rfl|rfl|rfl|rfl|rfl|rfl
 .exact eY B X j w h m ⟨l.u0,l.u1⟩ (l.good hd) k e an Q
 .exact lU B X j w h m (l.good hd) k e an Q
 .show Calls _ _ _ _ (IB w B X (writeJ j ⟨2,k,e,an,Q⟩));have D:=h.1;have s:=h.lt;obtain⟨V,i⟩:=h.js2 (T #[H G 2,H G k,H G e,H G an,A Q] 24) (T #[H G 0,H G 0,A ⟨#[]⟩] 31);have i:=zA i;have I:=zA (pC (W:=(w.alloc (T #[H G 2,H G k,H G e,H G an,A Q] 24)).alloc (T #[H G 0,H G 0,A ⟨#[]⟩] 31)) (b:=w.heap.size+1) m (by simp) (by simp;omega));have r:j.done.length<=maxLen:=ac l.step.2.2.1 (by unfold maxLen;decide);clear h m;go_enter func24,ntmps24;go_wp2_with fail;refine(hZ B ((w.heap.size+1)::X) j _ i.o.at I.o (l.good hd) k e an Q z).mono ?_;rintro _ u ⟨rfl,n,E⟩;obtain⟨N,R⟩:=i.o.of n E;have R:=zA R;clear n E i I;generalize writeJ j ⟨2,k,e,an,Q⟩=q at *;dsimp only[vRp];obtain⟨y,L⟩:=kA R.o.b0.2.1;have M:=R.o.b0.1;go_wp2;exact R.o.told rfl D R.o.b0 (Fc _) λW c=>by simp[results,results24,go_sem,c]
 .show Calls _ _ _ _ (IB w B X (fillJ j ⟨3,k,e,an,Q⟩));have D:=h.1;have s:=h.lt;obtain⟨V,i⟩:=h.js2 (T #[H G 3,H G k,H G e,H G an,A Q] 24) (T #[H G 0,H G 0,A ⟨#[]⟩] 31);have i:=zA i;have I:=zA (pC (W:=(w.alloc (T #[H G 3,H G k,H G e,H G an,A Q] 24)).alloc (T #[H G 0,H G 0,A ⟨#[]⟩] 31)) (b:=w.heap.size+1) m (by simp) (by simp;omega));have r:j.done.length<=maxLen:=ac l.step.2.2.1 (by unfold maxLen;decide);clear h m;go_enter func24,ntmps24;go_wp2_with fail;refine(LX B ((w.heap.size+1)::X) j _ i.o.at I.o (l.good hd) k e an Q z).mono ?_;rintro _ u ⟨rfl,n,E⟩;obtain⟨N,R⟩:=i.o.of n E;have R:=zA R;clear n E i I;generalize fillJ j ⟨3,k,e,an,Q⟩=q at *;dsimp only[vRp];obtain⟨y,L⟩:=kA R.o.b0.2.1;have M:=R.o.b0.1;go_wp2;exact R.o.told rfl D R.o.b0 (Fc _) λW c=>by simp[results,results24,go_sem,c]
 .show Calls _ _ _ _ (IB w B X (revokeJ j ⟨4,k,e,an,Q⟩));have D:=h.1;have s:=h.lt;obtain⟨V,i⟩:=h.js2 (T #[H G 4,H G k,H G e,H G an,A Q] 24) (T #[H G 0,H G 0,A ⟨#[]⟩] 31);have i:=zA i;have I:=zA (pC (W:=(w.alloc (T #[H G 4,H G k,H G e,H G an,A Q] 24)).alloc (T #[H G 0,H G 0,A ⟨#[]⟩] 31)) (b:=w.heap.size+1) m (by simp) (by simp;omega));have r:j.done.length<=maxLen:=ac l.step.2.2.1 (by unfold maxLen;decide);clear h m;go_enter func24,ntmps24;go_wp2_with fail;refine(SV B ((w.heap.size+1)::X) j _ i.o.at I.o (l.good hd) k e an Q).mono ?_;rintro _ u ⟨rfl,n,E⟩;obtain⟨N,R⟩:=i.o.of n E;have R:=zA R;clear n E i I;generalize revokeJ j ⟨4,k,e,an,Q⟩=q at *;dsimp only[vRp];obtain⟨y,L⟩:=kA R.o.b0.2.1;have M:=R.o.b0.1;go_wp2;exact R.o.told rfl D R.o.b0 (Fc _) λW c=>by simp[results,results24,go_sem,c]
 .show Calls _ _ _ _ (IB w B X (commitJ j));have D:=h.1;have s:=h.lt;obtain⟨V,i⟩:=h.js2 (T #[H G 6,H G k,H G e,H G an,A Q] 24) (T #[H G 0,H G 0,A ⟨#[]⟩] 31);have i:=zA i;have I:=zA (pC (W:=(w.alloc (T #[H G 6,H G k,H G e,H G an,A Q] 24)).alloc (T #[H G 0,H G 0,A ⟨#[]⟩] 31)) (b:=w.heap.size+1) m (by simp) (by simp;omega));have r:j.done.length<=maxLen:=ac l.step.2.2.1 (by unfold maxLen;decide);clear h m;go_enter func24,ntmps24;go_wp2_with fail;refine(qX B ((w.heap.size+1)::X) j _ i.o.at I.o l.seq λa b c d=>(l.commit a hd b c d).1).mono ?_;rintro _ u ⟨rfl,n,E⟩;obtain⟨N,R⟩:=i.o.of n E;have R:=zA R;clear n E i I;generalize commitJ j=q at *;dsimp only[vRp];obtain⟨y,L⟩:=kA R.o.b0.2.1;have M:=R.o.b0.1;go_wp2;exact R.o.told rfl D R.o.b0 (Fc _) λW c=>by simp[results,results24,go_sem,c]
 .show Calls _ _ _ _ (IB w B X (checkJ j));have D:=h.1;have s:=h.lt;obtain⟨V,i⟩:=h.js2 (T #[H G 7,H G k,H G e,H G an,A Q] 24) (T #[H G 0,H G 0,A ⟨#[]⟩] 31);have i:=zA i;have I:=zA (pC (W:=(w.alloc (T #[H G 7,H G k,H G e,H G an,A Q] 24)).alloc (T #[H G 0,H G 0,A ⟨#[]⟩] 31)) (b:=w.heap.size+1) m (by simp) (by simp;omega));have r:j.done.length<=maxLen:=ac l.step.2.2.1 (by unfold maxLen;decide);clear h m;go_enter func24,ntmps24;go_wp2_with fail;refine(PU B ((w.heap.size+1)::X) j _ i.o.at I.o r l.last λa b=>(l.check a hd b).1).mono ?_;rintro _ u ⟨rfl,n,E⟩;obtain⟨N,R⟩:=i.o.of n E;have R:=zA R;clear n E i I;generalize checkJ j=q at *;dsimp only[vRp];obtain⟨y,L⟩:=kA R.o.b0.2.1;have M:=R.o.b0.1;go_wp2;exact R.o.told rfl D R.o.b0 (Fc _) λW c=>by simp[results,results24,go_sem,c]
 .show Calls _ _ _ _ (IB w B X ((j,readJ j e)));have D:=h.1;have s:=h.lt;obtain⟨V,i⟩:=h.js2 (T #[H G 9,H G k,H G e,H G an,A Q] 24) (T #[H G 0,H G 0,A ⟨#[]⟩] 31);have i:=zA i;have I:=zA (pC (W:=(w.alloc (T #[H G 9,H G k,H G e,H G an,A Q] 24)).alloc (T #[H G 0,H G 0,A ⟨#[]⟩] 31)) (b:=w.heap.size+1) m (by simp) (by simp;omega));have r:j.done.length<=maxLen:=ac l.step.2.2.1 (by unfold maxLen;decide);clear h m;go_enter func24,ntmps24;go_wp2_with fail;refine(wZ B ((w.heap.size+1)::X) j _ e i.o.at r).mono ?_;rintro _ u ⟨rfl,n,E⟩;obtain⟨N,R⟩:=i.o.of n E;have R:=zA R;clear n E i I;generalize (j,readJ j e)=q at *;dsimp only[vRp];obtain⟨y,L⟩:=kA R.o.b0.2.1;have M:=R.o.b0.1;go_wp2;exact R.o.told rfl D R.o.b0 (Fc _) λW c=>by simp[results,results24,go_sem,c]
theorem OT(B:Nat)(X:List Nat)(j:Jn)(w:K)(h:JAt w B X j)(a:Ac)(Q:400<=j.acts):
  Calls prog 8 #[C (J ⟨B,0,Z⟩),vAc a] w (IB w B X (doJ j a)):=by
 have F:=h.1;have A0:=h.lt;have A2:B≠w.heap.size:=by omega
 have A1:B≠w.heap.size+1:=by omega
 obtain⟨I,D,R,an,b⟩:=a;dsimp only[vAc];obtain⟨V,s⟩:=h.js;obtain⟨x,xf⟩:=kA s.k;unfold rA at x;have d:=zA (s.two (T #[H G I,H G D,H G R,H G an,A b] 24) (T #[H G 0,H G 0,A ⟨#[]⟩] 31) rfl);have E:Hid (doJ j ⟨I,D,R,an,b⟩=(j,eA 11)):=Rb Q;have A3:j.acts>=400:=Q;clear h s;go_enter func8,ntmps8;go_wp2_with fail;refine(d.o.code 11).mono ?_;rintro _ w9 ⟨rfl,L⟩;have L:=zA L;obtain⟨y,yf⟩:=kA L.o.b0.2.1;have hy:=L.o.b0.1;go_wp2;exact L.o.told E.o F L.o.b0 (Fc _) λW c=>by simp[results,results8,go_sem,c]
theorem rY(B:Nat)(X:List Nat)(j:Jn)(w:K)(h:JAt w B X j)(hX:∀x∈X,x<w.heap.size)(i:RJ j)(d p m an:Int)(e:ByteArray)(n:¬400<=j.acts)(hn:an<=9223372036854775807)(ht:e.size<=maxLen)(hw:j.steps=[]->j.down=I->∀t∈fndL j.disk,Few t):
  Calls prog 8 #[C (J ⟨B,0,Z⟩),F #[H G d,H G p,H G m,H G an,A e]] w (IB w B X (doJ j ⟨d,p,m,an,e⟩)):=by
 have A9:=h.1;have A0:=h.lt;have A8:B≠w.heap.size:=by omega
 have A4:B≠w.heap.size+1:=by omega
 obtain⟨V,s⟩:=h.js;obtain⟨x,xf⟩:=kA s.k;unfold rA at x;have D:=(s.acts (j.acts+1)).two (T #[H G d,H G p,H G m,H G an,A e] 24) (T #[H G 0,H G 0,A ⟨#[]⟩] 31) (KH _ _ _);dsimp only[yB]at D;have D:=zA D;have L:Hid (∀y∈((w.heap.size+1)::X),y<(((w.setCell ⟨B,0,Z⟩ (H G (j.acts+1))).alloc (T #[H G d,H G p,H G m,H G an,A e] 24)).alloc (T #[H G 0,H G 0,A ⟨#[]⟩] 31)).heap.size):=pC hX (by simp[World.setCell]) (by simp[World.setCell];omega);have A3:IntKind.i64.wrap (j.acts+1)=j.acts+1:=by have:=i.a0;have:=i.a1;rw[Bc];omega
 have A6:¬(j.acts>=400):=n;clear h hX s;go_enter func8,ntmps8;by_cases hk:d<1\/11<d
 .have E:Hid (doJ j ⟨d,p,m,an,e⟩=({j with acts:=j.acts+1},eA 3)):=by rw[Hid,doJ,Qb n];exact Rb hk
  clear n;by_cases hk1:d<1
  rotate_left
  have A2:11<d:=by omega
  all_goals
   clear hk;go_wp2_with fail;refine(D.o.code 3).mono ?_;rintro _ R ⟨rfl,r⟩;have r:=zA r;obtain⟨y,M⟩:=kA r.o.b0.2.1;have N:=r.o.b0.1;go_wp2;exact r.o.told E.o A9 r.o.b0 (Fc _) λW c=>by simp[results,results8,go_sem,c]
 by_cases k8:d=8
 .subst k8;have E:Hid (doJ j ⟨8,p,m,an,e⟩=stepJ {j with acts:=j.acts+1}):=by rw[Hid,doJ,Qb n];rfl
  clear n;go_wp2_with fail;refine(hstep B ((w.heap.size+1)::X) {j with acts:=j.acts+1} _ D.o.at L.o ⟨i.step.1,i.step.2.1⟩ i.step.2.2.1 i.step.2.2.2.1 i.step.2.2.2.2.1).mono ?_;rintro _ Q ⟨rfl,z,u⟩;obtain⟨B0,l⟩:=D.o.of z u;have l:=zA l;clear z u D L;generalize stepJ {j with acts:=j.acts+1}=q at *;dsimp only[vRp];obtain⟨y,M⟩:=kA l.o.b0.2.1;have N:=l.o.b0.1;go_wp2;exact l.o.told E.o A9 l.o.b0 (Fc _) λW c=>by simp[results,results8,go_sem,c]
 by_cases k10:d=10
 .subst k10;have E:Hid (doJ j ⟨10,p,m,an,e⟩=crashJ {j with acts:=j.acts+1} an):=by rw[Hid,doJ,Qb n];rfl
  clear n;go_wp2_with fail;refine(nY B ((w.heap.size+1)::X) {j with acts:=j.acts+1} _ D.o.at L.o an hn).mono ?_;rintro _ Q ⟨rfl,z,u⟩;obtain⟨B0,l⟩:=D.o.of z u;have l:=zA l;clear z u D L;generalize crashJ {j with acts:=j.acts+1} an=q at *;dsimp only[vRp];obtain⟨y,M⟩:=kA l.o.b0.2.1;have N:=l.o.b0.1;go_wp2;exact l.o.told E.o A9 l.o.b0 (Fc _) λW c=>by simp[results,results8,go_sem,c]
 by_cases k11:d=11
 .subst k11;have E:Hid (doJ j ⟨11,p,m,an,e⟩=comeBackJ {j with acts:=j.acts+1}):=by rw[Hid,doJ,Qb n];rfl
  clear n;go_wp2_with fail;refine(hback B ((w.heap.size+1)::X) {j with acts:=j.acts+1} _ D.o.at L.o λa b=>⟨(i.back a b).1,(i.back a b).2.1,hw a b⟩).mono ?_;rintro _ Q ⟨rfl,z,u⟩;obtain⟨B0,l⟩:=D.o.of z u;have l:=zA l;clear z u D L;generalize comeBackJ {j with acts:=j.acts+1}=q at *;dsimp only[vRp];obtain⟨y,M⟩:=kA l.o.b0.2.1;have N:=l.o.b0.1;go_wp2;exact l.o.told E.o A9 l.o.b0 (Fc _) λW c=>by simp[results,results8,go_sem,c]
 have g1:¬d<1:=by omega
 have A5:¬11<d:=by omega
 have e8:(d==8)=O:=Ec.2 (by omega);have A7:(d==10)=O:=Ec.2 (by omega);have A1:(d==11)=O:=Ec.2 (by omega)
 cases hd:j.down with
 |true=>
  have E:Hid (doJ j ⟨d,p,m,an,e⟩=({j with acts:=j.acts+1},eA 10)):=by rw[Hid,doJ,Qb n,MC,Qb (by dsimp only;omega),Qb k8,Qb k10,Qb k11,Rb hd]
  rw[hd]at x;clear n hd k8 k10 k11 hk;go_wp2_with fail;refine(D.o.code 10).mono ?_;rintro _ R ⟨rfl,r⟩;have r:=zA r;obtain⟨y,M⟩:=kA r.o.b0.2.1;have N:=r.o.b0.1;go_wp2;exact r.o.told E.o A9 r.o.b0 (Fc _) λW c=>by simp[results,results8,go_sem,c]
 |false=>
  have B1:=zA (Na B ((w.heap.size+1)::X) {j with acts:=j.acts+1} _ D.o.at L.o ⟨by have:=i.a0;dsimp only;omega,by dsimp only;omega,i.good,i.u0,i.u1,i.seq,i.last,i.disk,i.step,i.commit,i.doc,i.check,i.back⟩ hd d p m an e ht (by omega));have E:Hid (doJ j ⟨d,p,m,an,e⟩=poweredJ {j with acts:=j.acts+1} ⟨d,p,m,an,e⟩):=by rw[Hid,doJ,Qb n,MC,Qb (by dsimp only;omega),Qb k8,Qb k10,Qb k11,Qb (by dsimp only;rw[hd];decide)]
  rw[hd]at x;clear n hd k8 k10 k11 hk;go_wp2_with fail;refine B1.o.mono ?_;rintro _ Q ⟨rfl,z,u⟩;obtain⟨B0,l⟩:=D.o.of z u;have l:=zA l;clear z u D L B1;generalize poweredJ {j with acts:=j.acts+1} ⟨d,p,m,an,e⟩=q at *;dsimp only[vRp];obtain⟨y,M⟩:=kA l.o.b0.2.1;have N:=l.o.b0.1;go_wp2;exact l.o.told E.o A9 l.o.b0 (Fc _) λW c=>by simp[results,results8,go_sem,c]
theorem MZ(B:Nat)(X:List Nat)(j:Jn)(w:K)(h:JAt w B X j)(R:∀x∈X,x<w.heap.size)(L:RJ j)(D:j.steps=[]->j.down=I->∀t∈fndL j.disk,Few t)(a:Ac)(c:a.n<=9223372036854775807)(Q:a.text.size<=maxLen):
  Calls prog 8 #[C (J ⟨B,0,Z⟩),vAc a] w (IB w B X (doJ j a)):=by
 by_cases hf:400<=j.acts
 .exact OT B X j w h a hf
 exact rY B X j w h R L a.kind a.h a.b a.n a.text hf c Q D
theorem KQ(B:Nat)(X:List Nat)(j:Jn)(w:K)(h:JAt w B X j)(b:∀x∈X,x<w.heap.size)(D:PJ j)(a:Ac)(c:a.n<=9223372036854775807)(R:a.text.size<=maxLen):
  Calls Tryz.prog 8 #[C (J ⟨B,0,Z⟩),vAc a] w (IB w B X (doJ j a)):=
 MZ B X j w h b D.rj (λQ L=>D.ready.few L Q) a c R
