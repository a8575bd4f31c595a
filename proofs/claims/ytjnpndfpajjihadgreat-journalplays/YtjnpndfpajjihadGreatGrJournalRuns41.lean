import Derived.Test.YtjnpndfpajjihadGreatGrJournalRuns36
import Derived.Great.BuildSlice
set_option maxRecDepth 100000
set_option maxHeartbeats 40000000
namespace Go.Proofs.YtjnpndfpajjihadGreat
open Go.Proofs.Tryz
open Go.RowKit
open Value renaming int -> H,slice -> M,pointer -> C,string -> A,agg -> F,tuple -> S
open IntKind renaming i64 -> G
open Option renaming none -> Z,some -> J
open Bool renaming false -> O,true -> I
open Go renaming World -> K,Value -> E
open Obj renaming cells -> T
open Ending renaming returned -> N
theorem LO:∃f,prog.underlying 74=J (.struct f):=by
 have h:(match prog.underlying 74 with|some (.struct _)=>I|_=>O)=I:=by kernel_rfl
 cases hq:prog.underlying 74 with
 |none=>rw[hq]at h;cases h
 |some d=>cases d<;>first|exact⟨_,rfl⟩|(rw[hq]at h;cases h)
def uH:Array E:=rA ⟨0,⟨[],[]⟩,0,0,0,O,λ_=>0,λ_=>0,gA 0,gA 0,[],[],0,0,0,[]⟩ ⟨Z,0,Z,0,Z,0,Z,0,Z,0,Z,0,Z,0,Z,0,Z,0,Z,0,Z,0⟩
theorem vM(j:Jn)(V:Sl):(rA j V).all (·.oneCell')=I:=by simp[rA,Value.oneCell']
theorem VJ(j:Jn)(V:Sl):(prog.info? 74).map (·.size)=J (rA j V).size:=by kernel_rfl
theorem yR(d:Dk)(da:Option Addr)(dc:Nat)(db:Option Addr)(dd:Nat)(p q:Int)(w:K)(hq:IntKind.i64.wrap (q - 1)=q - 1):
  Calls prog 29 #[F #[M da d.safe.length dc,M db d.wr.length dd],H G p,H G q] w λe L=>e=N (F (rA (gB d p q) (⟨da,dc,db,dd,Z,0,Z,0,Z,0,Z,0,Z,0,Z,0,Z,0,Z,0,Z,0⟩:Sl)))/\Below w.heap.size w L:=by
 generalize hn1:d.safe.length=n1;generalize hn2:d.wr.length=n2;obtain⟨B,C⟩:∃B,B=rA (gB d p q) (⟨da,dc,db,dd,Z,0,Z,0,Z,0,Z,0,Z,0,Z,0,Z,0,Z,0,Z,0⟩:Sl):=⟨_,rfl⟩;rw[<-C];have A:=zA C;have I:=zA hn1;have Q:=zA hn2;clear C hn1 hn2;have E:Hid (∀o,(w.alloc o).heap.size=w.heap.size+1):=λo=>by simp
 go_enter func29,ntmps29
 repeat (first|(refine wpList_store_rowTo rfl _ _ _ rfl rfl (w.heap.size+1) B rfl (by rw[A.o,<-I.o,<-Q.o];rfl) _ _ (by rw[<-E.o _];exact Cc _ _) (by rw[A.o];kernel_rfl) (by rw[A.o];kernel_rfl) (by rw[A.o];kernel_rfl) ?_)|go_step)
 obtain⟨fs,D⟩:=LO;refine Tb (results_cell_row rfl _ _ (w.heap.size+1) _ B _ _ rfl (Oe _ _ _ _ _ _ (by rw[<-E.o _];exact Cc _ _)) D rfl (by rw[A.o];kernel_rfl)) rfl ⟨rfl,?_⟩;exact((ButL.of_below (X:=[]) (vA (qA _ _) (qA _ _))).setRowB (.inr (by omega)) B).below
theorem JU(B:Nat)(X:List Nat)(j:Jn)(w:K)(h:JAt w B X j)(hn:j.fL.length<=maxLen)(hq:IntKind.i64.wrap (j.fN - 1)=j.fN - 1):
  Calls prog 95 #[C (J ⟨B,0,Z⟩)] w λe w'=>(∃v,e=N v)/\JAt w' B X (cF j)/\ButL [B] w.heap.size w w':=by
 have A2:=h.1;have A3:=h.lt;obtain⟨V,s⟩:=h.js;have z:=zA s;clear h s;go_enter func95,ntmps95;go_wp2;rename_i KK B4;refine(show∀A0:Act,A0=_->Code.wp prog _ _ A0 _ from λA0 A8=>?_) _ rfl;have B2:A0.tmps.size=42:=by rw[A8];rfl
 have Q:A0.defers=[]:=by rw[A8]
 have v0:A0.eval (.tmp 0)=C (J ⟨B,0,Z⟩):=by rw[A8];rfl
 clear A8;have u:ZC [Is (C (J ⟨B,0,Z⟩)),Is (C (J ⟨B,0,Z⟩)),Is (C (J ⟨B,1,Z⟩)),Is (dkR j V),Is (C (J ⟨B,0,Z⟩)),Is (C (J ⟨B,0,Z⟩)),Is (C (J ⟨B,52,Z⟩)),Is (C (J ⟨B,54,Z⟩)),Is (H G j.fP),Is (C (J ⟨B,0,Z⟩)),Is (C (J ⟨B,0,Z⟩)),Is (C (J ⟨B,52,Z⟩)),Is (C (J ⟨B,53,Z⟩)),Is (H G j.fN),Is (F (rA (gB j.disk j.fP j.fN) (⟨V.da,V.dc,V.db,V.dd,Z,0,Z,0,Z,0,Z,0,Z,0,Z,0,Z,0,Z,0,Z,0⟩:Sl))),λv w'=>∃(t0:Nat) (A6:Array E),v=C (J ⟨t0,0,Z⟩)/\w.heap.size<=t0/\A6.size=57/\w'.heap[t0]?=J (.cells A6 74 (0,0))]:=λw1 w2 hb=>Holds.is (.is (.is (.is (.is (.is (.is (.is (.is (.is (.is (.is (.is (.is (.is (.cons .nil (λ_ ⟨t0,A6,e,h1,h2,h⟩=>⟨t0,A6,e,h1,h2,yA hb (Wb.1 h).1 h⟩))))))))))))))));refine tG (W:=w) 16 [Is (C (J ⟨B,0,Z⟩)),Is (C (J ⟨B,0,Z⟩)),Is (C (J ⟨B,1,Z⟩)),Is (dkR j V),Is (C (J ⟨B,0,Z⟩)),Is (C (J ⟨B,0,Z⟩)),Is (C (J ⟨B,52,Z⟩)),Is (C (J ⟨B,54,Z⟩)),Is (H G j.fP),Is (C (J ⟨B,0,Z⟩)),Is (C (J ⟨B,0,Z⟩)),Is (C (J ⟨B,52,Z⟩)),Is (C (J ⟨B,53,Z⟩)),Is (H G j.fN),Is (F (rA (gB j.disk j.fP j.fN) (⟨V.da,V.dc,V.db,V.dd,Z,0,Z,0,Z,0,Z,0,Z,0,Z,0,Z,0,Z,0,Z,0⟩:Sl))),λv w'=>∃(t0:Nat) (A6:Array E),v=C (J ⟨t0,0,Z⟩)/\w.heap.size<=t0/\A6.size=57/\w'.heap[t0]?=J (.cells A6 74 (0,0))] (by kernel_rfl) (by kernel_rfl) (by kernel_rfl) (by kernel_rfl) (Ub _ _).drew ⟨?_,?_,?_,?_,?_,?_,?_,?_,?_,?_,?_,?_,?_,?_,?_,?_,trivial⟩ ?_
 iterate 14
  refine OA B2 λa w' B0 L A=>⟨_,?_,rfl⟩
  have z0:=(B0.other 0 rfl).trans v0;have pc:=Act.eval_const a;have M:=Act.eval_func a;obtain⟨c0,_⟩:=kA ((z.o.below L).k);unfold rA at c0
  revert A z0 pc M
  generalize a.eval=ρ;intro A z0 pc M;simp[Region.binds,lf,Is]at A;simp only[execOp,dkR]
  go_simp
 .refine OC B2 u λa w' B0 L A=>⟨29,#[dkR j V,H G j.fP,H G j.fN],?_,(yR j.disk V.da V.dc V.db V.dd j.fP j.fN w' hq).mono λ_ w3 ⟨e,hb3⟩=>⟨_,e,rfl,hb3⟩⟩
  simp[Region.binds,lf,Is]at A;have M:=Act.eval_func a
  revert A M
  generalize a.eval=ρ;intro A M;simp only[execOp]
  go_simp
 .refine zI B2 u λa w' B0 L A=>⟨_,w'.alloc (.cells uH 74),?_,⟨_,uH,rfl,L.size,rfl,Cc _ _⟩,qA _ _⟩
  clear A;generalize a.eval=ρ;simp only[execOp,uH,rA,gA]
  go_simp
 intro a B3 B0 L A;have d:a.eval (.tmp 18)=F (rA (gB j.disk j.fP j.fN) (⟨V.da,V.dc,V.db,V.dd,Z,0,Z,0,Z,0,Z,0,Z,0,Z,0,Z,0,Z,0,Z,0⟩:Sl)):=A 14 (by decide);obtain⟨t0,A6,p2,O,hz,hb⟩:∃(t0:Nat) (A6:Array E),a.eval (.tmp 2)=C (J ⟨t0,0,Z⟩)/\w.heap.size<=t0/\A6.size=57/\B3.heap[t0]?=J (.cells A6 74 (0,0)):=A 15 (by decide);refine⟨_,WI 74 (.tmp 2) (.tmp 18) t0 _ rfl p2 d _ _ hb (VJ _ _) hz (vM _ _),?_⟩;have Y:t0≠B:=by omega
 have s:=z.o.more L (c:=t0) O;have hw:=Oe _ _ _ (rA (gB j.disk j.fP j.fN) (⟨V.da,V.dc,V.db,V.dd,Z,0,Z,0,Z,0,Z,0,Z,0,Z,0,Z,0,Z,0,Z,0⟩:Sl)) _ _ hb;have l:=(ButL.refl (t0::X) B3.heap.size B3).setRowB (b:=t0) (.inl (by simp)) (rA (gB j.disk j.fP j.fN) (⟨V.da,V.dc,V.db,V.dd,Z,0,Z,0,Z,0,Z,0,Z,0,Z,0,Z,0,Z,0,Z,0⟩:Sl));have B1:=zA (show JS w B (t0::X) [(t0,.cells (rA (gB j.disk j.fP j.fN) (⟨V.da,V.dc,V.db,V.dd,Z,0,Z,0,Z,0,Z,0,Z,0,Z,0,Z,0,Z,0,Z,0⟩:Sl)) 74 (0,0))] (λ_=>True) j V (B3.setRow t0 (rA (gB j.disk j.fP j.fN) (⟨V.da,V.dc,V.db,V.dd,Z,0,Z,0,Z,0,Z,0,Z,0,Z,0,Z,0,Z,0,Z,0⟩:Sl))) from⟨s.x,s.b.setRowB (.inr O) _,(Ff _ _ _ _ Y.symm).trans s.k,s.r.ext (Ext.butL l),λp A=>by rw[Rc.1 A];exact⟨Y,hw⟩,trivial,s.gx⟩);have n:=(B0.other 0 rfl).trans v0;obtain⟨g,hg,rfl⟩:=nB a 42 (B0.size.trans B2) (B0.defers.trans Q);rw[hg]at p2 n;simp only[List.range,List.range.loop,List.map_cons,List.map_nil,p2,n];show KK _ _;apply B4;clear s hw l B0 L A d p2 hz hb n hg B4 v0 u B2 Q z;refine(show∀W,W=_->Code.wp prog _ _ _ W from λW7 hW=>?_) _ rfl;rw[<-hW]at B1;clear hW;obtain⟨x,m⟩:=kA B1.o.k;unfold rA at x;obtain⟨y,yf⟩:=kA B1.o.b0.2.1;unfold rA at y;have n1:=B1.o.b0.1;have n2:=B1.o.lt;go_wp2;have t:=B1.o.put1 (k:=0) (v:=H G j.acts) (by simp) O;rw[show(rA (gB j.disk j.fP j.fN) (⟨V.da,V.dc,V.db,V.dd,Z,0,Z,0,Z,0,Z,0,Z,0,Z,0,Z,0,Z,0,Z,0⟩:Sl)).setIfInBounds 0 (H G j.acts)=rA ({(gB j.disk j.fP j.fN) with acts:=j.acts,role:=qD (λk:Nat=>LB j.fL.reverse k) 0}:Jn) (⟨V.da,V.dc,V.db,V.dd,Z,0,Z,0,Z,0,Z,0,Z,0,Z,0,Z,0,Z,0,Z,0⟩:Sl) by kernel_rfl]at t;have S3:=zA t;clear t;clear x m y yf B1 n1 n2;generalize (W7.setCell ⟨t0,0,Z⟩ (H G j.acts))=W8 at *
 go_loopw [24] (λi wr=>∃k:Nat,k<=12/\i=H G k/\Hid (JS w B (t0::X) [(t0,.cells (rA ({(gB j.disk j.fP j.fN) with acts:=j.acts,role:=qD (λk:Nat=>LB j.fL.reverse k) k}:Jn) (⟨V.da,V.dc,V.db,V.dd,Z,0,Z,0,Z,0,Z,0,Z,0,Z,0,Z,0,Z,0,Z,0⟩:Sl)) 74 (0,0))] (λ_=>True) j V wr)) (λi _=>12 - (intOf i).toNat)
 case atStart=>exact⟨0,by omega,rfl,S3⟩
 case round=>
  obtain⟨k,hk,rfl,A7⟩:=hrel;clear S3;by_cases hk12:k<12
  .have A5:(k:Int)<12:=by omega
   obtain⟨x,m⟩:=kA A7.o.k;unfold rA at x;go_wp2_with fail;refine(ZZ V.fa V.fc j.fL k _ (A7.o.r.found.ext (Ext.seenL _ _)) hn).mono ?_;rintro _ wq ⟨rfl,U⟩;have q:=zA (A7.o.below U);have e1:=((kA q.o.b0.2.1).1 (7+k*2)).trans (YO hk12).1;have e3:=(kA q.o.b0.2.1).2;have A4:(0:Int)<=(k:Int):=by omega
   clear U x m A7;go_wp2
   go_roundw
   case rel=>
    have t:=q.o.put1 (k:=7+k*2) (v:=H G ((λk:Nat=>LB j.fL.reverse k) k)) (by simp) O;rw[AL hk12]at t;dsimp only at t;rw[MP (λk:Nat=>LB j.fL.reverse k) k]at t;exact⟨k+1,by omega,by go_num,t⟩
   case measure=>first|(simp[intOf];omega)|simp[intOf]
  .have e:k=12:=by omega
   subst e;obtain⟨fs,S⟩:=LO;have A1:=zA S;clear S;obtain⟨A9,D⟩:∃A9,A9=rA (cF j) (⟨V.da,V.dc,V.db,V.dd,Z,0,Z,0,Z,0,Z,0,Z,0,Z,0,Z,0,Z,0,Z,0⟩:Sl):=⟨_,rfl⟩;have R:rA ({(gB j.disk j.fP j.fN) with acts:=j.acts,role:=qD (λk:Nat=>LB j.fL.reverse k) 12}:Jn) (⟨V.da,V.dc,V.db,V.dd,Z,0,Z,0,Z,0,Z,0,Z,0,Z,0,Z,0,Z,0,Z,0⟩:Sl)=A9:=by rw[D,cF];exact AU (j:={(gB j.disk j.fP j.fN) with acts:=j.acts}) λk hk=>by simp[qD,hk]
   rw[R]at A7;have HC:=zA D;have HI:Hid ((prog.info? 74).map (·.size)=J A9.size):=by rw[Hid,D];exact VJ _ _
   have HO:Hid (A9.all (·.oneCell')=I):=by rw[Hid,D];exact vM _ _
   have HS:Hid ((rA j V).size=A9.size):=by rw[Hid,D];rfl
   clear D R
   repeat (first|(refine wpList_load_row rfl _ _ rfl t0 rfl _ A9 _ _ A7.o.b0.2.1 A1.o rfl HI.o ?_)|(refine wpList_store_rowTo rfl _ _ _ rfl rfl B A9 rfl rfl _ _ A7.o.k HI.o HS.o HO.o ?_)|go_step)
   have t:=A7.o.all (j':=cF j) (V':=(⟨V.da,V.dc,V.db,V.dd,Z,0,Z,0,Z,0,Z,0,Z,0,Z,0,Z,0,Z,0,Z,0⟩:Sl)) ⟨A7.o.r.disk,FC _ _,FC _ _,.inl rfl,.inl rfl,.inl rfl,Sb _,bF _⟩;rw[<-HC.o]at t;exact bodyPost_end (results_none rfl _ _ _) rfl ⟨⟨_,rfl⟩,t.at.less A2,t.b⟩
theorem pR(B:Nat)(X:List Nat)(j:Jn)(w:K)(h:JAt w B X j)(e:∀x∈X,x<w.heap.size)(hw:j.work=6\/j.work=7\/j.work=11)(p:j.done.length<=900)(n:j.fL.length<=900)(m:IntKind.i64.wrap (j.fN - 1)=j.fN - 1):
  Calls prog 51 #[C (J ⟨B,0,Z⟩)] w (IB w B X (finishJ j)):=by
 have F:=h.1;have A0:=h.lt;have A1:B≠w.heap.size:=by omega
 obtain⟨V,s⟩:=h.js;obtain⟨x,N⟩:=kA s.k;unfold rA at x;have l:=zA (pC (W:=w.alloc (T #[H G 0,H G 0,A ⟨#[]⟩] 31)) (b:=w.heap.size) e (by simp) (by simp));have D:=zA (s.one (T #[H G 0,H G 0,A ⟨#[]⟩] 31) rfl);rcases hw with hw|hw|hw
 .have E:Hid (finishJ j=WH j):=Rb hw;rw[hw]at x;clear h e hw s;go_enter func51,ntmps51;go_wp2_with fail;refine(uW B (w.heap.size::X) j _ D.o.at l.o p).mono ?_;rintro _ R ⟨rfl,i,I⟩;obtain⟨Q,a⟩:=D.o.of i I;have a:=zA a;clear i I D l x N;dsimp only[WH,vRp];obtain⟨y,L⟩:=kA a.o.b0.2.1;have M:=a.o.b0.1;go_wp2;exact a.o.told E.o F a.o.b0 (Sb _) λW c=>by simp[results,results51,go_sem,c]
 .have E:Hid (finishJ j=({j with done:=[],ru:=0},eA 0)):=by rw[Hid,finishJ,hw];rfl
  rw[hw]at x;have a:=s.home.one (T #[H G 0,H G 0,A ⟨#[]⟩] 31) (KH _ _ _);dsimp only[yB]at a;have a:=zA a;clear h e hw s D;go_enter func51,ntmps51;go_wp2_with fail;refine(a.o.code 0).mono ?_;rintro _ O ⟨rfl,d⟩;have d:=zA d;obtain⟨y,L⟩:=kA d.o.b0.2.1;have M:=d.o.b0.1;go_wp2;exact d.o.told E.o F d.o.b0 (Sb _) λW c=>by simp[results,results51,go_sem,c]
 .have E:Hid (finishJ j=(cF j,eA 0)):=by rw[Hid,finishJ,hw];rfl
  rw[hw]at x;clear h e hw s;go_enter func51,ntmps51;go_wp2_with fail;refine(JU B (w.heap.size::X) j _ D.o.at (ac n (by unfold maxLen;decide)) m).mono ?_;rintro _ R ⟨⟨v,rfl⟩,i,I⟩;obtain⟨Q,a⟩:=D.o.of i I;have a:=zA a;clear i I D l x N;go_wp2_with fail;refine(a.o.code 0).mono ?_;rintro _ O ⟨rfl,d⟩;have d:=zA d;obtain⟨y,L⟩:=kA d.o.b0.2.1;have M:=d.o.b0.1;go_wp2;exact d.o.told E.o F d.o.b0 (Sb _) λW c=>by simp[results,results51,go_sem,c]
theorem hstep(B:Nat)(X:List Nat)(j:Jn)(w:K)(h:JAt w B X j)(hX:∀x∈X,x<w.heap.size)(hK:(∀s r,j.steps=s::r->dC j.disk s=0)/\(j.steps≠[]->j.work=6\/j.work=7\/j.work=11))(hn:j.done.length<=900)(hf:j.fL.length<=900)(hq:IntKind.i64.wrap (j.fN - 1)=j.fN - 1):
  Calls prog 21 #[C (J ⟨B,0,Z⟩)] w (IB w B X (stepJ j)):=by
 have n:=h.1;have A8:=h.lt;have A7:B≠w.heap.size:=by omega
 obtain⟨V,s⟩:=h.js;obtain⟨x,xf⟩:=kA s.k;unfold rA at x;have HX:=zA (pC (W:=w.alloc (.cells #[H G 0,H G 0,A ⟨#[]⟩] 31)) (b:=w.heap.size) hX (by simp) (by simp));have B2:=zA (s.one (.cells #[H G 0,H G 0,A ⟨#[]⟩] 31) rfl);have HK:=zA hK;have A4:=zA hX;clear h hX hK s;go_enter func21,ntmps21;go_wp2_with fail;refine(show∀W,W=_->Calls _ _ _ W _ from λW4 hW=>?_) _ rfl;rw[<-hW]at B2 HX;clear hW;clear x xf;refine(gH B (w.heap.size::X) j _ B2.o.at).mono ?_;rintro _ W5 ⟨rfl,rfl⟩
 cases hst:j.steps with
 |nil=>
  have E:Hid (stepJ j=(j,eA 4)):=by rw[Hid,stepJ,hst]
  clear hst HK;go_wp2_with fail;refine(B2.o.code 4).mono ?_;rintro _ w9 ⟨rfl,B0⟩;have B0:=zA B0;obtain⟨y,u⟩:=kA B0.o.b0.2.1;have M:=B0.o.b0.1;go_wp2;exact B0.o.told E.o n B0.o.b0 (Sb _) λW c=>by simp[results,results21,go_sem,c]
 |cons s r=>
  have U:j.steps≠[]:=by rw[hst];simp
  have HD:=zA (HK.o.1 s r hst);have HW:=zA (HK.o.2 U);have E:Hid (stepJ j=if r=[] then finishJ {j with disk:=(wA j.disk s),steps:=r} else({j with disk:=(wA j.disk s),steps:=r},eA 0)):=by rw[Hid,stepJ,hst];exact Rb HD.o
  obtain⟨B5,so,Q,B8,hc⟩:=(B2.o.r.steps.ext (Ext.seenL _ _)).resolve_left U;obtain⟨S,i,B7⟩:=hc 0 (by rw[hst];simp);rw[hst,Ef,Ye,pe]at S i B7;have A6:r.length+1<=V.tc:=by have:=B2.o.r.cap;rw[hst]at this;simpa using this
  replace S:=zA S
  replace i:=zA i
  replace B7:=zA B7
  clear hc U;rw[show decide (0<(s::r).length)=I by simp];go_wp2;rename_i KK A2;refine(show∀A0:Act,A0=_->Code.wp prog _ _ A0 _ from λA0 B1=>?_) _ rfl;have d:A0.tmps.size=44:=by rw[B1];rfl
  have z:A0.defers=[]:=by rw[B1]
  have v0:A0.eval (.tmp 0)=C (J ⟨B,0,Z⟩):=by rw[B1];rfl
  have v2:A0.eval (.tmp 2)=C (J ⟨w.heap.size,0,Z⟩):=by rw[B1];rfl
  have v3:A0.eval (.tmp 3)=undef:=by rw[B1];rfl
  clear B1;refine YE (W:=W5) 10 3 [C (J ⟨B,0,Z⟩),C (J ⟨B,0,Z⟩),C (J ⟨B,1,Z⟩),dkR j V,C (J ⟨B,0,Z⟩),C (J ⟨B,0,Z⟩),C (J ⟨B,56,Z⟩),.slice (J ⟨B5,so,Z⟩) (r.length+1) V.tc,C (J ⟨B5,so,Z⟩),F #[H G s.1,H G s.2.1,A s.2.2]] (H G (dC j.disk s)) (w.heap.size::X) (λv w=>IsDk w v (wA j.disk s)) 45 #[.slice Z 0 0,.slice Z 0 0] (by kernel_rfl) d v3 (Ub _ _).drew (by kernel_rfl) (by kernel_rfl) (by kernel_rfl) ⟨?_,?_,?_,?_,?_,?_,?_,?_,?_,?_,trivial⟩ (λ_ _ _ he h=>h.ext he) (λv w h=>by obtain⟨a,c,a',c',rfl,_⟩:=h;exact⟨_,rfl,rfl,by simp[Value.oneCell']⟩) ?_ ?_ ?_ ?_ ?_ ?_ ?_
  iterate 10
   refine⟨rfl,⟨_,rfl,by decide,by decide⟩,λa w' B6 N L=>.inl ?_⟩;have k0:=xA N B8 S.o;have k1:=xA N B8 i.o;have k2:=xA N B8 B7.o;have z0:=(B6.other 0 rfl).trans v0;have pc:=Act.eval_const a;have Y:=Act.eval_func a;obtain⟨c0,_⟩:=kA ((B2.o.below N).k);unfold rA at c0;rw[Q,hst,Td]at c0
   revert L z0 pc Y
   generalize a.eval=ρ;intro L z0 pc Y;simp[Region.binds]at L;simp only[execOp,dkR,List.getD_cons_succ,List.getD_cons_zero]
   go_simp
  .intro a w' B6 N L;simp[Region.binds]at L;refine⟨50,#[dkR j V,F #[H G s.1,H G s.2.1,A s.2.2]],?_,oP B2.o.r.disk HX.o N (aX _ j.disk s w' ((B2.o.r.disk.ext (Ext.seenL _ _)).below N))⟩;have Y:=Act.eval_func a
   revert L Y
   generalize a.eval=ρ;intro L Y;simp only[execOp]
   go_simp
  rotate_left
  iterate 5 (intros;simp only[execOp];go_simp)
  intro a w2 T cs B6 p pT pE hT A1 m;obtain⟨da,dc,db,dd,A3,_⟩:=id m;cases A3;have f0:=(B6.other 0 rfl).trans v0;have f2:=(B6.other 2 rfl).trans v2;obtain⟨g,hg,rfl⟩:=nB a 44 (B6.size.trans d) (B6.defers.trans z);rw[hg]at pT pE f0 f2;simp only[List.range,List.range.loop,List.map_cons,List.map_nil,pT,pE,f0,f2];show KK _ _;apply A2;have D:=(B2.o.below p).has (by have:=B2.o.lt;omega) A1;have h2:=D.r.steps;rw[Q,hst]at h2
  have h3:SegSt (aA w2 (w.heap.size::X)) (if V.tc=1 then J ⟨B5,so,Z⟩ else J ⟨B5,so+3,Z⟩) r:=by
   split
   .exact .inl (Tc (by omega))
   .exact h2.tl
  have B4:=zA (D.gives (G':=λw=>IsDk w (F #[.slice da (wA j.disk s).safe.length dc,.slice db (wA j.disk s).wr.length dd]) (wA j.disk s)/\SegSt w (if V.tc=1 then J ⟨B5,so,Z⟩ else J ⟨B5,so+3,Z⟩) r) ⟨m.ext (Ext.lessL T),h3⟩ λ_ _ e h=>⟨h.1.ext e,h.2.ext e⟩);clear D h2 h3;rw[HD.o];clear B6 p A1 m pT pE f0 f2 hg A2 hT v0 v2 v3 d z S i B7 B8;obtain⟨x,xf⟩:=kA B4.o.k;unfold rA at x;rw[Q,hst]at x;obtain⟨y,u⟩:=kA B4.o.b0.2.1;have n1:=B4.o.b0.1;have n2:=B4.o.lt;have l1:(1:Int)<=(r.length+1:Nat):=by omega
  have l2:((r.length+1:Nat):Int)<=(V.tc:Int):=by omega
  have l0:¬(r.length+1:Nat)=0:=by omega
  rw[Td]at x;go_wp2
  go_region
  obtain⟨A9,l⟩:∃t:Option Addr,t=(if V.tc=1 then J ⟨B5,so,Z⟩ else J ⟨B5,so+3,Z⟩):=⟨_,rfl⟩;rw[<-l]at B4|-;clear l;go_wp2_with fail;have D:=B4.o.disk B4.o.g.1
  replace D:=(D.rest (c:=V.tc - 1) D.g.2 (by omega)).drew
  dsimp only[yB]at D;have B3:=zA D;clear D;refine(show∀W,W=_->Calls _ _ _ W _ from λW6 hW=>?_) _ rfl;rw[<-hW]at B3;clear hW
  have A5:Hid (∀y∈(w.heap.size::X),y<W6.heap.size):=λy M=>by
   have:=B3.o.tl.b0.2.2;rcases Xc.1 M with rfl|M
   .exact this
   .have:=HX.o y (Ad _ M);have:=B3.o.b.size;have:=A4.o y M;omega
  clear x xf y u B4 Q n1 n2;refine(gH B (w.heap.size::X) _ _ B3.o.at).mono ?_;rintro _ W7 ⟨rfl,rfl⟩;by_cases hr:r=[]
  rotate_left
  .rw[Qb hr]at E;rw[show decide (0<r.length)=I by simpa[List.length_pos_iff] using hr];clear hr;go_wp2_with fail;refine(B3.o.code 0).mono ?_;rintro _ w9 ⟨rfl,B0⟩;have B0:=zA B0;obtain⟨y,u⟩:=kA B0.o.tl.b0.2.1;have M:=B0.o.tl.b0.1;go_wp2;exact B0.o.told E.o n B0.o.tl.b0 (Sb _) λW c=>by simp[results,results21,go_sem,c]
  rw[Rb hr]at E;rw[show decide (0<r.length)=O by rw[hr];rfl];clear hr;go_wp2_with fail;refine(pR B (w.heap.size::X) _ _ B3.o.at A5.o HW.o hn hf hq).mono ?_;rintro _ w8 ⟨rfl,hA,p⟩;obtain⟨V8,R⟩:=B3.o.of hA p;have R:=zA R;clear hA p B3;generalize finishJ {j with disk:=(wA j.disk s),steps:=r}=q at *;dsimp only[vRp];obtain⟨y,u⟩:=kA R.o.tl.b0.2.1;have M:=R.o.tl.b0.1;go_wp2;exact R.o.told E.o n R.o.tl.b0 (Sb _) λW c=>by simp[results,results21,go_sem,c]
theorem OM(w:K):
  Calls prog 10 #[] w λe w'=>∃B,e=N (C (J ⟨B,0,Z⟩))/\w.heap.size<=B/\(∀X:List Nat,(∀x∈X,x<w.heap.size)->JAt w' B (B::X) XE)/\Below w.heap.size w w':=by
 obtain⟨s,hs⟩:∃s,s=encT (superMk 0 1):=⟨_,rfl⟩;have HS:=zA hs;clear hs;go_enter func10,ntmps10;go_wp2_with fail;refine(zX _).mono ?_;rintro _ A9 ⟨g,c,rfl,B5,d⟩;have A1:w.heap.size<=g:=(B5.lt g rfl).1;have A5:g<A9.heap.size:=(B5.lt g rfl).2;have Q:=qA A9 (T #[M (J ⟨g,0,Z⟩) 37 c,M Z 0 0] 45);have l:=zA (Cc A9 (T #[M (J ⟨g,0,Z⟩) 37 c,M Z 0 0] 45));have HO:=zA (dA B5 Q);have r:=zA (vA d Q);have j:A9.heap.size<(A9.alloc (T #[M (J ⟨g,0,Z⟩) 37 c,M Z 0 0] 45)).heap.size:=by simp
 clear B5 d Q;go_wp2;rename_i KK Y;refine(show∀W,W=_->Code.wp prog _ _ _ W from λW5 hW=>?_) _ rfl;rw[<-hW]at l HO r j;clear hW;refine(show∀A0:Act,A0=_->Code.wp prog _ _ A0 _ from λA0 B0=>?_) _ rfl;have D:A0.tmps.size=14:=by rw[B0];rfl
 have q:A0.defers=[]:=by rw[B0]
 have k:A0.eval (.tmp 1)=C (J ⟨A9.heap.size,0,Z⟩):=by rw[B0];rfl
 clear B0;refine LH (W:=W5) 8 (λW=>Below w.heap.size w W/\W.heap[A9.heap.size]?=J (T #[M (J ⟨g,0,Z⟩) 37 c,M Z 0 0] 45 (0,0))/\W.ownsRow w.heap.size 9 1 (M (J ⟨g,0,Z⟩) 37 c) 37 (cellsS (s::List.replicate 36 (fitT ⟨#[]⟩)))) (λ_=>[Is (C (J ⟨A9.heap.size,0,Z⟩)),Is (M (J ⟨g,0,Z⟩) 37 c),Is (F #[H G 1,H G 1,H G 0,M Z 0 0,M Z 0 0]),Is (S #[A s,H G 0]),Is (S #[A s,H G 0]),Is (A s),Is (H G 0),Is (C (J ⟨g,0,Z⟩))]) (by decide) (by kernel_rfl) (by kernel_rfl) (by kernel_rfl) (Ub _ _).drew ⟨?_,?_,?_,?_,?_,?_,?_,?_,?_,trivial⟩ ?_
 .exact BB D (by decide) λb a w' A7 _ _=>⟨_,by have z:=(A7.other 1 rfl).trans k;revert z;generalize a.eval=ρ;intro z;simp only[execOp];go_simp,rfl⟩
 .refine BB D (by decide) λb a w' A7 hR A8=>?_;have B1:a.eval (.tmp 5)=C (J ⟨A9.heap.size,0,Z⟩):=A8 ⟨0,.data⟩ (by simp) rfl;have c0:w'.cell? ⟨A9.heap.size,0,Z⟩=J (M (J ⟨g,0,Z⟩) 37 c):=((kA (yA (hR (by kernel_rfl)) j l.o)).1 0).trans rfl;exact⟨_,(by revert B1;generalize a.eval=ρ;intro B1;simp only[execOp];go_simp),rfl⟩
 .exact BB D (by decide) λb a w' A7 _ _=>⟨_,by have L:=Act.eval_const a;revert L;generalize a.eval=ρ;intro L;simp only[execOp];go_simp,rfl⟩
 .refine JG D (λw w' hb=>Holds.is (.is (.is (.is (.is (.is (.is (.is .nil)))))))) (by decide) (by kernel_rfl) λa w' A7 hR A8=>?_;have B1:a.eval (.tmp 7)=F #[H G 1,H G 1,H G 0,M Z 0 0,M Z 0 0]:=A8 ⟨2,.data⟩ (by simp) rfl;refine⟨28,#[F #[H G 1,H G 1,H G 0,M Z 0 0,M Z 0 0]],(by have B4:=Act.eval_func a;revert B1 B4;generalize a.eval=ρ;intro B1 B4;simp only[execOp];go_simp),(wI _ (superMk 0 1) w' ?_).mono λ_ w3 ⟨h2,h3⟩=>⟨_,h2,?_,h3⟩⟩
  .exact⟨Z,0,Z,0,rfl,.inl rfl,.inl rfl,Vb _,Vb _⟩
  .rw[aL,<-HS.o];rfl
 iterate 3
  refine BB D (by decide) λb a w' A7 _ A8=>⟨_,?_,rfl⟩
  have z1:=(A7.other 1 rfl).trans k;have L:=Act.eval_const a;have B4:=Act.eval_func a
  revert A8 z1 L B4
  generalize a.eval=ρ;intro A8 z1 L B4;simp[Region.binds,lf,Is]at A8;simp only[execOp]
  go_simp
 .refine BB D (by decide) λb a w' A7 _ A8=>?_;have B1:a.eval (.tmp 6)=M (J ⟨g,0,Z⟩) 37 c:=A8 ⟨1,.data⟩ (by simp) rfl;exact⟨_,(by have L:=Act.eval_const a;revert B1 L;generalize a.eval=ρ;intro B1 L;simp only[execOp];go_simp),rfl⟩
 .refine dI λa w' A7 hR A8=>?_;have e1:a.eval (.tmp 11)=C (J ⟨g,0,Z⟩):=A8 ⟨7,.data⟩ (by simp) rfl;have e2:a.eval (.tmp 9)=A s:=A8 ⟨5,.data⟩ (by simp) rfl;have B7:=dA HO.o hR;have A4:w'.cell? ⟨g,0,Z⟩=J (A (fitT ⟨#[]⟩)):=by rw[B7.cellAt 0 (by decide)];rfl
  have A6:w'.frozen? ⟨g,0,Z⟩=O:=B7.frozenAt 0;exact⟨w'.setCell ⟨g,0,Z⟩ (A s),(by revert e1 e2;generalize a.eval=ρ;intro e1 e2;simp only[execOp];go_simp),⟨(vA r.o hR).setCell (p:=⟨g,0,Z⟩) A1 _,CB (yA hR j l.o) (by omega),(B7.stored 0 (A s)).1⟩,Holds.is (.is (.is (.is (.is (.is (.is (.is .nil)))))))⟩
 intro a w6 A7 ⟨h,u,U⟩ _;have f1:=(A7.other 1 rfl).trans k;obtain⟨gg,n,rfl⟩:=nB a 14 (A7.size.trans D) (A7.defers.trans q);rw[n]at f1;simp only[List.range,List.range.loop,List.map_cons,List.map_nil,f1];show KK _ _;apply Y;have A2:=zA U;have m:=zA h;obtain⟨y,_⟩:=kA u;clear A7 h u U f1 n Y;go_wp2_with fail;refine(yR aD (J ⟨g,0,Z⟩) c Z 0 0 1 _ (by decide+kernel)).mono ?_;rintro _ E ⟨rfl,R⟩;have B9:=zA (dA A2.o R);have B6:=zA (vA m.o R);clear y R;obtain⟨B2,B3⟩:∃B2,B2=rA (gB aD 0 1) (⟨J ⟨g,0,Z⟩,c,Z,0,Z,0,Z,0,Z,0,Z,0,Z,0,Z,0,Z,0,Z,0,Z,0⟩:Sl):=⟨_,rfl⟩;rw[<-B3];have HC:=zA B3;have HI:Hid ((prog.info? 74).map (·.size)=J B2.size):=by rw[Hid,B3];exact VJ _ _
 have HN:Hid (B2.all (·.oneCell')=I):=by rw[Hid,B3];exact vM _ _
 have HZ:Hid (57=B2.size):=by rw[Hid,B3];rfl
 clear B3;dsimp only
 repeat (first|(refine wpList_store_rowTo rfl _ _ _ rfl rfl E.heap.size B2 rfl rfl _ _ (Cc _ _) HI.o HZ.o HN.o ?_)|go_step)
 refine Tb (results_tmp rfl _ _ _) rfl ⟨E.heap.size,rfl,B6.o.size,λX hX=>?_,((ButL.of_below (X:=[]) (B6.o.alloc B6.o.size _)).setRowB (.inr B6.o.size) B2).below⟩;rw[HC.o,VU];have hq:=Oe _ _ _ (rA (gB aD 0 1) (⟨J ⟨g,0,Z⟩,c,Z,0,Z,0,Z,0,Z,0,Z,0,Z,0,Z,0,Z,0,Z,0,Z,0⟩:Sl)) _ _ (Cc E (T uH 74))
 refine(show JS E E.heap.size (E.heap.size::X) [] (λ_=>True) (gB aD 0 1) (⟨J ⟨g,0,Z⟩,c,Z,0,Z,0,Z,0,Z,0,Z,0,Z,0,Z,0,Z,0,Z,0,Z,0⟩:Sl) _ from⟨by simp,((ButL.of_below (qA _ _)).setRowB (.inr (Sb _)) _),hq,⟨?_,FC _ _,FC _ _,.inl rfl,.inl rfl,.inl rfl,Sb _,bF _⟩,by simp,trivial,λ_ _ _ _=>trivial⟩).at
 refine IsDk.ext (w:=aA (E.alloc (T uH 74)) (E.heap.size::X)) ?_ (Ext.butL ((ButL.refl _ _ _).setRowB (.inl (by simp)) _));have A3:g<E.heap.size:=(B9.o.lt g rfl).2;obtain⟨a2,c2,hv,hS,_⟩:=SegS.of_owns (dA B9.o (qA E _));simp only[Value.slice.injEq]at hv;obtain⟨rfl,_,rfl⟩:=hv;rw[HS.o]at hS;refine⟨J ⟨g,0,Z⟩,c,Z,0,rfl,?_,.inl rfl,by decide+kernel,by decide+kernel⟩;rcases hS with h0|⟨b,C0,he,B8,hc⟩
 .cases h0
 .cases he;refine .inr ⟨g,0,rfl,by rw[tC];exact B8,λi hi=>oC ?_ (hc i hi)⟩;simp only[List.mem_cons,not_or];exact⟨by omega,λhx=>by have:=hX g hx;omega⟩
