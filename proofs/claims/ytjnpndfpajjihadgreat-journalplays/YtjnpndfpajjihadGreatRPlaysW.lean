import Derived.Test.YtjnpndfpajjihadGreatRInv5
import Derived.Test.YtjnpndfpajjihadGreatGrJournalRuns56
import Derived.Test.YtjnpndfpajjihadGreatGrJournalRuns39
import Derived.Test.YtjnpndfpajjihadGreatRDo
namespace Go.Proofs.YtjnpndfpajjihadGreat
open Go.Proofs.Tryz
set_option maxRecDepth 100000
set_option maxHeartbeats 40000000
open Go.RowKit
open Value renaming int -> H,slice -> M,pointer -> C,string -> A,agg -> F
open IntKind renaming i64 -> G
open Option renaming none -> Z,some -> J
open Bool renaming false -> O,true -> I
open Go renaming World -> K,Value -> E
open Obj renaming cells -> T
open Ending renaming returned -> N
theorem PJ.reachP{j:Jn}(h:PJ j):j.now.info.length*24<=140737488355328/\j.now.data.length*24<=140737488355328/\j.now.rev.length*8<=140737488355328/\j.disk.safe.length*16<=140737488355328/\j.disk.wr.length*24<=140737488355328:=by
 have B:=h.ready;obtain⟨D,A,_,_⟩:=h;have hg:=MI A.disk
 have A0:j.now.rev.length<=12:=by
  by_cases hu:j.down=O
  .exact(iB (A.pow hu).good).2.2
  .cases A with
   |idle p=>exact absurd p.up hu
   |commit P U k p=>exact absurd p.up hu
   |check k p=>exact absurd p.up hu
   |off l N P U p=>rw[p.now];exact Vb _
   |back U k p=>rw[p.now];exact Vb _
 exact⟨by have:=B.info;omega,by have:=B.data;omega,by omega,by omega,by omega⟩
theorem JAt.butP{w w':K}{B:Nat}{X Y:List Nat}{j:Jn}(h:JAt w B X j)(hb:ButL Y w.heap.size w w')(Q:∀y∈Y,y∈X)(L:B∉Y):JAt w' B X j:=by
 have D:=h.lt;obtain⟨C,V,A,E⟩:=h;exact⟨C,V,(hb.block B D L).trans A,E.ext (Ext.butL (hb.wider Q))⟩
def PlS (l:List Ac)(k B R:Nat)(w:K)(b c:Bool)(W:K):Prop:=JAt W B [R,B] (jOf l (sw b (k+1) k))/\RAt W R [R,B] (jOf l (sw c (k+1) k))/\ButL [R,B] w.heap.size w W
theorem DY(a:Option Addr)(c:Nat)(l:List Ac)(w:K)(hA:SegA w a l)(G0:l.length<=maxLen)(F8:∀y∈l,OkA y):
  Calls prog 4 #[M a l.length c] w λe w'=>e=N (.bool I)/\Below w.heap.size w w':=by
 have HA:=zA hA;have D3:=zA F8;have B9:=G0;unfold maxLen at B9;clear hA F8;go_enter func4,ntmps4;go_wp2_with fail;refine(OM _).mono ?_;rintro _ w1 ⟨B,rfl,E5,C4,D2⟩;have B6:=zA (C4 [] (by simp));have B3:=zA D2;have D4:=B6.o.lt;clear C4 D2;go_wp2_with fail;refine(BO _).mono ?_;rintro _ w2 ⟨R,rfl,D6,C9,B7⟩;have C5:=zA (C9 [B] (by simpa using D4));have C6:=zA (B6.o.more B7 D6);have A9:=zA (vA B3.o B7);have C8:B≠R:=by omega
 have D8:w.heap.size<=R:=by have:=B3.o.size;omega
 clear C9 B7 B6 B3;go_wp2
 go_loopw [5] (λi wx=>∃k:Nat,k<=l.length/\i=H G k/\Hid (JAt wx B [R,B] (jOf l k))/\Hid (RAt wx R [R,B] (jOf l k))/\Hid (ButL [R,B] w2.heap.size w2 wx)) (λi _=>l.length - (intOf i).toNat)
 case atStart=>exact⟨0,Vb _,rfl,by rw[BJ];exact C6,by rw[BJ];exact C5,ButL.refl _ _ _⟩
 case round=>
  clear C6 C5;obtain⟨k,hk,rfl,HJ,HR,A2⟩:=hrel;have HE:=zA ((ButL.of_below (X:=[]) A9.o).trans A2.o A9.o.size (by simp;omega)).below;by_cases hkl:k<l.length
  rotate_left
  .have D5:¬(k:Int)<(l.length:Int):=by omega
   go_wp2;exact Tb (by simp[results,results4,go_sem]) rfl ⟨rfl,HE.o⟩
  have D5:(k:Int)<(l.length:Int):=by omega
  by_cases h15:(k:Int)<150
  rotate_left
  .go_wp2;exact Tb (by simp[results,results4,go_sem]) rfl ⟨rfl,HE.o⟩
  have E0:(0:Int)<=(k:Int):=by omega
  rcases HA.o with h0|⟨xb,xo,rfl,F9,hc⟩
  .rw[h0]at hkl;simp at hkl
  obtain⟨t0,t1,t2,t3,t4⟩:=hc k hkl;obtain⟨x,hx⟩:∃x,x=l.getD k ac0:=⟨_,rfl⟩;obtain⟨r,C7⟩:∃r,r=rOf l k:=⟨_,rfl⟩;rw[<-hx]at t0 t1 t2 t3 t4;have B2:OkA x:=by rw[hx];exact D3.o _ (by rw[List.getD,Ic hkl];exact xe hkl)
  have C0:xb<w2.heap.size:=Xb F9 A9.o.size;have F6:xb<wr.heap.size:=Xb C0 A2.o.size;have D9:=HJ.o.lt;have E4:=HR.o.lt;have F5:xb∉[R,B]:=by simp;omega
  have HC:Hid (∀i u,w.cell? ⟨xb,i,Z⟩=J u->wr.cell? ⟨xb,i,Z⟩=J u):=λi u hu=>A2.o.cell C0 F5 (xA A9.o F9 hu);have B8:=zA hx;have D7:=zA C7;have u0:=zA (HC.o _ _ t0);have u1:=zA (HC.o _ _ t1);have u2:=zA (HC.o _ _ t2);have u3:=zA (HC.o _ _ t3);have u4:=zA (HC.o _ _ t4);have B1:Hid (vRp (doJ (jOf l k) x).2=F #[H G r.code,H G r.n,A r.text]):=by rw[Hid,D7.o,rOf,<-B8.o];rfl
  clear hc hx C7 t0 t1 t2 t3 t4 HC;go_wp2;rename_i KK A5;refine(show∀A0:Act,A0=_->Code.wp prog _ _ A0 _ from λA0 F3=>?_) _ rfl;have L:A0.tmps.size=84:=by rw[F3];rfl
  have A7:A0.defers=[]:=by rw[F3]
  have v0:A0.eval (.tmp 0)=M (J ⟨xb,xo,Z⟩) l.length c:=by rw[F3];rfl
  have U:A0.eval (.tmp 3)=C (J ⟨B,0,Z⟩):=by rw[F3];rfl
  have F4:A0.eval (.tmp 4)=C (J ⟨R,0,Z⟩):=by rw[F3];rfl
  have v5:A0.eval (.tmp 5)=H G (k:Int):=by rw[F3];rfl
  have A3:=zA F3;clear F3;refine iU L [C (J ⟨B,0,Z⟩),M (J ⟨xb,xo,Z⟩) l.length c,H G (k:Int),C (J ⟨xb,xo+k*5,Z⟩),F #[H G x.kind,H G x.h,H G x.b,H G x.n,A x.text],F #[H G r.code,H G r.n,A r.text],C (J ⟨R,0,Z⟩),M (J ⟨xb,xo,Z⟩) l.length c,H G (k:Int),C (J ⟨xb,xo+k*5,Z⟩),F #[H G x.kind,H G x.h,H G x.b,H G x.n,A x.text],F #[H G r.code,H G r.n,A r.text],.bool O] (λf W=>PlS l k B R wr (f 5) (f 11) W) (by kernel_rfl) (by kernel_rfl) (by kernel_rfl) (by kernel_rfl) ⟨HJ.o.below (Ub _ _).drew,HR.o.below (Ub _ _).drew,ButL.of_below (Ub _ _).drew⟩ ⟨?_,?_,?_,?_,?_,?_,?_,?_,?_,?_,?_,?_,?_,trivial⟩ ?_
  iterate 5
   refine qK (λf a w' E7 hR E6=>⟨_,?_,rfl⟩) (λf w h=>by simpa using h);have z0:=(E7.other 0 rfl).trans v0;have E8:=(E7.other 3 rfl).trans U;have D:=(E7.other 4 rfl).trans F4;have z5:=(E7.other 5 rfl).trans v5;have y0:=hR.2.2.cell F6 F5 u0.o;have y1:=hR.2.2.cell F6 F5 u1.o;have y2:=hR.2.2.cell F6 F5 u2.o;have y3:=hR.2.2.cell F6 F5 u3.o;have y4:=hR.2.2.cell F6 F5 u4.o
   revert E6 z0 E8 D z5
   generalize a.eval=ρ;intro E6 z0 E8 D z5
   try simp[Region.binds]at E6
   simp only[execOp]
   go_simp
  .refine MM λf a w' hf E7 hR E6=>⟨8,#[C (J ⟨B,0,Z⟩),F #[H G x.kind,H G x.h,H G x.b,H G x.n,A x.text]],?_,(KQ B [R,B] (jOf l k) w' (by simpa[hf] using hR.1) (by have:=hR.2.2.size;simp;omega) (zH l k) x B2.1 B2.2).mono λ_ w3 ⟨h1,h2,h3⟩=>⟨h1.trans (congrArg _ B1.o),?_,?_,?_⟩⟩
   .simp[Region.binds]at E6;have d:=Act.eval_func a
    revert E6 d
    generalize a.eval=ρ;intro E6 d;simp only[execOp]
    go_simp
   .simp only[beq_self_eq_true,Bool.or_true,sw];rw[AI hkl,<-B8.o];exact h2
   .simpa using hR.2.1.but h3 (by simp) (by simpa using Ne.symm C8)
   .exact hR.2.2.trans h3 hR.2.2.size (by simp)
  iterate 5
   refine qK (λf a w' E7 hR E6=>⟨_,?_,rfl⟩) (λf w h=>by simpa using h);have z0:=(E7.other 0 rfl).trans v0;have E8:=(E7.other 3 rfl).trans U;have D:=(E7.other 4 rfl).trans F4;have z5:=(E7.other 5 rfl).trans v5;have y0:=hR.2.2.cell F6 F5 u0.o;have y1:=hR.2.2.cell F6 F5 u1.o;have y2:=hR.2.2.cell F6 F5 u2.o;have y3:=hR.2.2.cell F6 F5 u3.o;have y4:=hR.2.2.cell F6 F5 u4.o
   revert E6 z0 E8 D z5
   generalize a.eval=ρ;intro E6 z0 E8 D z5
   try simp[Region.binds]at E6
   simp only[execOp]
   go_simp
  .refine MM λf a w' hf E7 hR E6=>⟨12,#[C (J ⟨R,0,Z⟩),F #[H G x.kind,H G x.h,H G x.b,H G x.n,A x.text]],?_,(zQ R [R,B] (jOf l k) w' (by simpa[hf] using hR.2.1) (by have:=hR.2.2.size;simp;omega) (zH l k).rj x B2.1).mono λ_ w3 ⟨h1,h2,h3⟩=>⟨h1.trans (congrArg _ B1.o),?_,?_,?_⟩⟩
   .simp[Region.binds]at E6;have d:=Act.eval_func a
    revert E6 d
    generalize a.eval=ρ;intro E6 d;simp only[execOp]
    go_simp
   .simpa using hR.1.butP h3 (by simp) (by simpa using C8)
   .simp only[beq_self_eq_true,Bool.or_true,sw];rw[AI hkl,<-B8.o];exact h2
   .exact hR.2.2.trans h3 hR.2.2.size (by simp)
  iterate 1
   refine qK (λf a w' E7 hR E6=>⟨_,?_,rfl⟩) (λf w h=>by simpa using h);have z0:=(E7.other 0 rfl).trans v0;have E8:=(E7.other 3 rfl).trans U;have D:=(E7.other 4 rfl).trans F4;have z5:=(E7.other 5 rfl).trans v5;have y0:=hR.2.2.cell F6 F5 u0.o;have y1:=hR.2.2.cell F6 F5 u1.o;have y2:=hR.2.2.cell F6 F5 u2.o;have y3:=hR.2.2.cell F6 F5 u3.o;have y4:=hR.2.2.cell F6 F5 u4.o
   revert E6 z0 E8 D z5
   generalize a.eval=ρ;intro E6 z0 E8 D z5
   try simp[Region.binds]at E6
   simp only[execOp]
   go_simp
  intro f a m hf E7 hS E6;have p35:a.eval (.tmp 35)=.bool O:=E6 12 (by decide);obtain⟨g,hg⟩:∃g:Nat->E,∀t,a.eval (.tmp t)=g t:=⟨_,λ_=>rfl⟩;have hl:=wV E7 84 23 36 L A7 (by omega) (by omega) (by kernel_rfl);rw[A3.o]at hl;rw[hg]at p35;simp only[List.take_succ_cons,List.take_zero,List.drop_succ_cons,List.drop_zero,List.range',List.map_cons,List.map_nil,List.cons_append,List.nil_append,hg,p35,Nat.reduceAdd,Nat.reduceSub]at hl;rw[hl];show KK _ _;apply A5;rw[hf 5 (by decide),hf 11 (by decide)]at hS;obtain⟨j,hj⟩:∃j,j=jOf l (k+1):=⟨_,rfl⟩;have A4:PJ j:=by rw[hj];exact zH l (k+1)
  have D1:=zA hj;have S1:Hid (JAt m B [R,B] j):=by rw[hj];exact hS.1
  have S2:Hid (RAt m R [R,B] j):=by rw[hj];exact hS.2.1
  have S3:=zA (A2.o.trans (Y:=[R,B]) hS.2.2 A2.o.size (by simp));clear hf E7 hS E6 p35 hg A5 hl A3 HJ HR A2 HE B1 u0 u1 u2 u3 u4 v0 U F4 v5 L A7 hj;go_wp2_with fail;refine(Oa B [R,B] j _ S1.o).mono ?_;rintro _ w7 ⟨rfl,B0⟩;have B0:=zA B0;go_wp2;rename_i KK A5;refine(show∀W,W=_->Code.wp prog _ _ _ W from λW5 hW=>?_) _ rfl;have F7:Hid (W5.heap[w7.heap.size]?=J (T #[H G j.rh,H G j.ru] 39 (0,0))):=by rw[hW];exact Cc _ _
  have A8:Below m.heap.size m W5:=by rw[hW];exact vA B0.o (qA _ _)
  have S1:=zA (S1.o.below A8);have S2:=zA (S2.o.below A8);have S3:=zA (S3.o.trans (ButL.of_below (X:=[]) A8) S3.o.size (by simp));have z:w7.heap.size<W5.heap.size:=by rw[hW];simp
  clear hW A8 B0;obtain⟨_,V,C3,B4⟩:=S2.o;have Q:Hid (W5.heap[R]?=J (T (fA j V) 59 (0,0))):=C3;have C1:=zA (B4.now.ext (Ext.seenL _ _));have C2:=zA (B4.disk.ext (Ext.seenL _ _));have S:R<W5.heap.size:=S2.o.lt;clear C3 B4;refine(show∀A0:Act,A0=_->Code.wp prog _ _ A0 _ from λA0 F3=>?_) _ rfl;have L:A0.tmps.size=84:=by rw[F3];rfl
  have A7:A0.defers=[]:=by rw[F3]
  have U:A0.eval (.tmp 3)=C (J ⟨B,0,Z⟩):=by rw[F3];rfl
  have F4:A0.eval (.tmp 4)=C (J ⟨R,0,Z⟩):=by rw[F3];rfl
  have s:A0.eval (.tmp 6)=C (J ⟨w7.heap.size,0,Z⟩):=by rw[F3];rfl
  have p:A0.eval (.tmp 7)=H G j.last:=by rw[F3];rfl
  have q:A0.eval (.tmp 8)=.bool j.down:=by rw[F3];rfl
  have A3:=zA F3;clear F3;have HL:Hid (ZC [Is (F #[H G j.rh,H G j.ru]),Is (C (J ⟨R,0,Z⟩)),Is (C (J ⟨R,0,Z⟩)),Is (C (J ⟨R,3,Z⟩)),Is (F #[H G j.rh,H G j.ru]),Is (.bool O),Is (.bool O),Is (H G j.last),Is (C (J ⟨R,0,Z⟩)),Is (C (J ⟨R,0,Z⟩)),Is (C (J ⟨R,55,Z⟩)),Is (H G j.last),Is (.bool O),Is (.bool O),Is (.bool O),Is (.bool j.down),Is (C (J ⟨R,0,Z⟩)),Is (C (J ⟨R,0,Z⟩)),Is (C (J ⟨R,2,Z⟩)),Is (.bool j.down),Is (.bool O),Is (.bool O),Is (.bool O),Is (C (J ⟨B,0,Z⟩)),λv m=>IsTx m v j.now,Is (C (J ⟨R,0,Z⟩)),Is (C (J ⟨R,0,Z⟩)),Is (C (J ⟨R,5,Z⟩)),Is (F #[H G j.now.seq,M V.na j.now.info.length V.nc,M V.nb j.now.data.length V.nd,M V.ne j.now.rev.length V.nf,.bool j.now.h0.on,H G j.now.h0.left,.bool j.now.h1.on,H G j.now.h1.left,.bool j.now.h2.on,H G j.now.h2.left]),Is (.bool I),Is (.bool O),Is (.bool O),Is (.bool O),Is (C (J ⟨B,0,Z⟩)),λv m=>IsDk m v j.disk,Is (C (J ⟨R,0,Z⟩)),Is (C (J ⟨R,0,Z⟩)),Is (C (J ⟨R,0,Z⟩)),Is (F #[M V.da j.disk.safe.length V.dc,M V.db j.disk.wr.length V.dd]),Is (.bool I),Is (.bool O),Is (.bool O)]):=λw1 w2 hb=>Holds.is (.is (.is (.is (.is (.is (.is (.is (.is (.is (.is (.is (.is (.is (.is (.is (.is (.is (.is (.is (.is (.is (.is (.is (.cons (.is (.is (.is (.is (.is (.is (.is (.is (.is (.cons (.is (.is (.is (.is (.is (.is (.is .nil))))))) λ_ h=>h.below hb)))))))))) λ_ h=>h.below hb))))))))))))))))))))))));refine SG (W:=W5) [Is (F #[H G j.rh,H G j.ru]),Is (C (J ⟨R,0,Z⟩)),Is (C (J ⟨R,0,Z⟩)),Is (C (J ⟨R,3,Z⟩)),Is (F #[H G j.rh,H G j.ru]),Is (.bool O),Is (.bool O),Is (H G j.last),Is (C (J ⟨R,0,Z⟩)),Is (C (J ⟨R,0,Z⟩)),Is (C (J ⟨R,55,Z⟩)),Is (H G j.last),Is (.bool O),Is (.bool O),Is (.bool O),Is (.bool j.down),Is (C (J ⟨R,0,Z⟩)),Is (C (J ⟨R,0,Z⟩)),Is (C (J ⟨R,2,Z⟩)),Is (.bool j.down),Is (.bool O),Is (.bool O),Is (.bool O),Is (C (J ⟨B,0,Z⟩)),λv m=>IsTx m v j.now,Is (C (J ⟨R,0,Z⟩)),Is (C (J ⟨R,0,Z⟩)),Is (C (J ⟨R,5,Z⟩)),Is (F #[H G j.now.seq,M V.na j.now.info.length V.nc,M V.nb j.now.data.length V.nd,M V.ne j.now.rev.length V.nf,.bool j.now.h0.on,H G j.now.h0.left,.bool j.now.h1.on,H G j.now.h1.left,.bool j.now.h2.on,H G j.now.h2.left]),Is (.bool I),Is (.bool O),Is (.bool O),Is (.bool O),Is (C (J ⟨B,0,Z⟩)),λv m=>IsDk m v j.disk,Is (C (J ⟨R,0,Z⟩)),Is (C (J ⟨R,0,Z⟩)),Is (C (J ⟨R,0,Z⟩)),Is (F #[M V.da j.disk.safe.length V.dc,M V.db j.disk.wr.length V.dd]),Is (.bool I),Is (.bool O),Is (.bool O)] (by kernel_rfl) (by kernel_rfl) (by kernel_rfl) (Ub _ _).drew ⟨?_,?_,?_,?_,?_,?_,?_,?_,?_,?_,?_,?_,?_,?_,?_,?_,?_,?_,?_,?_,?_,?_,?_,?_,?_,?_,?_,?_,?_,?_,?_,?_,?_,?_,?_,?_,?_,?_,?_,?_,?_,?_,trivial⟩ ?_
  iterate 7
   refine OA L λa w' E7 hR E6=>⟨_,?_,rfl⟩
   have E8:=(E7.other 3 rfl).trans U;have D:=(E7.other 4 rfl).trans F4;have F0:=(E7.other 6 rfl).trans s;have F2:=(E7.other 7 rfl).trans p;have F1:=(E7.other 8 rfl).trans q;have E9:=Act.eval_const a;obtain⟨c0,_⟩:=kA (yA hR z F7.o);obtain⟨c1,_⟩:=kA (yA hR S Q.o);unfold fA at c1
   revert E6 E8 D F0 F2 F1 E9
   generalize a.eval=ρ;intro E6 E8 D F0 F2 F1 E9
   try simp[Region.binds,lf,Is]at E6
   simp only[execOp]
   go_simp
  iterate 6
   refine vF L λa w' E7 hR E6=>⟨E6 ⟨6,.guard⟩ (by simp) rfl,_,?_,rfl⟩
   have E8:=(E7.other 3 rfl).trans U;have D:=(E7.other 4 rfl).trans F4;have F0:=(E7.other 6 rfl).trans s;have F2:=(E7.other 7 rfl).trans p;have F1:=(E7.other 8 rfl).trans q;have E9:=Act.eval_const a;obtain⟨c0,_⟩:=kA (yA hR z F7.o);obtain⟨c1,_⟩:=kA (yA hR S Q.o);unfold fA at c1
   revert E6 E8 D F0 F2 F1 E9
   generalize a.eval=ρ;intro E6 E8 D F0 F2 F1 E9
   try simp[Region.binds,lf,Is]at E6
   simp only[execOp]
   go_simp
  iterate 2
   refine OA L λa w' E7 hR E6=>⟨_,?_,rfl⟩
   have E8:=(E7.other 3 rfl).trans U;have D:=(E7.other 4 rfl).trans F4;have F0:=(E7.other 6 rfl).trans s;have F2:=(E7.other 7 rfl).trans p;have F1:=(E7.other 8 rfl).trans q;have E9:=Act.eval_const a;obtain⟨c0,_⟩:=kA (yA hR z F7.o);obtain⟨c1,_⟩:=kA (yA hR S Q.o);unfold fA at c1
   revert E6 E8 D F0 F2 F1 E9
   generalize a.eval=ρ;intro E6 E8 D F0 F2 F1 E9
   try simp[Region.binds,lf,Is]at E6
   simp only[execOp]
   go_simp
  iterate 6
   refine vF L λa w' E7 hR E6=>⟨E6 ⟨14,.guard⟩ (by simp) rfl,_,?_,rfl⟩
   have E8:=(E7.other 3 rfl).trans U;have D:=(E7.other 4 rfl).trans F4;have F0:=(E7.other 6 rfl).trans s;have F2:=(E7.other 7 rfl).trans p;have F1:=(E7.other 8 rfl).trans q;have E9:=Act.eval_const a;obtain⟨c0,_⟩:=kA (yA hR z F7.o);obtain⟨c1,_⟩:=kA (yA hR S Q.o);unfold fA at c1
   revert E6 E8 D F0 F2 F1 E9
   generalize a.eval=ρ;intro E6 E8 D F0 F2 F1 E9
   try simp[Region.binds,lf,Is]at E6
   simp only[execOp]
   go_simp
  iterate 2
   refine OA L λa w' E7 hR E6=>⟨_,?_,rfl⟩
   have E8:=(E7.other 3 rfl).trans U;have D:=(E7.other 4 rfl).trans F4;have F0:=(E7.other 6 rfl).trans s;have F2:=(E7.other 7 rfl).trans p;have F1:=(E7.other 8 rfl).trans q;have E9:=Act.eval_const a;obtain⟨c0,_⟩:=kA (yA hR z F7.o);obtain⟨c1,_⟩:=kA (yA hR S Q.o);unfold fA at c1
   revert E6 E8 D F0 F2 F1 E9
   generalize a.eval=ρ;intro E6 E8 D F0 F2 F1 E9
   try simp[Region.binds,lf,Is]at E6
   simp only[execOp]
   go_simp
  iterate 1
   refine vF L λa w' E7 hR E6=>⟨E6 ⟨22,.guard⟩ (by simp) rfl,_,?_,rfl⟩
   have E8:=(E7.other 3 rfl).trans U;have D:=(E7.other 4 rfl).trans F4;have F0:=(E7.other 6 rfl).trans s;have F2:=(E7.other 7 rfl).trans p;have F1:=(E7.other 8 rfl).trans q;have E9:=Act.eval_const a;obtain⟨c0,_⟩:=kA (yA hR z F7.o);obtain⟨c1,_⟩:=kA (yA hR S Q.o);unfold fA at c1
   revert E6 E8 D F0 F2 F1 E9
   generalize a.eval=ρ;intro E6 E8 D F0 F2 F1 E9
   try simp[Region.binds,lf,Is]at E6
   simp only[execOp]
   go_simp
  .refine eI L HL.o λa w' E7 hR E6=>⟨E6 ⟨22,.guard⟩ (by simp) rfl,?_⟩
   refine⟨15,#[C (J ⟨B,0,Z⟩)],?_,(OU B [R,B] j w' (S1.o.below hR) A4.reachP.1 A4.reachP.2.1 A4.reachP.2.2.1).mono λ_ m ⟨v,h1,h2,h3⟩=>⟨v,h1,h2,h3⟩⟩;have d:=Act.eval_func a
   try simp[Region.binds,lf,Is]at E6
   revert E6 d
   generalize a.eval=ρ;intro E6 d;simp only[execOp]
   go_simp
  iterate 4
   refine vF L λa w' E7 hR E6=>⟨E6 ⟨22,.guard⟩ (by simp) rfl,_,?_,rfl⟩
   have E8:=(E7.other 3 rfl).trans U;have D:=(E7.other 4 rfl).trans F4;have F0:=(E7.other 6 rfl).trans s;have F2:=(E7.other 7 rfl).trans p;have F1:=(E7.other 8 rfl).trans q;have E9:=Act.eval_const a;obtain⟨c0,_⟩:=kA (yA hR z F7.o);obtain⟨c1,_⟩:=kA (yA hR S Q.o);unfold fA at c1
   revert E6 E8 D F0 F2 F1 E9
   generalize a.eval=ρ;intro E6 E8 D F0 F2 F1 E9
   try simp[Region.binds,lf,Is]at E6
   simp only[execOp]
   go_simp
  .refine eI L HL.o λa w' E7 hR E6=>⟨E6 ⟨22,.guard⟩ (by simp) rfl,?_⟩
   obtain⟨t,A1⟩:∃t,a.eval (.tmp 66)=t:=⟨_,rfl⟩;have ht:IsTx w' t j.now:=by rw[<-A1];exact E6 ⟨24,.data⟩ (by simp) rfl
   have hn:a.eval (.tmp 70)=F #[H G j.now.seq,M V.na j.now.info.length V.nc,M V.nb j.now.data.length V.nd,M V.ne j.now.rev.length V.nf,.bool j.now.h0.on,H G j.now.h0.left,.bool j.now.h1.on,H G j.now.h1.left,.bool j.now.h2.on,H G j.now.h2.left]:=E6 ⟨28,.data⟩ (by simp) rfl;clear E6;refine⟨14,#[t,F #[H G j.now.seq,M V.na j.now.info.length V.nc,M V.nb j.now.data.length V.nd,M V.ne j.now.rev.length V.nf,.bool j.now.h0.on,H G j.now.h0.left,.bool j.now.h1.on,H G j.now.h1.left,.bool j.now.h2.on,H G j.now.h2.left]],?_,(oW _ _ j.now w' ht (C1.o.below hR)).mono λ_ m ⟨h1,h2⟩=>⟨_,h1,rfl,h2⟩⟩;have d:=Act.eval_func a
   revert A1 hn d
   generalize a.eval=ρ;intro A1 hn d;simp only[execOp]
   go_simp
  iterate 1
   refine vF L λa w' E7 hR E6=>⟨E6 ⟨22,.guard⟩ (by simp) rfl,_,?_,rfl⟩
   have E8:=(E7.other 3 rfl).trans U;have D:=(E7.other 4 rfl).trans F4;have F0:=(E7.other 6 rfl).trans s;have F2:=(E7.other 7 rfl).trans p;have F1:=(E7.other 8 rfl).trans q;have E9:=Act.eval_const a;obtain⟨c0,_⟩:=kA (yA hR z F7.o);obtain⟨c1,_⟩:=kA (yA hR S Q.o);unfold fA at c1
   revert E6 E8 D F0 F2 F1 E9
   generalize a.eval=ρ;intro E6 E8 D F0 F2 F1 E9
   try simp[Region.binds,lf,Is]at E6
   simp only[execOp]
   go_simp
  iterate 2
   refine OA L λa w' E7 hR E6=>⟨_,?_,rfl⟩
   have E8:=(E7.other 3 rfl).trans U;have D:=(E7.other 4 rfl).trans F4;have F0:=(E7.other 6 rfl).trans s;have F2:=(E7.other 7 rfl).trans p;have F1:=(E7.other 8 rfl).trans q;have E9:=Act.eval_const a;obtain⟨c0,_⟩:=kA (yA hR z F7.o);obtain⟨c1,_⟩:=kA (yA hR S Q.o);unfold fA at c1
   revert E6 E8 D F0 F2 F1 E9
   generalize a.eval=ρ;intro E6 E8 D F0 F2 F1 E9
   try simp[Region.binds,lf,Is]at E6
   simp only[execOp]
   go_simp
  iterate 1
   refine vF L λa w' E7 hR E6=>⟨E6 ⟨32,.guard⟩ (by simp) rfl,_,?_,rfl⟩
   have E8:=(E7.other 3 rfl).trans U;have D:=(E7.other 4 rfl).trans F4;have F0:=(E7.other 6 rfl).trans s;have F2:=(E7.other 7 rfl).trans p;have F1:=(E7.other 8 rfl).trans q;have E9:=Act.eval_const a;obtain⟨c0,_⟩:=kA (yA hR z F7.o);obtain⟨c1,_⟩:=kA (yA hR S Q.o);unfold fA at c1
   revert E6 E8 D F0 F2 F1 E9
   generalize a.eval=ρ;intro E6 E8 D F0 F2 F1 E9
   try simp[Region.binds,lf,Is]at E6
   simp only[execOp]
   go_simp
  .refine eI L HL.o λa w' E7 hR E6=>⟨E6 ⟨32,.guard⟩ (by simp) rfl,?_⟩
   refine⟨17,#[C (J ⟨B,0,Z⟩)],?_,(FX B [R,B] j w' (S1.o.below hR) A4.reachP.2.2.2.1 A4.reachP.2.2.2.2).mono λ_ m ⟨v,h1,h2,h3⟩=>⟨v,h1,h2,h3⟩⟩;have d:=Act.eval_func a
   try simp[Region.binds,lf,Is]at E6
   revert E6 d
   generalize a.eval=ρ;intro E6 d;simp only[execOp]
   go_simp
  iterate 4
   refine vF L λa w' E7 hR E6=>⟨E6 ⟨32,.guard⟩ (by simp) rfl,_,?_,rfl⟩
   have E8:=(E7.other 3 rfl).trans U;have D:=(E7.other 4 rfl).trans F4;have F0:=(E7.other 6 rfl).trans s;have F2:=(E7.other 7 rfl).trans p;have F1:=(E7.other 8 rfl).trans q;have E9:=Act.eval_const a;obtain⟨c0,_⟩:=kA (yA hR z F7.o);obtain⟨c1,_⟩:=kA (yA hR S Q.o);unfold fA at c1
   revert E6 E8 D F0 F2 F1 E9
   generalize a.eval=ρ;intro E6 E8 D F0 F2 F1 E9
   try simp[Region.binds,lf,Is]at E6
   simp only[execOp]
   go_simp
  .refine eI L HL.o λa w' E7 hR E6=>⟨E6 ⟨32,.guard⟩ (by simp) rfl,?_⟩
   obtain⟨t,A1⟩:∃t,a.eval (.tmp 76)=t:=⟨_,rfl⟩;have ht:IsDk w' t j.disk:=by rw[<-A1];exact E6 ⟨34,.data⟩ (by simp) rfl
   have hn:a.eval (.tmp 80)=F #[M V.da j.disk.safe.length V.dc,M V.db j.disk.wr.length V.dd]:=E6 ⟨38,.data⟩ (by simp) rfl;clear E6;refine⟨16,#[t,F #[M V.da j.disk.safe.length V.dc,M V.db j.disk.wr.length V.dd]],?_,(kY _ _ j.disk w' ht (C2.o.below hR)).mono λ_ m ⟨h1,h2⟩=>⟨_,h1,rfl,h2⟩⟩;have d:=Act.eval_func a
   revert A1 hn d
   generalize a.eval=ρ;intro A1 hn d;simp only[execOp]
   go_simp
  iterate 1
   refine vF L λa w' E7 hR E6=>⟨E6 ⟨32,.guard⟩ (by simp) rfl,_,?_,rfl⟩
   have E8:=(E7.other 3 rfl).trans U;have D:=(E7.other 4 rfl).trans F4;have F0:=(E7.other 6 rfl).trans s;have F2:=(E7.other 7 rfl).trans p;have F1:=(E7.other 8 rfl).trans q;have E9:=Act.eval_const a;obtain⟨c0,_⟩:=kA (yA hR z F7.o);obtain⟨c1,_⟩:=kA (yA hR S Q.o);unfold fA at c1
   revert E6 E8 D F0 F2 F1 E9
   generalize a.eval=ρ;intro E6 E8 D F0 F2 F1 E9
   try simp[Region.binds,lf,Is]at E6
   simp only[execOp]
   go_simp
  iterate 1
   refine OA L λa w' E7 hR E6=>⟨_,?_,rfl⟩
   have E8:=(E7.other 3 rfl).trans U;have D:=(E7.other 4 rfl).trans F4;have F0:=(E7.other 6 rfl).trans s;have F2:=(E7.other 7 rfl).trans p;have F1:=(E7.other 8 rfl).trans q;have E9:=Act.eval_const a;obtain⟨c0,_⟩:=kA (yA hR z F7.o);obtain⟨c1,_⟩:=kA (yA hR S Q.o);unfold fA at c1
   revert E6 E8 D F0 F2 F1 E9
   generalize a.eval=ρ;intro E6 E8 D F0 F2 F1 E9
   try simp[Region.binds,lf,Is]at E6
   simp only[execOp]
   go_simp
  intro a w8 E7 A6 E6;have B5:a.eval (.tmp 83)=.bool O:=E6 41 (by decide);obtain⟨g,hg⟩:∃g:Nat->E,∀t,a.eval (.tmp t)=g t:=⟨_,λ_=>rfl⟩;have hl:=TK E7 84 42 L A7 (by omega) (by kernel_rfl);rw[A3.o]at hl;rw[hg]at B5;simp only[List.take_succ_cons,List.take_zero,List.range',List.map_cons,List.map_nil,List.cons_append,List.nil_append,hg,B5,Nat.reduceAdd,Nat.reduceSub]at hl;rw[hl];show KK _ _;apply A5;have E1:Hid (JAt w8 B [R,B] (jOf l (k+1))):=by rw[<-D1.o];exact S1.o.below A6
  have E2:Hid (RAt w8 R [R,B] (jOf l (k+1))):=by rw[<-D1.o];exact S2.o.below A6
  have E3:=zA (S3.o.trans (ButL.of_below (X:=[]) A6) S3.o.size (by simp));clear E7 A6 E6 B5 hg A5 hl A3 HL C1 C2 Q F7 S1 S2 S3 U F4 s p q;go_wp2
  go_roundw
  case rel=>exact⟨k+1,by omega,by go_num,E1,E2,E3⟩
  case measure=>simp[intOf];omega
