import Derived.Test.YtjnpndfpajjihadGreatGrJournalRuns48
import Derived.Test.YtjnpndfpajjihadGreatGrJournalRuns49
set_option maxRecDepth 100000
set_option maxHeartbeats 40000000
namespace Go.Proofs.YtjnpndfpajjihadGreat
open Go.Proofs.Tryz
open Go.RowKit
open Value renaming int -> H,slice -> M,pointer -> C,string -> A,bool -> Y,agg -> F,tuple -> S
open IntKind renaming i64 -> G
open Option renaming none -> Z,some -> J
open Bool renaming false -> O,true -> I
open Go renaming World -> K
open Obj renaming cells -> T
theorem fY(R:Nat)(X:List Nat)(j:Jn)(w:K)(h:RAt w R X j)(hX:∀x∈X,x<w.heap.size)(hJ:RJ j)(ah ab an:Int)(C9:ByteArray)(hf:¬400<=j.acts):
  Calls prog 12 #[C (J ⟨R,0,Z⟩),F #[H G 11,H G ah,H G ab,H G an,A C9]] w (nD w R X (doJ j ⟨11,ah,ab,an,C9⟩)):=by
 have A2:=h.1;have A1:=h.lt;obtain⟨V,h⟩:=h.rs;have z:=zA (h.rs4 (j.acts+1) (T #[H G 11,H G ah,H G ab,H G an,A C9] 24) (T #[H G 0,H G 0,A ⟨#[]⟩] 31));have K1:Hid ((((w.setCell ⟨R,56,Z⟩ (H G (j.acts+1))).alloc (T #[H G 11,H G ah,H G ab,H G an,A C9] 24)).alloc (T #[H G 0,H G 0,A ⟨#[]⟩] 31)).heap[w.heap.size+1]?=J (T #[H G 0,H G 0,A ⟨#[]⟩] 31 (0,0))):=aC (by simp[World.setCell]);have C1:Hid ((((w.setCell ⟨R,56,Z⟩ (H G (j.acts+1))).alloc (T #[H G 11,H G ah,H G ab,H G an,A C9] 24)).alloc (T #[H G 0,H G 0,A ⟨#[]⟩] 31)).heap[w.heap.size]?=J (T #[H G 11,H G ah,H G ab,H G an,A C9] 24 (0,0))):=yA (qA _ _) (by simp[World.setCell]) (aC (by simp[World.setCell]));have z1:(((w.setCell ⟨R,56,Z⟩ (H G (j.acts+1))).alloc (T #[H G 11,H G ah,H G ab,H G an,A C9] 24)).alloc (T #[H G 0,H G 0,A ⟨#[]⟩] 31)).heap.size=w.heap.size+2:=by simp[World.setCell]
 have HX:Hid (∀y∈((w.heap.size+1)::X),y<(((w.setCell ⟨R,56,Z⟩ (H G (j.acts+1))).alloc (T #[H G 11,H G ah,H G ab,H G an,A C9] 24)).alloc (T #[H G 0,H G 0,A ⟨#[]⟩] 31)).heap.size):=λy hy=>by
  rw[z1];rcases Xc.1 hy with rfl|hy
  .omega
  .have:=hX y hy;omega
 have HJ:=zA hJ;have D7:=zA z1;obtain⟨x,xf⟩:=kA h.k;unfold fA at x;have C5:IntKind.i64.wrap (j.acts+1)=j.acts+1:=by have:=hJ.a0;have:=hJ.a1;rw[Bc];omega
 have C3:(j.acts==400)=O:=Ec.2 (by have:=hJ.a1;omega);have C4:w.heap.size≠R:=by omega
 have N:w.heap.size+1≠R:=by omega
 clear hJ hX h z1;go_enter func12,ntmps12;have E:Hid (doJ j ⟨11,ah,ab,an,C9⟩=comeBackJ {j with acts:=j.acts+1}):=by rw[Hid];simp[doJ,hf,MC]
 clear hf
 cases hd:j.down with
 |false=>
  have E:Hid (doJ j ⟨11,ah,ab,an,C9⟩=({j with acts:=j.acts+1},eA 9)):=by rw[Hid,E.o,comeBackJ,Rb (.inl hd)]
  rw[hd]at x;clear hd;go_wp2_with fail;refine(kD 9 _).mono ?_;rintro _ w9 ⟨rfl,D⟩;have u:=zA (z.o.below D);obtain⟨y,yf⟩:=kA (yA D (by rw[D7.o];omega) K1.o);have l9:w.heap.size+1<w9.heap.size:=Xb (by rw[D7.o];omega) D.size;clear D;go_wp2;exact Tb (by simp[results,results12,go_sem,y];try rfl) rfl ⟨by rw[E.o];try rfl,by rw[E.o];exact u.o.replyB A2 A1 (Fc _) _ _ _⟩
 |true=>
 by_cases hs:j.steps=[]
 rotate_left
 .have E:Hid (doJ j ⟨11,ah,ab,an,C9⟩=({j with acts:=j.acts+1},eA 9)):=by rw[Hid,E.o,comeBackJ,Rb (.inr hs)]
  obtain⟨s,r,A5⟩:∃s r,j.steps=s::r:=by
   cases hq:j.steps with
   |nil=>exact absurd hq hs
   |cons s r=>exact⟨s,r,rfl⟩
  have hw:(wkR j !=0)=I:=by simpa using ZK A5
  rw[hd]at x;clear hd hs A5;go_wp2_with fail;refine(kD 9 _).mono ?_;rintro _ w9 ⟨rfl,D⟩;have u:=zA (z.o.below D);obtain⟨y,yf⟩:=kA (yA D (by rw[D7.o];omega) K1.o);have l9:w.heap.size+1<w9.heap.size:=Xb (by rw[D7.o];omega) D.size;clear D;go_wp2;exact Tb (by simp[results,results12,go_sem,y];try rfl) rfl ⟨by rw[E.o];try rfl,by rw[E.o];exact u.o.replyB A2 A1 (Fc _) _ _ _⟩
 obtain⟨b1,b2,b3,b4⟩:=HJ.o.back hs hd;have hw:wkR j=0:=by rw[wkR,Rb hs]
 have E:Hid (doJ j ⟨11,ah,ab,an,C9⟩=({{j with acts:=j.acts+1} with work:=11,steps:=(checkS (newestL (fndL j.disk)) (fndP j.disk) (fndN j.disk)),fL:=(fndL j.disk),fN:=fndN j.disk,fP:=fndP j.disk},eA 0)):=by rw[Hid,E.o,comeBackJ,Qb (by simp[hd,hs]),Rb b1,Rb b2]
 rw[hd,hw]at x;have B2:=zA b2;have B3:=zA b3;have B4:=zA b4;have A8:=zA b1;clear hd hs hw b1 b2 b3 b4;go_wp2_with fail;refine(nS V.da V.dc V.db V.dd j.disk _ (z.o.r.disk.ext (Ext.seenL _ _))).mono ?_;rintro e D5 hP;obtain⟨n,vc,rfl,A4,i⟩:=hP.foundH HX.o;rw[A8.o];have S2:=zA (z.o.below i);have K2:=zA (yA i (by rw[D7.o];omega) K1.o);have l2:w.heap.size+1<D5.heap.size:=Xb (by rw[D7.o];omega) i.size;have A9:=zA A4;clear hP A4 i z K1 C1 A8 x xf;go_wp2;rename_i KK A6;refine(show∀W5,W5=_->Code.wp prog _ _ _ W5 from λW5 E0=>?_) _ rfl;have Q:Below D5.heap.size D5 W5:=by rw[E0];exact qA _ _
 have m:Hid (W5.heap[D5.heap.size]?=J (T #[M n (fndL j.disk).length vc,H G (fndN j.disk),H G (fndP j.disk)] 57 (0,0))):=by rw[E0];exact Cc _ _
 have l:D5.heap.size<W5.heap.size:=(Wb.1 m.o).1;have S5:=zA (S2.o.below Q);have K5:=zA (yA Q l2 K2.o);have l5:=Xb l2 Q.size;have q:=zA (A9.o.ext (Ext.freshL Q));have B0:Hid (∀y∈((w.heap.size+1)::X),y<W5.heap.size):=λy hy=>by have:=HX.o y hy;rw[D7.o]at this;omega
 clear E0 Q S2 K2 A9 HX D7;refine(show∀A0:Act,A0=_->Code.wp prog _ _ A0 _ from λA0 D3=>?_) _ rfl;have D6:A0.tmps.size=270:=by rw[D3];rfl
 have B9:A0.defers=[]:=by rw[D3]
 have v0:A0.eval (.tmp 0)=C (J ⟨R,0,Z⟩):=by rw[D3];rfl
 have v4:A0.eval (.tmp 4)=C (J ⟨w.heap.size+1,0,Z⟩):=by rw[D3];rfl
 have v5:A0.eval (.tmp 5)=.func (.func 32) #[] #[]:=by rw[D3];rfl
 have v8:A0.eval (.tmp 8)=C (J ⟨D5.heap.size,0,Z⟩):=by rw[D3];rfl
 clear D3;refine SG (W:=W5) [Is (C (J ⟨D5.heap.size,0,Z⟩)),Is (M n (fndL j.disk).length vc),λv w'=>∃a c,v=M a (newestL (fndL j.disk)).length c/\SegW w' a (newestL (fndL j.disk)),Is (C (J ⟨D5.heap.size,2,Z⟩)),Is (H G (fndP j.disk)),Is (C (J ⟨D5.heap.size,1,Z⟩)),Is (H G (fndN j.disk)),λv w'=>∃a c,v=S #[M a (checkS (newestL (fndL j.disk)) (fndP j.disk) (fndN j.disk)).length c,H G 0]/\SegSt (aA w' ((w.heap.size+1)::X)) a (checkS (newestL (fndL j.disk)) (fndP j.disk) (fndN j.disk))/\(checkS (newestL (fndL j.disk)) (fndP j.disk) (fndN j.disk)).length<=c,λv w'=>∃a c,v=S #[M a (checkS (newestL (fndL j.disk)) (fndP j.disk) (fndN j.disk)).length c,H G 0]/\SegSt (aA w' ((w.heap.size+1)::X)) a (checkS (newestL (fndL j.disk)) (fndP j.disk) (fndN j.disk))/\(checkS (newestL (fndL j.disk)) (fndP j.disk) (fndN j.disk)).length<=c,λv w'=>∃a c,v=M a (checkS (newestL (fndL j.disk)) (fndP j.disk) (fndN j.disk)).length c/\SegSt (aA w' ((w.heap.size+1)::X)) a (checkS (newestL (fndL j.disk)) (fndP j.disk) (fndN j.disk))/\(checkS (newestL (fndL j.disk)) (fndP j.disk) (fndN j.disk)).length<=c,Is (H G 0),λv w'=>∃a c,v=M a (checkS (newestL (fndL j.disk)) (fndP j.disk) (fndN j.disk)).length c/\SegSt (aA w' ((w.heap.size+1)::X)) a (checkS (newestL (fndL j.disk)) (fndP j.disk) (fndN j.disk))/\(checkS (newestL (fndL j.disk)) (fndP j.disk) (fndN j.disk)).length<=c,Is (H G 0)] (by kernel_rfl) (by kernel_rfl) (by kernel_rfl) (Ub _ _).drew ⟨?_,?_,?_,?_,?_,?_,?_,?_,?_,?_,?_,?_,?_,trivial⟩ ?_
 iterate 2
  refine OA D6 λa w' D1 hR C8=>⟨_,?_,rfl⟩
  have U:=(D1.other 8 rfl).trans v8;have D8:=Act.eval_const a;have D4:=Act.eval_func a;obtain⟨c0,_⟩:=kA (yA hR l m.o)
  revert C8 U D8 D4
  generalize a.eval=ρ;intro C8 U D8 D4;simp[Region.binds,lf,Is]at C8;simp only[execOp]
  go_simp
 .refine OC D6 (λw w' hb=>Holds.is (.is (.cons (.is (.is (.is (.is (.cons (.cons (.cons (.is (.cons (.is .nil) (λ_ ⟨a,c,C7,B,D2⟩=>⟨a,c,C7,B.ext (Ext.freshL hb),D2⟩))) (λ_ ⟨a,c,C7,B,D2⟩=>⟨a,c,C7,B.ext (Ext.freshL hb),D2⟩)) (λ_ ⟨a,c,C7,B,D2⟩=>⟨a,c,C7,B.ext (Ext.freshL hb),D2⟩)) (λ_ ⟨a,c,C7,B,D2⟩=>⟨a,c,C7,B.ext (Ext.freshL hb),D2⟩)))))) (λ_ ⟨a,c,C7,B⟩=>⟨a,c,C7,B.below hb⟩)))) λa w' D1 hR C8=>?_;have C7:a.eval (.tmp 105)=M n (fndL j.disk).length vc:=C8 ⟨1,.data⟩ (by simp) rfl;refine⟨37,#[M n (fndL j.disk).length vc],(by have D4:=Act.eval_func a;revert C7 D4;generalize a.eval=ρ;intro C7 D4;simp only[execOp];go_simp),(TL _ _ (fndL j.disk) w' ((q.o.ext (Ext.seenL _ _)).below hR) (by have:=OH j.disk;unfold maxLen;omega)).mono λ_ w3 ⟨v3,he,ho,hb3⟩=>?_⟩;rw[B4.o]at ho;obtain⟨L,c3,rfl,p,_⟩:=SegC.of_owns ho;exact⟨_,he,⟨L,c3,rfl,p⟩,hb3⟩
 iterate 4
  refine OA D6 λa w' D1 hR C8=>⟨_,?_,rfl⟩
  have U:=(D1.other 8 rfl).trans v8;have D8:=Act.eval_const a;have D4:=Act.eval_func a;obtain⟨c0,_⟩:=kA (yA hR l m.o)
  revert C8 U D8 D4
  generalize a.eval=ρ;intro C8 U D8 D4;simp[Region.binds,lf,Is]at C8;simp only[execOp]
  go_simp
 .refine OC D6 (λw w' hb=>Holds.is (.is (.cons (.is (.is (.is (.is (.cons (.cons (.cons (.is (.cons (.is .nil) (λ_ ⟨a,c,C7,B,D2⟩=>⟨a,c,C7,B.ext (Ext.freshL hb),D2⟩))) (λ_ ⟨a,c,C7,B,D2⟩=>⟨a,c,C7,B.ext (Ext.freshL hb),D2⟩)) (λ_ ⟨a,c,C7,B,D2⟩=>⟨a,c,C7,B.ext (Ext.freshL hb),D2⟩)) (λ_ ⟨a,c,C7,B,D2⟩=>⟨a,c,C7,B.ext (Ext.freshL hb),D2⟩)))))) (λ_ ⟨a,c,C7,B⟩=>⟨a,c,C7,B.below hb⟩)))) λa w' D1 hR C8=>?_;obtain⟨L,c3,C7,p⟩:∃a' c,a.eval (.tmp 106)=M a' (newestL (fndL j.disk)).length c/\SegW w' a' (newestL (fndL j.disk)):=C8 ⟨2,.data⟩ (by simp) rfl;have B:a.eval (.tmp 108)=H G (fndP j.disk):=C8 ⟨4,.data⟩ (by simp) rfl;have D2:a.eval (.tmp 110)=H G (fndN j.disk):=C8 ⟨6,.data⟩ (by simp) rfl;refine⟨36,#[M L (newestL (fndL j.disk)).length c3,H G (fndP j.disk),H G (fndN j.disk)],?_,(NM L c3 (newestL (fndL j.disk)) (fndP j.disk) (fndN j.disk) w' p (PG _) B2.o).mono λ_ w3 ⟨a4,c4,e4,h4,h5,h6,h7⟩=>⟨_,e4,⟨a4,c4,rfl,h4.hideF h6 λy hy=>by have:=B0.o y hy;have:=hR.size;omega,h7⟩,h5⟩⟩;generalize (newestL (fndL j.disk)).length=D9 at *;have D4:=Act.eval_func a
  revert C7 B D2 D4
  generalize a.eval=ρ;intro C7 B D2 D4;simp only[execOp]
  go_simp
 .refine OA D6 λa w' D1 hR C8=>?_;obtain⟨L,c3,C7,B⟩:∃a' c,a.eval (.tmp 111)=S #[M a' (checkS (newestL (fndL j.disk)) (fndP j.disk) (fndN j.disk)).length c,H G 0]/\SegSt (aA w' ((w.heap.size+1)::X)) a' (checkS (newestL (fndL j.disk)) (fndP j.disk) (fndN j.disk))/\(checkS (newestL (fndL j.disk)) (fndP j.disk) (fndN j.disk)).length<=c:=C8 ⟨7,.data⟩ (by simp) rfl;exact⟨_,(by generalize (checkS (newestL (fndL j.disk)) (fndP j.disk) (fndN j.disk)).length=D9 at *;revert C7;generalize a.eval=ρ;intro C7;simp only[execOp];go_simp),L,c3,rfl,B⟩
 .refine OA D6 λa w' D1 hR C8=>?_;obtain⟨L,c3,C7,B⟩:∃a' c,a.eval (.tmp 103)=S #[M a' (checkS (newestL (fndL j.disk)) (fndP j.disk) (fndN j.disk)).length c,H G 0]/\SegSt (aA w' ((w.heap.size+1)::X)) a' (checkS (newestL (fndL j.disk)) (fndP j.disk) (fndN j.disk))/\(checkS (newestL (fndL j.disk)) (fndP j.disk) (fndN j.disk)).length<=c:=C8 ⟨8,.data⟩ (by simp) rfl;exact⟨_,(by generalize (checkS (newestL (fndL j.disk)) (fndP j.disk) (fndN j.disk)).length=D9 at *;revert C7;generalize a.eval=ρ;intro C7;simp only[execOp];go_simp),L,c3,rfl,B⟩
 .refine OA D6 λa w' D1 hR C8=>?_;obtain⟨L,c3,C7,B⟩:∃a' c,a.eval (.tmp 103)=S #[M a' (checkS (newestL (fndL j.disk)) (fndP j.disk) (fndN j.disk)).length c,H G 0]/\SegSt (aA w' ((w.heap.size+1)::X)) a' (checkS (newestL (fndL j.disk)) (fndP j.disk) (fndN j.disk))/\(checkS (newestL (fndL j.disk)) (fndP j.disk) (fndN j.disk)).length<=c:=C8 ⟨8,.data⟩ (by simp) rfl;exact⟨_,(by generalize (checkS (newestL (fndL j.disk)) (fndP j.disk) (fndN j.disk)).length=D9 at *;revert C7;generalize a.eval=ρ;intro C7;simp only[execOp];go_simp),rfl⟩
 .refine OA D6 λa w' D1 hR C8=>?_;obtain⟨L,c3,C7,B⟩:∃a' c,a.eval (.tmp 112)=M a' (checkS (newestL (fndL j.disk)) (fndP j.disk) (fndN j.disk)).length c/\SegSt (aA w' ((w.heap.size+1)::X)) a' (checkS (newestL (fndL j.disk)) (fndP j.disk) (fndN j.disk))/\(checkS (newestL (fndL j.disk)) (fndP j.disk) (fndN j.disk)).length<=c:=C8 ⟨9,.data⟩ (by simp) rfl;exact⟨_,(by generalize (checkS (newestL (fndL j.disk)) (fndP j.disk) (fndN j.disk)).length=D9 at *;revert C7;generalize a.eval=ρ;intro C7;simp only[execOp];go_simp),L,c3,rfl,B⟩
 .refine OA D6 λa w' D1 hR C8=>⟨_,?_,rfl⟩
  have U:=(D1.other 8 rfl).trans v8;have D8:=Act.eval_const a;have D4:=Act.eval_func a
  revert C8 U D8 D4
  generalize a.eval=ρ;intro C8 U D8 D4;simp[Region.binds,lf,Is]at C8;simp only[execOp]
  go_simp
 intro a w6 D1 b C8;obtain⟨ya,yc,d,A7,A3⟩:∃a' c,a.eval (.tmp 10)=M a' (checkS (newestL (fndL j.disk)) (fndP j.disk) (fndN j.disk)).length c/\SegSt (aA w6 ((w.heap.size+1)::X)) a' (checkS (newestL (fndL j.disk)) (fndP j.disk) (fndN j.disk))/\(checkS (newestL (fndL j.disk)) (fndP j.disk) (fndN j.disk)).length<=c:=C8 11 (by decide);have p9:a.eval (.tmp 9)=H G 0:=C8 12 (by decide);obtain⟨D9,Y⟩:∃D9,D9=(checkS (newestL (fndL j.disk)) (fndP j.disk) (fndN j.disk)).length:=⟨_,rfl⟩;rw[<-Y]at d;have f0:=(D1.other 0 rfl).trans v0;have f4:=(D1.other 4 rfl).trans v4;have f5:=(D1.other 5 rfl).trans v5;have f8:=(D1.other 8 rfl).trans v8;obtain⟨g,hg,rfl⟩:=nB a 270 (D1.size.trans D6) (D1.defers.trans B9);rw[hg]at d p9 f0 f4 f5 f8;simp only[List.range,List.range.loop,List.map_cons,List.map_nil,d,p9,f0,f4,f5,f8];show KK _ _;apply A6;have S6:=zA (S5.o.below b);have K6:=zA (yA b l5 K5.o);have l6:=Xb l5 b.size;have B6:=zA (yA b l m.o);have C2:=Xb l b.size;have B5:=zA (q.o.ext (Ext.freshL b));have C0:=zA A7;have B8:=zA A3;have B7:=zA Y;have m6:=S6.o.lt;have C6:¬D5.heap.size=R:=by omega
 have B1:Hid (wkR {j with acts:=j.acts+1,work:=11,steps:=(checkS (newestL (fndL j.disk)) (fndP j.disk) (fndN j.disk)),fL:=(fndL j.disk),fN:=fndN j.disk,fP:=fndP j.disk}=3):=by rw[Hid,wkR,Qb B3.o];rfl
 clear D1 b C8 A7 A3 Y S5 K5 m l5 l q B0 B2 B4 d p9 f0 f4 f5 f8 hg A6;obtain⟨x,xf⟩:=kA S6.o.k;unfold fA at x;dsimp only at x;obtain⟨f,_⟩:=kA B6.o;go_wp2_with fail;have Y:=B7.o;subst Y;refine(kD 0 _).mono ?_;rintro _ w9 ⟨rfl,D⟩;have u:=zA ((S6.o.set (j':={j with acts:=j.acts+1,work:=11,steps:=(checkS (newestL (fndL j.disk)) (fndP j.disk) (fndN j.disk)),fL:=(fndL j.disk),fN:=fndN j.disk,fP:=fndP j.disk}) (V':={V with fa:=n,fc:=vc,ta:=ya,tc:=yc}) (by(iterate 5 refine ButL.set ?_ (.inl (by simp)) _ _);exact ButL.refl _ _ _) (by(iterate 5 apply XB);exact S6.o.k) (λr E=>⟨(r.ext E).disk,(r.ext E).now,(r.ext E).sealed,(r.ext E).done,B5.o.ext E,C0.o.ext E,B8.o,r.room⟩) (by unfold fA;rw[B1.o];kernel_rfl)).below D);obtain⟨y,yf⟩:=kA (yA D (by simpa[World.setCell] using l6) (CB (CB (CB (CB (CB K6.o N) N) N) N) N));have l9:w.heap.size+1<w9.heap.size:=Xb (by simpa[World.setCell] using l6) D.size;clear D;go_wp2;exact Tb (by simp[results,results12,go_sem,y];try rfl) rfl ⟨by rw[E.o];try rfl,by rw[E.o];exact u.o.replyB A2 A1 (Fc _) _ _ _⟩
theorem Ia(R:Nat)(X:List Nat)(j:Jn)(w:K)(h:RAt w R X j)(hX:∀x∈X,x<w.heap.size)(hJ:RJ j)(ah ab an:Int)(C6:ByteArray)(hf:¬400<=j.acts)(hd:j.down=O):
  Calls prog 12 #[C (J ⟨R,0,Z⟩),F #[H G 7,H G ah,H G ab,H G an,A C6]] w (nD w R X (doJ j ⟨7,ah,ab,an,C6⟩)):=by
 have U:=h.1;have p:=h.lt;obtain⟨V,h⟩:=h.rs;have D2:=zA (h.rs4 (j.acts+1) (T #[H G 7,H G ah,H G ab,H G an,A C6] 24) (T #[H G 0,H G 0,A ⟨#[]⟩] 31));have l:Hid ((((w.setCell ⟨R,56,Z⟩ (H G (j.acts+1))).alloc (T #[H G 7,H G ah,H G ab,H G an,A C6] 24)).alloc (T #[H G 0,H G 0,A ⟨#[]⟩] 31)).heap[w.heap.size+1]?=J (T #[H G 0,H G 0,A ⟨#[]⟩] 31 (0,0))):=aC (by simp[World.setCell]);have A7:Hid ((((w.setCell ⟨R,56,Z⟩ (H G (j.acts+1))).alloc (T #[H G 7,H G ah,H G ab,H G an,A C6] 24)).alloc (T #[H G 0,H G 0,A ⟨#[]⟩] 31)).heap[w.heap.size]?=J (T #[H G 7,H G ah,H G ab,H G an,A C6] 24 (0,0))):=yA (qA _ _) (by simp[World.setCell]) (aC (by simp[World.setCell]));have z1:(((w.setCell ⟨R,56,Z⟩ (H G (j.acts+1))).alloc (T #[H G 7,H G ah,H G ab,H G an,A C6] 24)).alloc (T #[H G 0,H G 0,A ⟨#[]⟩] 31)).heap.size=w.heap.size+2:=by simp[World.setCell]
 have HX:Hid (∀y∈((w.heap.size+1)::X),y<(((w.setCell ⟨R,56,Z⟩ (H G (j.acts+1))).alloc (T #[H G 7,H G ah,H G ab,H G an,A C6] 24)).alloc (T #[H G 0,H G 0,A ⟨#[]⟩] 31)).heap.size):=λy hy=>by
  rw[z1];rcases Xc.1 hy with rfl|hy
  .omega
  .have:=hX y hy;omega
 have HJ:=zA hJ;have D6:=zA z1;obtain⟨x,xf⟩:=kA h.k;unfold fA at x;have C2:IntKind.i64.wrap (j.acts+1)=j.acts+1:=by have:=hJ.a0;have:=hJ.a1;rw[Bc];omega
 have B9:(j.acts==400)=O:=Ec.2 (by have:=hJ.a1;omega);have C0:w.heap.size≠R:=by omega
 have A3:w.heap.size+1≠R:=by omega
 clear hJ hX h z1;go_enter func12,ntmps12;have E:Hid (doJ j ⟨7,ah,ab,an,C6⟩=checkJ {j with acts:=j.acts+1}):=by rw[Hid];simp[doJ,hf,MC,hd,poweredJ]
 have B0:=zA hd;rw[hd]at x;clear hf hd;by_cases hs:j.steps=[]
 rotate_left
 .have E:Hid (doJ j ⟨7,ah,ab,an,C6⟩=({j with acts:=j.acts+1},eA 9)):=by rw[Hid,E.o,checkJ,Rb hs]
  obtain⟨s,r,A4⟩:∃s r,j.steps=s::r:=by
   cases hq:j.steps with
   |nil=>exact absurd hq hs
   |cons s r=>exact⟨s,r,rfl⟩
  have z:(wkR j !=0)=I:=by simpa using ZK A4
  clear hs A4;go_wp2_with fail;refine(kD 9 _).mono ?_;rintro _ q ⟨rfl,D⟩;have n:=zA (D2.o.below D);obtain⟨y,yf⟩:=kA (yA D (by rw[D6.o];omega) l.o);have l9:w.heap.size+1<q.heap.size:=Xb (by rw[D6.o];omega) D.size;clear D;go_wp2;exact Tb (by simp[results,results12,go_sem,y];try rfl) rfl ⟨by rw[E.o];try rfl,by rw[E.o];exact n.o.replyB U p (Fc _) _ _ _⟩
 have z:wkR j=0:=by rw[wkR,Rb hs]
 rw[z]at x;by_cases hdn:j.done=[]
 .have E:Hid (doJ j ⟨7,ah,ab,an,C6⟩=({j with acts:=j.acts+1},eA 4)):=by rw[Hid,E.o,checkJ,Qb (by simpa using hs),Rb hdn]
  rw[hdn]at x;clear hs hdn z;go_wp2_with fail;refine(kD 4 _).mono ?_;rintro _ q ⟨rfl,D⟩;have n:=zA (D2.o.below D);obtain⟨y,yf⟩:=kA (yA D (by rw[D6.o];omega) l.o);have l9:w.heap.size+1<q.heap.size:=Xb (by rw[D6.o];omega) D.size;clear D;go_wp2;exact Tb (by simp[results,results12,go_sem,y];try rfl) rfl ⟨by rw[E.o];try rfl,by rw[E.o];exact n.o.replyB U p (Fc _) _ _ _⟩
 obtain⟨b2,b3,b4⟩:=HJ.o.check hs B0.o hdn;have E:Hid (doJ j ⟨7,ah,ab,an,C6⟩=({j with acts:=j.acts+1,work:=7,steps:=(checkS (newestL j.done) j.rh (j.last+1))},eA 0)):=by rw[Hid,E.o,checkJ,Qb (by simpa using hs),Qb hdn,ZF,Rb b2]
 have C3:((j.done.length:Int)==0)=O:=Ec.2 (by have:=mf.2 hdn;omega);have B2:=zA b2;have B3:=zA b3;have B4:=zA b4;have C1:=HJ.o.last;have B8:=HJ.o.step.2.2.1;clear hs hdn z b2 b3 b4;go_wp2;rename_i KK A5;refine(show∀W5,W5=_->Code.wp prog _ _ _ W5 from λW5 D7=>?_) _ rfl;rw[<-D7]at D2 l A7 HX D6;have l1:w.heap.size+1<W5.heap.size:=by rw[D6.o];omega
 have lA:w.heap.size<W5.heap.size:=by omega
 clear D7 x xf;have A8:=HX;refine(show∀A0:Act,A0=_->Code.wp prog _ _ A0 _ from λA0 D1=>?_) _ rfl;have D3:A0.tmps.size=270:=by rw[D1];rfl
 have B6:A0.defers=[]:=by rw[D1]
 have v0:A0.eval (.tmp 0)=C (J ⟨R,0,Z⟩):=by rw[D1];rfl
 have v4:A0.eval (.tmp 4)=C (J ⟨w.heap.size+1,0,Z⟩):=by rw[D1];rfl
 have v5:A0.eval (.tmp 5)=.func (.func 32) #[] #[]:=by rw[D1];rfl
 clear D1;refine LH (W:=W5) 22 (λW=>∃d a c,RS w R ((w.heap.size+1)::X) {j with acts:=j.acts+1} V d/\SegSt (aA d ((w.heap.size+1)::X)) a (checkS (newestL j.done) j.rh (j.last+1))/\(checkS (newestL j.done) j.rh (j.last+1)).length<=c/\d.heap[w.heap.size+1]?=J (T #[H G 0,H G 0,A ⟨#[]⟩] 31 (0,0))/\w.heap.size+1<d.heap.size/\W=d.setCell ⟨R,51,Z⟩ (M a (checkS (newestL j.done) j.rh (j.last+1)).length c)) (λb=>[Is (C (J ⟨R,0,Z⟩)),Is (C (J ⟨R,0,Z⟩)),Is (C (J ⟨R,0,Z⟩)),Is (C (J ⟨R,25,Z⟩)),Is (M V.ca j.done.length V.cc),sw b (λ_ _=>True) (λv w'=>∃a c,v=M a (newestL j.done).length c/\SegW w' a (newestL j.done)),Is (C (J ⟨R,0,Z⟩)),Is (C (J ⟨R,0,Z⟩)),Is (C (J ⟨R,3,Z⟩)),Is (C (J ⟨R,3,Z⟩)),Is (H G j.rh),Is (C (J ⟨R,0,Z⟩)),Is (C (J ⟨R,0,Z⟩)),Is (C (J ⟨R,55,Z⟩)),Is (H G j.last),Is (H G (j.last+1)),λv w'=>∃a c,v=S #[M a (checkS (newestL j.done) j.rh (j.last+1)).length c,H G 0]/\SegSt (aA w' ((w.heap.size+1)::X)) a (checkS (newestL j.done) j.rh (j.last+1))/\(checkS (newestL j.done) j.rh (j.last+1)).length<=c,λv w'=>∃a c,v=S #[M a (checkS (newestL j.done) j.rh (j.last+1)).length c,H G 0]/\SegSt (aA w' ((w.heap.size+1)::X)) a (checkS (newestL j.done) j.rh (j.last+1))/\(checkS (newestL j.done) j.rh (j.last+1)).length<=c,λv w'=>∃a c,v=M a (checkS (newestL j.done) j.rh (j.last+1)).length c/\SegSt (aA w' ((w.heap.size+1)::X)) a (checkS (newestL j.done) j.rh (j.last+1))/\(checkS (newestL j.done) j.rh (j.last+1)).length<=c,Is (H G 0),Is (C (J ⟨R,0,Z⟩)),Is (C (J ⟨R,51,Z⟩))]) (by decide) (by kernel_rfl) (by kernel_rfl) (by kernel_rfl) (Ub _ _).drew ⟨?_,?_,?_,?_,?_,?_,?_,?_,?_,?_,?_,?_,?_,?_,?_,?_,?_,?_,?_,?_,?_,?_,?_,trivial⟩ ?_
 iterate 5
  refine BB D3 (by decide) λb a w' C8 hR C5=>⟨_,?_,rfl⟩
  replace hR:=hR (by kernel_rfl)
  have N:=(C8.other 0 rfl).trans v0;have D4:=Act.eval_const a;have C9:=Act.eval_func a;obtain⟨c0,_⟩:=kA ((D2.o.below hR).k);unfold fA at c0
  revert C5 N D4 C9
  generalize a.eval=ρ;intro C5 N D4 C9;simp[Region.binds,lf,Is]at C5;simp only[execOp]
  go_simp
 .refine JG D3 (λw w' hb=>Holds.is (.is (.is (.is (.is (.cons (.is (.is (.is (.is (.is (.is (.is (.is (.is (.is (.cons (.cons (.cons (.is (.is (.is .nil))) (λ_ ⟨a,c,C4,B,C7⟩=>⟨a,c,C4,B.ext (Ext.freshL hb),C7⟩)) (λ_ ⟨a,c,C4,B,C7⟩=>⟨a,c,C4,B.ext (Ext.freshL hb),C7⟩)) (λ_ ⟨a,c,C4,B,C7⟩=>⟨a,c,C4,B.ext (Ext.freshL hb),C7⟩)))))))))))) (λ_ ⟨a,c,C4,B⟩=>⟨a,c,C4,B.below hb⟩))))))) (by decide) (by kernel_rfl) λa w' C8 hR C5=>?_;have C4:a.eval (.tmp 166)=M V.ca j.done.length V.cc:=C5 ⟨4,.data⟩ (by simp) rfl;refine⟨37,#[M V.ca j.done.length V.cc],(by have C9:=Act.eval_func a;revert C4 C9;generalize a.eval=ρ;intro C4 C9;simp only[execOp];go_simp),(TL _ _ j.done w' ((D2.o.below hR).r.done.ext (Ext.seenL _ _)) (by unfold maxLen;omega)).mono λ_ w3 ⟨v3,he,ho,hb3⟩=>?_⟩;rw[B4.o]at ho;obtain⟨L,c3,rfl,m,_⟩:=SegC.of_owns ho;exact⟨_,he,⟨L,c3,rfl,m⟩,hb3⟩
 iterate 10
  refine BB D3 (by decide) λb a w' C8 hR C5=>⟨_,?_,rfl⟩
  replace hR:=hR (by kernel_rfl)
  have N:=(C8.other 0 rfl).trans v0;have D4:=Act.eval_const a;have C9:=Act.eval_func a;obtain⟨c0,_⟩:=kA ((D2.o.below hR).k);unfold fA at c0
  revert C5 N D4 C9
  generalize a.eval=ρ;intro C5 N D4 C9;simp[Region.binds,lf,Is]at C5;simp only[execOp]
  go_simp
 .refine JG D3 (λw w' hb=>Holds.is (.is (.is (.is (.is (.cons (.is (.is (.is (.is (.is (.is (.is (.is (.is (.is (.cons (.cons (.cons (.is (.is (.is .nil))) (λ_ ⟨a,c,C4,B,C7⟩=>⟨a,c,C4,B.ext (Ext.freshL hb),C7⟩)) (λ_ ⟨a,c,C4,B,C7⟩=>⟨a,c,C4,B.ext (Ext.freshL hb),C7⟩)) (λ_ ⟨a,c,C4,B,C7⟩=>⟨a,c,C4,B.ext (Ext.freshL hb),C7⟩)))))))))))) (λ_ ⟨a,c,C4,B⟩=>⟨a,c,C4,B.below hb⟩))))))) (by decide) (by kernel_rfl) λa w' C8 hR C5=>?_;obtain⟨L,c3,C4,m⟩:∃a' c,a.eval (.tmp 167)=M a' (newestL j.done).length c/\SegW w' a' (newestL j.done):=C5 ⟨5,.data⟩ (by simp) rfl;have B:a.eval (.tmp 172)=H G j.rh:=C5 ⟨10,.data⟩ (by simp) rfl;have C7:a.eval (.tmp 177)=H G (j.last+1):=C5 ⟨15,.data⟩ (by simp) rfl;refine⟨36,#[M L (newestL j.done).length c3,H G j.rh,H G (j.last+1)],?_,(NM L c3 (newestL j.done) j.rh (j.last+1) w' m (PG _) B2.o).mono λ_ w3 ⟨a4,c4,e4,h4,h5,h6,h7⟩=>⟨_,e4,⟨a4,c4,rfl,h4.hideF h6 λy hy=>by have:=A8.o y hy;have:=hR.size;omega,h7⟩,h5⟩⟩;generalize (newestL j.done).length=D5 at *;have C9:=Act.eval_func a
  revert C4 B C7 C9
  generalize a.eval=ρ;intro C4 B C7 C9;simp only[execOp]
  go_simp
 .refine BB D3 (by decide) λb a w' C8 _ C5=>?_;obtain⟨L,c3,C4,B⟩:∃a' c,a.eval (.tmp 178)=S #[M a' (checkS (newestL j.done) j.rh (j.last+1)).length c,H G 0]/\SegSt (aA w' ((w.heap.size+1)::X)) a' (checkS (newestL j.done) j.rh (j.last+1))/\(checkS (newestL j.done) j.rh (j.last+1)).length<=c:=C5 ⟨16,.data⟩ (by simp) rfl;exact⟨_,(by generalize (checkS (newestL j.done) j.rh (j.last+1)).length=D5 at *;revert C4;generalize a.eval=ρ;intro C4;simp only[execOp];go_simp),L,c3,rfl,B⟩
 .refine BB D3 (by decide) λb a w' C8 _ C5=>?_;obtain⟨L,c3,C4,B⟩:∃a' c,a.eval (.tmp 161)=S #[M a' (checkS (newestL j.done) j.rh (j.last+1)).length c,H G 0]/\SegSt (aA w' ((w.heap.size+1)::X)) a' (checkS (newestL j.done) j.rh (j.last+1))/\(checkS (newestL j.done) j.rh (j.last+1)).length<=c:=C5 ⟨17,.data⟩ (by simp) rfl;exact⟨_,(by generalize (checkS (newestL j.done) j.rh (j.last+1)).length=D5 at *;revert C4;generalize a.eval=ρ;intro C4;simp only[execOp];go_simp),L,c3,rfl,B⟩
 .refine BB D3 (by decide) λb a w' C8 _ C5=>?_;obtain⟨L,c3,C4,B⟩:∃a' c,a.eval (.tmp 161)=S #[M a' (checkS (newestL j.done) j.rh (j.last+1)).length c,H G 0]/\SegSt (aA w' ((w.heap.size+1)::X)) a' (checkS (newestL j.done) j.rh (j.last+1))/\(checkS (newestL j.done) j.rh (j.last+1)).length<=c:=C5 ⟨17,.data⟩ (by simp) rfl;exact⟨_,(by generalize (checkS (newestL j.done) j.rh (j.last+1)).length=D5 at *;revert C4;generalize a.eval=ρ;intro C4;simp only[execOp];go_simp),rfl⟩
 iterate 2
  refine BB D3 (by decide) λb a w' C8 _ C5=>⟨_,?_,rfl⟩
  have N:=(C8.other 0 rfl).trans v0;have D4:=Act.eval_const a;have C9:=Act.eval_func a
  revert C5 N D4 C9
  generalize a.eval=ρ;intro C5 N D4 C9;simp[Region.binds,lf,Is]at C5;simp only[execOp]
  go_simp
 .refine dI λa w' C8 hR C5=>?_;have e:a.eval (.tmp 182)=C (J ⟨R,51,Z⟩):=C5 ⟨21,.data⟩ (by simp) rfl;obtain⟨L,c3,C4,B,C7⟩:∃a' c,a.eval (.tmp 179)=M a' (checkS (newestL j.done) j.rh (j.last+1)).length c/\SegSt (aA w' ((w.heap.size+1)::X)) a' (checkS (newestL j.done) j.rh (j.last+1))/\(checkS (newestL j.done) j.rh (j.last+1)).length<=c:=C5 ⟨18,.data⟩ (by simp) rfl;obtain⟨c0,c1⟩:=kA (D2.o.below hR).k;unfold fA at c0;refine⟨w'.setCell ⟨R,51,Z⟩ (M L (checkS (newestL j.done) j.rh (j.last+1)).length c3),(by generalize (checkS (newestL j.done) j.rh (j.last+1)).length=D5 at *;revert e C4;generalize a.eval=ρ;intro e C4;simp only[execOp];go_simp),⟨w',L,c3,D2.o.below hR,B,C7,yA hR l1 l.o,Xb l1 hR.size,rfl⟩,λi u h=>?_⟩
  match i,h with
  |5,_=>exact trivial
  |16,⟨a,c,C4,B,C7⟩|17,⟨a,c,C4,B,C7⟩|18,⟨a,c,C4,B,C7⟩=>exact⟨a,c,C4,B.ext (Ext.setL (Ad _ U) _ _),C7⟩
  |0,h|1,h|2,h|3,h|4,h|6,h|7,h|8,h|9,h|10,h|11,h|12,h|13,h|14,h|15,h|19,h|20,h|21,h=>exact h
  |_+22,_=>exact trivial
 intro a w6 C8 ⟨d,ya,yc,t0,A6,A2,K6,l6,A1⟩ _;have f0:=(C8.other 0 rfl).trans v0;have f4:=(C8.other 4 rfl).trans v4;have f5:=(C8.other 5 rfl).trans v5;obtain⟨g,hg,rfl⟩:=nB a 270 (C8.size.trans D3) (C8.defers.trans B6);rw[hg]at f0 f4 f5;simp only[List.range,List.range.loop,List.map_cons,List.map_nil,f0,f4,f5];show KK _ _;apply A5;have t0:=zA t0;have K6:=zA K6;have B7:=zA A6;have B5:=zA A2;have m6:=t0.o.lt;have A9:Hid (wkR {j with acts:=j.acts+1,work:=7,steps:=(checkS (newestL j.done) j.rh (j.last+1))}=2):=by rw[Hid,wkR,Qb B3.o];rfl
 obtain⟨D5,Q⟩:∃D5,D5=(checkS (newestL j.done) j.rh (j.last+1)).length:=⟨_,rfl⟩;have B1:=zA Q;rw[A1,<-Q];clear C8 A6 A2 Q D2 l A7 l1 lA A8 B2 B4 f0 f4 f5 hg A5 A1;obtain⟨x,xf⟩:=kA t0.o.k;unfold fA at x;dsimp only at x;go_wp2_with fail;have Q:=B1.o;subst Q;refine(kD 0 _).mono ?_;rintro _ q ⟨rfl,D⟩;have n:=zA ((t0.o.set (j':={j with acts:=j.acts+1,work:=7,steps:=(checkS (newestL j.done) j.rh (j.last+1))}) (V':={V with ta:=ya,tc:=yc}) (by(iterate 2 refine ButL.set ?_ (.inl (by simp)) _ _);exact ButL.refl _ _ _) (by(iterate 2 apply XB);exact t0.o.k) (λr E=>⟨(r.ext E).disk,(r.ext E).now,(r.ext E).sealed,(r.ext E).done,(r.ext E).found,B7.o.ext E,B5.o,r.room⟩) (by unfold fA;rw[A9.o];kernel_rfl)).below D);obtain⟨y,yf⟩:=kA (yA D (by simpa[World.setCell] using l6) (CB (CB K6.o A3) A3));have l9:w.heap.size+1<q.heap.size:=Xb (by simpa[World.setCell] using l6) D.size;clear D;go_wp2;exact Tb (by simp[results,results12,go_sem,y];try rfl) rfl ⟨by rw[E.o];try rfl,by rw[E.o];exact n.o.replyB U p (Fc _) _ _ _⟩
def rdT (b:Int)(B:List (Int×ByteArray))(L:List (List (Int×ByteArray))):Option ByteArray:=L.foldl (λo l=>o.or (uA b l)) (uA b B)
theorem YR(b:Int)(B:List (Int×ByteArray))(L:List (List (Int×ByteArray))){i:Nat}(h:i<L.length):rdT b B (L.take (i+1))=(rdT b B (L.take i)).or (uA b (L.getD i [])):=by
 rw[Oc,Ic h,List.getD,Ic h,rdT,He];rfl
theorem lZ(j:Jn)(b:Int):textJ j b=match rdT b j.now.info [j.now.data,j.sealed.info,j.sealed.data,newestL j.done] with
  |some s=>(s,0)
  |none=>(jA j.disk (25+b),readE j.disk (25+b)):=by
 unfold textJ rdT;simp only[List.foldl_cons,List.foldl_nil];cases uA b j.now.info<;>cases uA b j.now.data<;>cases uA b j.sealed.info<;>cases uA b j.sealed.data<;>cases uA b (newestL j.done)<;>rfl
theorem Db(R:Nat)(X:List Nat)(j:Jn)(w:K)(h:RAt w R X j)(hX:∀x∈X,x<w.heap.size)(hJ:RJ j)(ah ab an:Int)(E6:ByteArray)(hf:¬400<=j.acts)(hd:j.down=O):
  Calls prog 12 #[C (J ⟨R,0,Z⟩),F #[H G 9,H G ah,H G ab,H G an,A E6]] w (nD w R X (doJ j ⟨9,ah,ab,an,E6⟩)):=by
 have B5:=h.1;have B1:=h.lt;obtain⟨V,h⟩:=h.rs;have S1:=zA (h.rs4 (j.acts+1) (T #[H G 9,H G ah,H G ab,H G an,A E6] 24) (T #[H G 0,H G 0,A ⟨#[]⟩] 31));have K1:Hid ((((w.setCell ⟨R,56,Z⟩ (H G (j.acts+1))).alloc (T #[H G 9,H G ah,H G ab,H G an,A E6] 24)).alloc (T #[H G 0,H G 0,A ⟨#[]⟩] 31)).heap[w.heap.size+1]?=J (T #[H G 0,H G 0,A ⟨#[]⟩] 31 (0,0))):=aC (by simp[World.setCell]);have A4:Hid ((((w.setCell ⟨R,56,Z⟩ (H G (j.acts+1))).alloc (T #[H G 9,H G ah,H G ab,H G an,A E6] 24)).alloc (T #[H G 0,H G 0,A ⟨#[]⟩] 31)).heap[w.heap.size]?=J (T #[H G 9,H G ah,H G ab,H G an,A E6] 24 (0,0))):=yA (qA _ _) (by simp[World.setCell]) (aC (by simp[World.setCell]));have z1:(((w.setCell ⟨R,56,Z⟩ (H G (j.acts+1))).alloc (T #[H G 9,H G ah,H G ab,H G an,A E6] 24)).alloc (T #[H G 0,H G 0,A ⟨#[]⟩] 31)).heap.size=w.heap.size+2:=by simp[World.setCell]
 have HX:Hid (∀y∈((w.heap.size+1)::X),y<(((w.setCell ⟨R,56,Z⟩ (H G (j.acts+1))).alloc (T #[H G 9,H G ah,H G ab,H G an,A E6] 24)).alloc (T #[H G 0,H G 0,A ⟨#[]⟩] 31)).heap.size):=λy hy=>by
  rw[z1];rcases Xc.1 hy with rfl|hy
  .omega
  .have:=hX y hy;omega
 have HJ:=zA hJ;have HZ:=zA z1;obtain⟨x,xf⟩:=kA h.k;unfold fA at x;have E1:IntKind.i64.wrap (j.acts+1)=j.acts+1:=by have:=hJ.a0;have:=hJ.a1;rw[Bc];omega
 have D5:(j.acts==400)=O:=Ec.2 (by have:=hJ.a1;omega);have E0:w.heap.size≠R:=by omega
 have D6:w.heap.size+1≠R:=by omega
 clear hJ hX h z1;go_enter func12,ntmps12;have E:Hid (doJ j ⟨9,ah,ab,an,E6⟩=({j with acts:=j.acts+1},readJ {j with acts:=j.acts+1} ab)):=by rw[Hid];simp[doJ,hf,MC,hd,poweredJ]
 rw[hd]at x;clear hf hd;by_cases hb:ab<0\/11<ab
 .have E:Hid (doJ j ⟨9,ah,ab,an,E6⟩=({j with acts:=j.acts+1},eA 4)):=by rw[Hid,E.o,readJ,Rb hb]
  have A5:sA ab 0 11=O:=by
   cases hx:sA ab 0 11 with
   |false=>rfl
   |true=>have:=QC.1 hx;omega
  clear hb;go_wp2_with fail;refine(xF _ _).mono ?_;rintro _ D ⟨rfl,rfl⟩;rw[A5];go_wp2_with fail;refine(kD 4 _).mono ?_;rintro _ w9 ⟨rfl,b⟩;have S9:=zA (S1.o.below b);obtain⟨y,yf⟩:=kA (yA b (by rw[HZ.o];omega) K1.o);have l9:w.heap.size+1<w9.heap.size:=Xb (by rw[HZ.o];omega) b.size;clear b;go_wp2;exact Tb (by simp[results,results12,go_sem,y];try rfl) rfl ⟨by rw[E.o];try rfl,by rw[E.o];exact S9.o.replyB B5 B1 (Fc _) _ _ _⟩
 have A5:sA ab 0 11=I:=QC.2 (by omega);obtain⟨E3,rfl⟩:∃E3:Nat,ab=(E3:Int):=⟨ab.toNat,by omega⟩;have C4:E3<12:=by omega
 have D3:(0:Int)<=(E3:Int):=by omega
 have D2:(E3:Int)<12:=by omega
 have E:Hid (doJ j ⟨9,ah,(E3:Int),an,E6⟩=({j with acts:=j.acts+1},if(textJ {j with acts:=j.acts+1} E3).2=0 then⟨0,j.role E3,(textJ {j with acts:=j.acts+1} E3).1⟩ else eA (textJ {j with acts:=j.acts+1} E3).2)):=by rw[Hid,E.o,readJ,Qb hb,pd]
 clear hb;go_wp2_with fail;refine(xF _ _).mono ?_;rintro _ D ⟨rfl,rfl⟩;rw[A5];clear A5;go_wp2;rename_i KK C3;refine(show∀W5,W5=_->Code.wp prog _ _ _ W5 from λW5 F6=>?_) _ rfl;rw[<-F6]at S1 K1 A4 HX HZ;have l1:w.heap.size+1<W5.heap.size:=by rw[HZ.o];omega
 have lA:w.heap.size<W5.heap.size:=by omega
 clear F6 x xf;refine(show∀A0:Act,A0=_->Code.wp prog _ _ A0 _ from λA0 E4=>?_) _ rfl;have F1:A0.tmps.size=270:=by rw[E4];rfl
 have u:A0.defers=[]:=by rw[E4]
 have n:A0.eval (.tmp 0)=C (J ⟨R,0,Z⟩):=by rw[E4];rfl
 have p:A0.eval (.tmp 3)=C (J ⟨w.heap.size,0,Z⟩):=by rw[E4];rfl
 have v4:A0.eval (.tmp 4)=C (J ⟨w.heap.size+1,0,Z⟩):=by rw[E4];rfl
 have v5:A0.eval (.tmp 5)=.func (.func 32) #[] #[]:=by rw[E4];rfl
 clear E4;refine SG (W:=W5) [Is (C (J ⟨R,0,Z⟩)),Is (C (J ⟨R,0,Z⟩)),Is (C (J ⟨R,5,Z⟩)),Is (C (J ⟨R,6,Z⟩)),Is (M V.na j.now.info.length V.nc),Is (C (J ⟨w.heap.size,2,Z⟩)),Is (H G (E3:Int)),Is (S #[A ((uA (E3:Int) j.now.info).getD ⟨#[]⟩),Y (uA (E3:Int) j.now.info).isSome]),Is (S #[A ((uA (E3:Int) j.now.info).getD ⟨#[]⟩),Y (uA (E3:Int) j.now.info).isSome]),Is (A ((uA (E3:Int) j.now.info).getD ⟨#[]⟩)),Is (Y (uA (E3:Int) j.now.info).isSome),Is (A ((uA (E3:Int) j.now.info).getD ⟨#[]⟩)),Is (Y (uA (E3:Int) j.now.info).isSome)] (by kernel_rfl) (by kernel_rfl) (by kernel_rfl) (Ub _ _).drew ⟨?_,?_,?_,?_,?_,?_,?_,?_,?_,?_,?_,?_,?_,trivial⟩ ?_
 iterate 7
  refine OA F1 λa D E5 hR B=>⟨_,?_,rfl⟩
  have m:=(E5.other 0 rfl).trans n;have z3:=(E5.other 3 rfl).trans p;have L:=Act.eval_const a;have E7:=Act.eval_func a;obtain⟨c0,_⟩:=kA ((S1.o.below hR).k);unfold fA at c0;obtain⟨c1,_⟩:=kA (yA hR lA A4.o)
  revert B m z3 L E7
  generalize a.eval=ρ;intro B m z3 L E7;simp[Region.binds,lf,Is]at B;simp only[execOp]
  go_simp
 .refine OC F1 (λw D hb=>Holds.is (.is (.is (.is (.is (.is (.is (.is (.is (.is (.is (.is (.is .nil))))))))))))) λa D E5 hR B=>?_;simp[Region.binds,lf,Is]at B;refine⟨40,#[M V.na j.now.info.length V.nc,H G (E3:Int)],?_,(YK V.na V.nc j.now.info E3 D (IsTx.rows ((S1.o.below hR).r.now.ext (Ext.seenL _ _))).1 (IsTx.rows S1.o.r.now).2.2.2.1).mono λ_ w3 ⟨E8,F0⟩=>⟨_,E8,rfl,F0⟩⟩;have E7:=Act.eval_func a
  revert B E7
  generalize a.eval=ρ;intro B E7;simp only[execOp]
  go_simp
 iterate 5
  refine OA F1 λa D E5 hR B=>⟨_,?_,rfl⟩
  have L:=Act.eval_const a;have E7:=Act.eval_func a
  revert B L E7
  generalize a.eval=ρ;intro B L E7;simp[Region.binds,lf,Is]at B;simp only[execOp]
  go_simp
 intro a w6 E5 E9 B;have F5:a.eval (.tmp 11)=A ((uA (E3:Int) j.now.info).getD ⟨#[]⟩):=B 11 (by decide);have B3:a.eval (.tmp 12)=Y (uA (E3:Int) j.now.info).isSome:=B 12 (by decide);have U:=(E5.other 0 rfl).trans n;have F2:=(E5.other 3 rfl).trans p;have F3:=(E5.other 4 rfl).trans v4;have F4:=(E5.other 5 rfl).trans v5;obtain⟨g,q,rfl⟩:=nB a 270 (E5.size.trans F1) (E5.defers.trans u);rw[q]at F5 B3 U F2 F3 F4;simp only[List.range,List.range.loop,List.map_cons,List.map_nil,F5,B3,U,F2,F3,F4];show KK _ _;apply C3;have S6:=zA (S1.o.below E9);have K6:=zA (yA E9 l1 K1.o);have C1:=zA (yA E9 lA A4.o);have l6:=Xb l1 E9.size;have A6:=Xb lA E9.size;clear E5 E9 B S1 K1 A4 l1 lA HX HZ F5 B3 U F2 F3 F4 q C3;go_wp2;rename_i K3 C0;have D9:=HJ.o.step.2.2.1;have B4:Hid (asN (docF j.done) 12=newestL j.done):=HJ.o.doc;refine(show∀A0:Act,A0=_->Code.wp prog _ _ A0 _ from λA0 E4=>?_) _ rfl;have F1:A0.tmps.size=270:=by rw[E4];rfl
 have u:A0.defers=[]:=by rw[E4]
 have n:A0.eval (.tmp 0)=C (J ⟨R,0,Z⟩):=by rw[E4];rfl
 have p:A0.eval (.tmp 3)=C (J ⟨w.heap.size,0,Z⟩):=by rw[E4];rfl
 have v4:A0.eval (.tmp 4)=C (J ⟨w.heap.size+1,0,Z⟩):=by rw[E4];rfl
 have v5:A0.eval (.tmp 5)=.func (.func 32) #[] #[]:=by rw[E4];rfl
 have C6:A0.eval (.tmp 11)=A ((uA (E3:Int) j.now.info).getD ⟨#[]⟩):=by rw[E4];rfl
 have C9:A0.eval (.tmp 12)=Y (uA (E3:Int) j.now.info).isSome:=by rw[E4];rfl
 clear E4;refine SG (W:=w6) [Is (C (J ⟨R,0,Z⟩)),Is (C (J ⟨R,0,Z⟩)),Is (C (J ⟨R,5,Z⟩)),Is (C (J ⟨R,7,Z⟩)),Is (M V.nb j.now.data.length V.nd),Is (C (J ⟨R,0,Z⟩)),Is (C (J ⟨R,0,Z⟩)),Is (C (J ⟨R,15,Z⟩)),Is (C (J ⟨R,16,Z⟩)),Is (M V.sa j.sealed.info.length V.sc),Is (C (J ⟨R,0,Z⟩)),Is (C (J ⟨R,0,Z⟩)),Is (C (J ⟨R,15,Z⟩)),Is (C (J ⟨R,17,Z⟩)),Is (M V.sb j.sealed.data.length V.sd),Is (C (J ⟨R,0,Z⟩)),Is (C (J ⟨R,0,Z⟩)),Is (C (J ⟨R,25,Z⟩)),Is (M V.ca j.done.length V.cc),λv D=>∃a c,v=M a (newestL j.done).length c/\SegW D a (newestL j.done),λv D=>∃g a c,v=M (J ⟨g,0,Z⟩) 4 4/\D.heap[g]?=J (T #[M V.nb j.now.data.length V.nd,M V.sa j.sealed.info.length V.sc,M V.sb j.sealed.data.length V.sd,M a (newestL j.done).length c] 46 (0,0))/\SegW D a (newestL j.done),Is (H G 4),Is (H G 0)] (by kernel_rfl) (by kernel_rfl) (by kernel_rfl) (Ub _ _).drew ⟨?_,?_,?_,?_,?_,?_,?_,?_,?_,?_,?_,?_,?_,?_,?_,?_,?_,?_,?_,?_,?_,?_,?_,trivial⟩ ?_
 iterate 19
  refine OA F1 λa D E5 hR B=>⟨_,?_,rfl⟩
  have m:=(E5.other 0 rfl).trans n;have L:=Act.eval_const a;have E7:=Act.eval_func a;obtain⟨c0,_⟩:=kA ((S6.o.below hR).k);unfold fA at c0
  revert B m L E7
  generalize a.eval=ρ;intro B m L E7;simp[Region.binds,lf,Is]at B;simp only[execOp]
  go_simp
 .refine OC F1 (λw D hb=>Holds.is (.is (.is (.is (.is (.is (.is (.is (.is (.is (.is (.is (.is (.is (.is (.is (.is (.is (.is (.cons (.cons (.is (.is .nil)) (λ_ ⟨g,a,c,E8,F0,h3⟩=>⟨g,a,c,E8,yA hb (Wb.1 F0).1 F0,h3.below hb⟩)) (λ_ ⟨a,c,E8,F0⟩=>⟨a,c,E8,F0.below hb⟩))))))))))))))))))))) λa D E5 hR B=>?_;have E8:a.eval (.tmp 225)=M V.ca j.done.length V.cc:=B ⟨18,.data⟩ (by simp) rfl;refine⟨37,#[M V.ca j.done.length V.cc],(by have E7:=Act.eval_func a;revert E8 E7;generalize a.eval=ρ;intro E8 E7;simp only[execOp];go_simp),(TL _ _ j.done D ((S6.o.below hR).r.done.ext (Ext.seenL _ _)) (by unfold maxLen;omega)).mono λ_ w3 ⟨p,he,ho,hb3⟩=>?_⟩;rw[B4.o]at ho;obtain⟨a3,c3,rfl,A9,_⟩:=SegC.of_owns ho;exact⟨_,he,⟨a3,c3,rfl,A9⟩,hb3⟩
 .refine zI F1 (λw D hb=>Holds.is (.is (.is (.is (.is (.is (.is (.is (.is (.is (.is (.is (.is (.is (.is (.is (.is (.is (.is (.cons (.cons (.is (.is .nil)) (λ_ ⟨g,a,c,E8,F0,h3⟩=>⟨g,a,c,E8,yA hb (Wb.1 F0).1 F0,h3.below hb⟩)) (λ_ ⟨a,c,E8,F0⟩=>⟨a,c,E8,F0.below hb⟩))))))))))))))))))))) λa D E5 hR B=>?_;have E8:a.eval (.tmp 211)=M V.nb j.now.data.length V.nd:=B ⟨4,.data⟩ (by simp) rfl;have F0:a.eval (.tmp 216)=M V.sa j.sealed.info.length V.sc:=B ⟨9,.data⟩ (by simp) rfl;have h3:a.eval (.tmp 221)=M V.sb j.sealed.data.length V.sd:=B ⟨14,.data⟩ (by simp) rfl;obtain⟨a3,c3,h4,A9⟩:∃a' c,a.eval (.tmp 226)=M a' (newestL j.done).length c/\SegW D a' (newestL j.done):=B ⟨19,.data⟩ (by simp) rfl;refine⟨M (J ⟨D.heap.size,0,Z⟩) 4 4,D.alloc (T #[M V.nb j.now.data.length V.nd,M V.sa j.sealed.info.length V.sc,M V.sb j.sealed.data.length V.sd,M a3 (newestL j.done).length c3] 46),(by generalize (newestL j.done).length=nn at *;revert E8 F0 h3 h4;generalize a.eval=ρ;intro E8 F0 h3 h4;simp only[execOp];go_simp),⟨_,a3,c3,rfl,Cc _ _,A9.below (qA _ _)⟩,qA _ _⟩
 .refine OA F1 λa D E5 hR B=>?_;obtain⟨g3,a3,c3,E8,_⟩:∃g a' c,a.eval (.tmp 227)=M (J ⟨g,0,Z⟩) 4 4/\D.heap[g]?=J (T #[M V.nb j.now.data.length V.nd,M V.sa j.sealed.info.length V.sc,M V.sb j.sealed.data.length V.sd,M a' (newestL j.done).length c] 46 (0,0))/\SegW D a' (newestL j.done):=B ⟨20,.data⟩ (by simp) rfl;exact⟨_,(by revert E8;generalize a.eval=ρ;intro E8;simp only[execOp];go_simp),rfl⟩
 .exact OA F1 λa D E5 hR B=>⟨_,by have L:=Act.eval_const a;revert L;generalize a.eval=ρ;intro L;simp only[execOp];go_simp,rfl⟩
 intro a W7 E5 E9 B;obtain⟨gb,ga,gc,A2,d,B7⟩:∃g a' c,a.eval (.tmp 227)=M (J ⟨g,0,Z⟩) 4 4/\W7.heap[g]?=J (T #[M V.nb j.now.data.length V.nd,M V.sa j.sealed.info.length V.sc,M V.sb j.sealed.data.length V.sd,M a' (newestL j.done).length c] 46 (0,0))/\SegW W7 a' (newestL j.done):=B 20 (by decide);have z:a.eval (.tmp 228)=H G 4:=B 21 (by decide);have A1:a.eval (.tmp 229)=H G 0:=B 22 (by decide);have U:=(E5.other 0 rfl).trans n;have F2:=(E5.other 3 rfl).trans p;have F3:=(E5.other 4 rfl).trans v4;have F4:=(E5.other 5 rfl).trans v5;have B0:=(E5.other 11 rfl).trans C6;have A8:=(E5.other 12 rfl).trans C9;obtain⟨g,q,rfl⟩:=nB a 270 (E5.size.trans F1) (E5.defers.trans u);rw[q]at A2 z A1 U F2 F3 F4 B0 A8;simp only[List.range,List.range.loop,List.map_cons,List.map_nil,A2,z,A1,U,F2,F3,F4,B0,A8];show K3 _ _;apply C0;have S7:=zA (S6.o.below E9);have K7:=zA (yA E9 l6 K6.o);have A7:=zA (yA E9 A6 C1.o);have l7:=Xb l6 E9.size;have A3:=Xb A6 E9.size;have lG:gb<W7.heap.size:=(Wb.1 d).1
 have HL:Hid (∀i,i<4->∃a c,W7.cell? ⟨gb,i,Z⟩=J (M a ([j.now.data,j.sealed.info,j.sealed.data,newestL j.done].getD i []).length c)/\SegW W7 a ([j.now.data,j.sealed.info,j.sealed.data,newestL j.done].getD i [])/\([j.now.data,j.sealed.info,j.sealed.data,newestL j.done].getD i []).length<=maxLen):=by
  have n1:=IsTx.rows (S7.o.r.now.ext (Ext.seenL _ _));have n2:=IsTx.rows (S7.o.r.sealed.ext (Ext.seenL _ _));have n3:(newestL j.done).length<=maxLen:=ac (PG _) (by unfold maxLen;decide);intro i hi
  match i,hi with
  |0,_=>exact⟨_,_,(kA d).1 0,n1.2.1,n1.2.2.2.2.1⟩
  |1,_=>exact⟨_,_,(kA d).1 1,n2.1,n2.2.2.2.1⟩
  |2,_=>exact⟨_,_,(kA d).1 2,n2.2.1,n2.2.2.2.2.1⟩
  |3,_=>exact⟨_,_,(kA d).1 3,B7,n3⟩
 clear E5 E9 B S6 K6 C1 l6 A6 A2 z A1 U F2 F3 F4 B0 A8 q C0 B4 d B7;go_wp2
 go_loopw [11,12,229] (λs o i wx=>∃k:Nat,k<=4/\i=H G k/\s=A ((rdT E3 j.now.info ([j.now.data,j.sealed.info,j.sealed.data,newestL j.done].take k)).getD ⟨#[]⟩)/\o=Y (rdT E3 j.now.info ([j.now.data,j.sealed.info,j.sealed.data,newestL j.done].take k)).isSome/\Hid (Below W7.heap.size W7 wx)) (λ_ _ i _=>4 - (intOf i).toNat)
 case atStart=>exact⟨0,Vb _,rfl,rfl,rfl,Ub _ _⟩
 case round=>
  obtain⟨k,hk,rfl,rfl,rfl,N⟩:=hrel;obtain⟨y2,_⟩:=kA (yA N.o A3 A7.o);have lg:=Xb lG N.o.size;have lz:=Xb l7 N.o.size;by_cases hk4:k<4
  rotate_left
  .have e:k=4:=by omega
   subst e;have Q:=lZ {j with acts:=j.acts+1} E3;have S8:=zA (S7.o.below N.o);have K8:=zA (yA N.o l7 K7.o);have B2:=zA (yA N.o A3 A7.o);have B6:=Xb A3 N.o.size;have m8:=S8.o.lt;dsimp only at Q;rw[show[j.now.data,j.sealed.info,j.sealed.data,newestL j.done].take 4=[j.now.data,j.sealed.info,j.sealed.data,newestL j.done] from rfl];clear S7 K7 A7 l7 A3 N HL lG
   cases hT:rdT (E3:Int) j.now.info [j.now.data,j.sealed.info,j.sealed.data,newestL j.done] with
   |some s=>
    rw[hT]at Q;have E:Hid (doJ j ⟨9,ah,(E3:Int),an,E6⟩=({j with acts:=j.acts+1},⟨0,j.role E3,s⟩)):=by rw[Hid,E.o,Q];rfl
    clear Q hT;have rr:=((kA S8.o.k).1 (26+E3)).trans (BD _ _ C4);obtain⟨y,yf⟩:=kA K8.o;go_wp2
    go_region
    go_wp2;exact Tb (by simp[results,results12,go_sem,y];try rfl) rfl ⟨by rw[E.o];try rfl,by rw[E.o];exact UJ (S8.o.replyB B5 B1 (Fc _) _ _ _)⟩
   |none=>
    rw[hT]at Q
    have C5:readE j.disk (25+(E3:Int))=0:=by
     rw[readE,Rb];rw[HJ.o.disk,Uf];simp only[QA,Bool.and_eq_true,decide_eq_true_eq];omega
    have E:Hid (doJ j ⟨9,ah,(E3:Int),an,E6⟩=({j with acts:=j.acts+1},⟨0,j.role E3,(jA j.disk (25+(E3:Int)))⟩)):=by rw[Hid,E.o,Q];dsimp only;rw[Rb C5]
    have D4:IntKind.i64.wrap (25+(E3:Int))=25+(E3:Int):=by rw[Bc];omega
    clear Q hT C5;go_wp2;rename_i K4 B8;refine(show∀A0:Act,A0=_->Code.wp prog _ _ A0 _ from λA0 E4=>?_) _ rfl;have F1:A0.tmps.size=270:=by rw[E4];rfl
    have u:A0.defers=[]:=by rw[E4]
    have n:A0.eval (.tmp 0)=C (J ⟨R,0,Z⟩):=by rw[E4];rfl
    have p:A0.eval (.tmp 3)=C (J ⟨w.heap.size,0,Z⟩):=by rw[E4];rfl
    have v4:A0.eval (.tmp 4)=C (J ⟨w.heap.size+1,0,Z⟩):=by rw[E4];rfl
    have v5:A0.eval (.tmp 5)=.func (.func 32) #[] #[]:=by rw[E4];rfl
    clear E4;refine SG (W:=wr) [Is (C (J ⟨R,0,Z⟩)),Is (C (J ⟨R,0,Z⟩)),Is (C (J ⟨R,0,Z⟩)),Is (dkR j V),Is (C (J ⟨w.heap.size,2,Z⟩)),Is (H G (E3:Int)),Is (H G (25+(E3:Int))),Is (S #[A (jA j.disk (25+(E3:Int))),H G (readE j.disk (25+(E3:Int)))]),Is (S #[A (jA j.disk (25+(E3:Int))),H G (readE j.disk (25+(E3:Int)))]),Is (A (jA j.disk (25+(E3:Int)))),Is (H G (readE j.disk (25+(E3:Int)))),Is (A (jA j.disk (25+(E3:Int))))] (by kernel_rfl) (by kernel_rfl) (by kernel_rfl) (Ub _ _).drew ⟨?_,?_,?_,?_,?_,?_,?_,?_,?_,?_,?_,?_,trivial⟩ ?_
    iterate 7
     refine OA F1 λa D E5 hR B=>⟨_,?_,rfl⟩
     have m:=(E5.other 0 rfl).trans n;have z3:=(E5.other 3 rfl).trans p;have L:=Act.eval_const a;have E7:=Act.eval_func a;obtain⟨c0,_⟩:=kA ((S8.o.below hR).k);unfold fA at c0;obtain⟨c1,_⟩:=kA (yA hR B6 B2.o)
     revert B m z3 L E7
     generalize a.eval=ρ;intro B m z3 L E7;simp[Region.binds,lf,Is]at B;simp only[execOp,dkR]
     go_simp
    .refine OC F1 (λw D hb=>Holds.is (.is (.is (.is (.is (.is (.is (.is (.is (.is (.is (.is .nil)))))))))))) λa D E5 hR B=>?_;simp[Region.binds,lf,Is]at B;refine⟨41,#[dkR j V,H G (25+(E3:Int))],?_,(OK (dkR j V) j.disk (25+(E3:Int)) D ((S8.o.below hR).r.disk.ext (Ext.seenL _ _))).mono λ_ w3 ⟨E8,F0⟩=>⟨_,E8,rfl,F0⟩⟩;have E7:=Act.eval_func a
     revert B E7
     generalize a.eval=ρ;intro B E7;simp only[execOp]
     go_simp
    iterate 4
     refine OA F1 λa D E5 hR B=>⟨_,?_,rfl⟩
     have L:=Act.eval_const a;have E7:=Act.eval_func a
     revert B L E7
     generalize a.eval=ρ;intro B L E7;simp[Region.binds,lf,Is]at B;simp only[execOp]
     go_simp
    intro a w9 E5 E9 B;have F5:a.eval (.tmp 11)=A (jA j.disk (25+(E3:Int))):=B 11 (by decide);have U:=(E5.other 0 rfl).trans n;have F2:=(E5.other 3 rfl).trans p;have F3:=(E5.other 4 rfl).trans v4;have F4:=(E5.other 5 rfl).trans v5;obtain⟨g,q,rfl⟩:=nB a 270 (E5.size.trans F1) (E5.defers.trans u);rw[q]at F5 U F2 F3 F4;simp only[List.range,List.range.loop,List.map_cons,List.map_nil,F5,U,F2,F3,F4];show K4 _ _;apply B8;have S9:=zA (S8.o.below E9);have K9:=zA (yA E9 lz K8.o);have lz:=Xb lz E9.size;have E2:=Xb B6 E9.size;have m9:=S9.o.lt;clear y2;obtain⟨y2,_⟩:=kA (yA E9 B6 B2.o);clear E5 E9 B S8 K8 B2 F5 U F2 F3 F4 q B8;have rr:=((kA S9.o.k).1 (26+E3)).trans (BD _ _ C4);obtain⟨y,yf⟩:=kA K9.o;go_wp2
    go_region
    go_wp2;exact Tb (by simp[results,results12,go_sem,y];try rfl) rfl ⟨by rw[E.o];try rfl,by rw[E.o];exact UJ (S9.o.replyB B5 B1 (Fc _) _ _ _)⟩
  have D7:(k:Int)<4:=by omega
  have D8:(0:Int)<=(k:Int):=by omega
  obtain⟨a4,c4,B9,C2,C8⟩:=HL.o k hk4;have D1:=xA N.o lG B9;have HN:=zA (YR (E3:Int) j.now.info [j.now.data,j.sealed.info,j.sealed.data,newestL j.done] (i:=k) (by simpa using hk4));have C7:=zA C2;clear B9 C2;generalize [j.now.data,j.sealed.info,j.sealed.data,newestL j.done].getD k []=l at *
  cases hT:rdT (E3:Int) j.now.info ([j.now.data,j.sealed.info,j.sealed.data,newestL j.done].take k) with
  |none=>
   rw[hT]at HN;clear hT;go_wp2_with fail;refine(YK a4 c4 l E3 _ (C7.o.below N.o) C8).mono ?_;rintro _ w9 ⟨rfl,b⟩;go_wp2
   go_roundw
   case rel=>exact⟨k+1,by omega,by go_num,by rw[HN.o];rfl,by rw[HN.o];rfl,vA N.o b⟩
   case measure=>simp[intOf];omega
  |some s=>
   rw[hT]at HN;clear hT;go_wp2
   go_roundw
   case rel=>exact⟨k+1,by omega,by go_num,by rw[HN.o];rfl,by rw[HN.o];rfl,N⟩
   case measure=>simp[intOf];omega
