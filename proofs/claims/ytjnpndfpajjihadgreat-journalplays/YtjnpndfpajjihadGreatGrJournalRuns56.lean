import Derived.Test.YtjnpndfpajjihadGreatGrJournalRuns36
set_option maxRecDepth 100000
set_option maxHeartbeats 40000000
namespace Go.Proofs.YtjnpndfpajjihadGreat
open Go.RowKit
open Value renaming int -> H,slice -> M,pointer -> C,bool -> Y,agg -> F,tuple -> S
open IntKind renaming i64 -> G
open Option renaming none -> Z,some -> J
open Go renaming World -> K,Value -> E
open Obj renaming cells -> T
open Ending renaming returned -> N
variable{W w:World}{cs:Array Value}
structure RnS (w W:World)(cs:Array Value):Prop where
 t:W.heap[w.heap.size+1]?=some (.cells cs 52 (0,0))
 r:W.heap[w.heap.size]?=some (.cells #[.int .i64 0,.slice none 0 0,.slice none 0 0,.slice none 0 0,.bool false,.int .i64 0,.bool false,.int .i64 0,.bool false,.int .i64 0] 52 (0,0))
 b:Below w.heap.size w W
theorem RnS.lt(h:RnS w W cs):w.heap.size+1<W.heap.size:=(Wb.1 h.t).1
theorem RnS.below{B:K}(h:RnS w W cs)(hb:Below W.heap.size W B):RnS w B cs:=
 ⟨yA hb h.lt h.t,yA hb (Nat.lt_of_succ_lt h.lt) h.r,vA h.b hb⟩
theorem RnS.set(h:RnS w W cs)(k:Nat)(v:E):RnS w (W.setCell ⟨w.heap.size+1,k,Z⟩ v) (cs.setIfInBounds k v):=
 ⟨zc _ _ k _ _ _ h.t,(Sc _ _ _ _ (by simp)).trans h.r,h.b.setCell (p:=⟨w.heap.size+1,k,Z⟩) (by simp) _⟩
theorem OU(B:Nat)(X:List Nat)(j:Jn)(w:K)(h:JAt w B X j)(h1:j.now.info.length*24<=140737488355328)(h2:j.now.data.length*24<=140737488355328)(m:j.now.rev.length*8<=140737488355328):
  Calls Tryz.prog 15 #[C (J ⟨B,0,Z⟩)] w λe l=>∃v,e=N v/\IsTx l v j.now/\Below w.heap.size w l:=by
 have A0:=h.lt;have A1:¬w.heap.size=B:=by omega
 obtain⟨_,V,hb,I⟩:=h;have A:=zA (IsTx.rows (I.now.ext (Ext.seenL w X)));obtain⟨x,_⟩:=kA hb;unfold rA at x;clear hb I;go_enter Tryz.func15,Tryz.ntmps15;go_wp2_with fail;refine(AJ V.na V.nc j.now.info _ (A.o.1.below (vA (qA _ _) (qA _ _))) A.o.2.2.2.1 h1).mono ?_;rintro e w1 ⟨v1,rfl,E,hb⟩;obtain⟨O,k,rfl,a,_⟩:=SegC.of_owns (TD (X:=[w.heap.size,w.heap.size+1]) E (by simp;omega));have S:=zA (RnS.mk (JB hb) (sB hb) (vA (vA (qA _ _) (qA _ _)) hb));have a:=zA a;clear E hb x;obtain⟨x,c⟩:=kA S.o.t;go_wp2_with fail;have D:=zA (S.o.set 1 (M O j.now.info.length k));have a:=zA (a.o.ext (Ext.setL (b:=w.heap.size+1) (by simp) 1 (M O j.now.info.length k)));refine(AJ V.nb V.nd j.now.data _ (A.o.2.1.below D.o.b) A.o.2.2.2.2.1 h2).mono ?_;rintro e w2 ⟨v2,rfl,E,hb⟩;obtain⟨L,d,rfl,F,_⟩:=SegC.of_owns (TD (X:=[w.heap.size,w.heap.size+1]) E (by have:=D.o.lt;simp at this|-;omega));have a:=zA (a.o.ext (Ext.freshL hb));have F:=zA F;have S:=zA (D.o.below hb);clear E hb x c;obtain⟨x,c⟩:=kA S.o.t;simp only[List.setIfInBounds_toArray,List.set_cons_succ,List.set_cons_zero]at x;go_wp2_with fail;have D:=zA (S.o.set 2 (M L j.now.data.length d));have a:=zA (a.o.ext (Ext.setL (b:=w.heap.size+1) (by simp) 2 (M L j.now.data.length d)));have F:=zA (F.o.ext (Ext.setL (b:=w.heap.size+1) (by simp) 2 (M L j.now.data.length d)));refine(zR V.ne V.nf j.now.rev _ (A.o.2.2.1.below D.o.b) A.o.2.2.2.2.2 m).mono ?_;rintro e w3 ⟨v3,rfl,E,hb⟩;obtain⟨R,Q,rfl,i,_⟩:=SegI.of_owns (TD (X:=[w.heap.size,w.heap.size+1]) E (by have:=D.o.lt;simp at this|-;omega));have a:=zA (a.o.ext (Ext.freshL hb));have F:=zA (F.o.ext (Ext.freshL hb));have i:=zA i;have S:=zA (D.o.below hb);clear E hb x c D;obtain⟨x,c⟩:=kA S.o.t;obtain⟨y,yf⟩:=kA S.o.r;simp only[List.setIfInBounds_toArray,List.set_cons_succ,List.set_cons_zero]at x;go_wp2;refine Tb (by simp[results,Tryz.results15,go_sem,y]) rfl ⟨_,rfl,⟨O,k,L,d,R,Q,rfl,?_,?_,?_,A.o.2.2.2⟩,?_⟩
 .refine SegW.ext ?_ (Ext.seenL _ [w.heap.size,w.heap.size+1])
  iterate 11 refine SegW.ext ?_ (Ext.setL (by simp) _ _)
  exact a.o
 .refine SegW.ext ?_ (Ext.seenL _ [w.heap.size,w.heap.size+1])
  iterate 11 refine SegW.ext ?_ (Ext.setL (by simp) _ _)
  exact F.o
 .refine SegI.ext ?_ (Ext.seenL _ [w.heap.size,w.heap.size+1])
  iterate 11 refine SegI.ext ?_ (Ext.setL (by simp) _ _)
  exact i.o
 iterate 11 refine Zb ?_ (by simp) _
 exact S.o.b
open Go.Proofs.Tryz
theorem FX(B:Nat)(X:List Nat)(j:Jn)(w:K)(h:JAt w B X j)(B1:j.disk.safe.length*16<=140737488355328)(B2:j.disk.wr.length*24<=140737488355328):
  Calls prog 17 #[C (J ⟨B,0,Z⟩)] w λe w'=>∃v,e=N v/\IsDk w' v j.disk/\Below w.heap.size w w':=by
 have A1:=h.lt;have A2:B≠w.heap.size:=by omega
 obtain⟨V,I⟩:=h.js1 (T #[M Z 0 0,M Z 0 0] 45);have I:=zA I;have m:=zA (qA w (T #[M Z 0 0,M Z 0 0] 45));obtain⟨_,_,_,_,x,A6,A5,z,l2⟩:=I.o.r.disk.ext (Ext.seenL _ _);simp only[dkR,Value.agg.injEq,Array.mk.injEq,List.cons.injEq,Value.slice.injEq,and_true]at x;obtain⟨⟨s, -, -⟩,p, -, -⟩:=x;rw[<-s]at A6;rw[<-p]at A5;have L:=zA (And.intro A6 (And.intro A5 (And.intro z l2)));clear A6 A5 z l2 s p;clear h;go_enter func17,ntmps17;go_wp2;rename_i KK n;refine(show∀W,W=_->Code.wp prog _ _ _ W from λW5 hW=>?_) _ rfl;rw[<-hW]at I L m;clear hW;refine(show∀A0:Act,A0=_->Code.wp prog _ _ A0 _ from λA0 A4=>?_) _ rfl;have A7:A0.tmps.size=19:=by rw[A4];rfl
 have l:A0.defers=[]:=by rw[A4]
 have v0:A0.eval (.tmp 0)=C (J ⟨B,0,Z⟩):=by rw[A4];rfl
 have v2:A0.eval (.tmp 2)=C (J ⟨w.heap.size,0,Z⟩):=by rw[A4];rfl
 clear A4;have q:ZC [Is (C (J ⟨B,0,Z⟩)),Is (C (J ⟨B,0,Z⟩)),Is (C (J ⟨B,1,Z⟩)),Is (C (J ⟨B,1,Z⟩)),Is (M V.da j.disk.safe.length V.dc),λv w'=>∃u c,v=M u j.disk.safe.length c/\SegS (aA w' [w.heap.size]) u j.disk.safe,Is (C (J ⟨B,0,Z⟩)),Is (C (J ⟨B,0,Z⟩)),Is (C (J ⟨B,1,Z⟩)),Is (C (J ⟨B,2,Z⟩)),Is (M V.db j.disk.wr.length V.dd),λv w'=>∃u c,v=M u j.disk.wr.length c/\SegW (aA w' [w.heap.size]) u j.disk.wr,λv w'=>∃u c t d,v=F #[M u j.disk.safe.length c,M t j.disk.wr.length d]/\SegS (aA w' [w.heap.size]) u j.disk.safe/\SegW (aA w' [w.heap.size]) t j.disk.wr]:=λw1 Y hb=>Holds.is (.is (.is (.is (.is (.cons (.is (.is (.is (.is (.is (.cons (.cons .nil (λ_ ⟨a,c,b,d,e,h,k⟩=>⟨a,c,b,d,e,h.ext (Ext.freshL hb),k.ext (Ext.freshL hb)⟩)) (λ_ ⟨a,c,e,h⟩=>⟨a,c,e,h.ext (Ext.freshL hb)⟩))))))) (λ_ ⟨a,c,e,h⟩=>⟨a,c,e,h.ext (Ext.freshL hb)⟩))))));refine tG (W:=W5) 13 [Is (C (J ⟨B,0,Z⟩)),Is (C (J ⟨B,0,Z⟩)),Is (C (J ⟨B,1,Z⟩)),Is (C (J ⟨B,1,Z⟩)),Is (M V.da j.disk.safe.length V.dc),λv w'=>∃u c,v=M u j.disk.safe.length c/\SegS (aA w' [w.heap.size]) u j.disk.safe,Is (C (J ⟨B,0,Z⟩)),Is (C (J ⟨B,0,Z⟩)),Is (C (J ⟨B,1,Z⟩)),Is (C (J ⟨B,2,Z⟩)),Is (M V.db j.disk.wr.length V.dd),λv w'=>∃u c,v=M u j.disk.wr.length c/\SegW (aA w' [w.heap.size]) u j.disk.wr,λv w'=>∃u c t d,v=F #[M u j.disk.safe.length c,M t j.disk.wr.length d]/\SegS (aA w' [w.heap.size]) u j.disk.safe/\SegW (aA w' [w.heap.size]) t j.disk.wr] (by kernel_rfl) (by kernel_rfl) (by kernel_rfl) (by kernel_rfl) (Ub _ _).drew ⟨?_,?_,?_,?_,?_,?_,?_,?_,?_,?_,?_,?_,?_,trivial⟩ ?_
 iterate 5
  refine OA A7 λa w' E A3 A=>⟨_,?_,rfl⟩
  have Q:=(E.other 0 rfl).trans v0;have A9:=Act.eval_const a;have D:=Act.eval_func a;obtain⟨c0,_⟩:=kA ((I.o.below A3).k);unfold rA at c0
  revert A Q A9 D
  generalize a.eval=ρ;intro A Q A9 D;simp[Region.binds,lf,Is]at A;simp only[execOp]
  go_simp
 .refine OC A7 q λa w' E A3 A=>⟨46,#[M V.da j.disk.safe.length V.dc],?_,(dO _ _ j.disk.safe _ (L.o.1.below A3) L.o.2.2.1 B1).mono λ_ w3 ⟨v3,he,ho,hb3⟩=>?_⟩
  .simp[Region.binds,lf,Is]at A;have D:=Act.eval_func a
   revert A D
   generalize a.eval=ρ;intro A D;simp only[execOp]
   go_simp
  obtain⟨B0,c3,rfl,O,_⟩:=SegS.of_owns (TD (X:=[w.heap.size]) ho (by have:=I.o.b0.2.2;have:=A3.size;simp;omega));exact⟨_,he,⟨B0,c3,rfl,O⟩,hb3⟩
 iterate 5
  refine OA A7 λa w' E A3 A=>⟨_,?_,rfl⟩
  have Q:=(E.other 0 rfl).trans v0;have A9:=Act.eval_const a;have D:=Act.eval_func a;obtain⟨c0,_⟩:=kA ((I.o.below A3).k);unfold rA at c0
  revert A Q A9 D
  generalize a.eval=ρ;intro A Q A9 D;simp[Region.binds,lf,Is]at A;simp only[execOp]
  go_simp
 .refine OC A7 q λa w' E A3 A=>⟨47,#[M V.db j.disk.wr.length V.dd],?_,(mM _ _ j.disk.wr _ (L.o.2.1.below A3) L.o.2.2.2 B2).mono λ_ w3 ⟨v3,he,ho,hb3⟩=>?_⟩
  .simp[Region.binds,lf,Is]at A;have D:=Act.eval_func a
   revert A D
   generalize a.eval=ρ;intro A D;simp only[execOp]
   go_simp
  obtain⟨B0,c3,rfl,O,_⟩:=SegW.of_owns (TD (X:=[w.heap.size]) ho (by have:=I.o.b0.2.2;have:=A3.size;simp;omega));exact⟨_,he,⟨B0,c3,rfl,O⟩,hb3⟩
 .refine OA A7 λa w' E A3 A=>?_;obtain⟨S,c1,A8,A6⟩:∃u c,a.eval (.tmp 11)=M u j.disk.safe.length c/\SegS (aA w' [w.heap.size]) u j.disk.safe:=A ⟨5,.data⟩ (by simp) rfl;obtain⟨U,c2,i,A5⟩:∃u c,a.eval (.tmp 17)=M u j.disk.wr.length c/\SegW (aA w' [w.heap.size]) u j.disk.wr:=A ⟨11,.data⟩ (by simp) rfl;refine⟨_,?_,⟨S,c1,U,c2,rfl,A6,A5⟩⟩;clear A
  revert A8 i
  generalize a.eval=ρ;intro A8 i;simp only[execOp]
  go_simp
 intro a Y E A3 A;obtain⟨S,c1,U,c2,A8,A6,A5⟩:∃u c t d,a.eval (.tmp 18)=F #[M u j.disk.safe.length c,M t j.disk.wr.length d]/\SegS (aA Y [w.heap.size]) u j.disk.safe/\SegW (aA Y [w.heap.size]) t j.disk.wr:=A 12 (by decide);have R:=(E.other 2 rfl).trans v2;have S2:=zA (I.o.below A3);obtain⟨y,yf⟩:=kA S2.o.b0.2.1;refine⟨yB Y w.heap.size [(0,M S j.disk.safe.length c1),(1,M U j.disk.wr.length c2)],?_,?_⟩
 .clear A;dsimp only[yB]
  revert A8 R
  generalize a.eval=ρ;intro A8 R;simp only[execOp]
  go_simp
 obtain⟨g,hg,rfl⟩:=nB a 19 (E.size.trans A7) (E.defers.trans l);rw[hg]at R;simp only[List.range,List.range.loop,List.map_cons,List.map_nil,R];show KK _ _;apply n;dsimp only[yB];go_wp2;refine Tb (by simp[results,results17,go_sem,y]) rfl ⟨_,rfl,⟨S,c1,U,c2,rfl,((A6.ext (Ext.setL (by simp) _ _)).ext (Ext.setL (by simp) _ _)).ext (Ext.seenL _ _),((A5.ext (Ext.setL (by simp) _ _)).ext (Ext.setL (by simp) _ _)).ext (Ext.seenL _ _),L.o.2.2.1,L.o.2.2.2⟩,?_⟩
 repeat refine Zb ?_ (by simp) _
 exact vA m.o A3
theorem Oa(B:Nat)(X:List Nat)(j:Jn)(w:K)(h:JAt w B X j):
  Calls Tryz.prog 13 #[C (J ⟨B,0,Z⟩)] w λe D=>e=N (S #[F #[H G j.rh,H G j.ru],H G j.last,Y j.down])/\Below w.heap.size w D:=by
 have A1:=h.lt;obtain⟨_,V,A,_⟩:=h;obtain⟨x,_⟩:=kA A;unfold rA at x;have A2:¬B=w.heap.size:=by omega
 have A0:¬w.heap.size=B:=by omega
 clear A;go_enter Tryz.func13,Tryz.ntmps13;go_wp2
 go_region
 all_goals
  go_wp2;refine Tb (by simp[results,Tryz.results13,go_sem]) rfl ⟨rfl,?_⟩
  repeat first|refine Zb ?_ (by simp) _|refine Below.drew ?_
  exact qA _ _
