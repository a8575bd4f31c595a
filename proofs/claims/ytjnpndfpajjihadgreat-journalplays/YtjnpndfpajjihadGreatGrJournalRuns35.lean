import Derived.Test.YtjnpndfpajjihadGreatGrJournalRuns34
import Derived.Test.YtjnpndfpajjihadGreatGrJournalRuns4
set_option maxRecDepth 100000
set_option maxHeartbeats 40000000
namespace Go.Proofs.YtjnpndfpajjihadGreat
open Go.RowKit
open Option renaming none -> Z,some -> J
open Bool renaming true -> I
open Go renaming World -> K
open Value renaming pointer -> C,agg -> F,tuple -> S
open Ending renaming returned -> N
variable{X:List Nat}{c e0 e1 id j m:Nat}{o0 o1 oa oc oe om os:Oper}{u u' x:Value}{w w' w0:World}
def QOr (P:Program)(o:Oper)(a:Act)(w:K)(v:Value):Prop:=(execOp a.eval o).run P w=.ok (.value v) w\/∃f args,(execOp a.eval o).run P w=.ok (.enter f args) w/\Calls P f args w λr w'=>r=N v/\Below w.heap.size w w'
section
variable {P:Program} {ops:Array Oper} {Q:Exit->Act->World->Prop} {a0:Act} {W:World} {X:List Nat} {g:Value->World->Prop} {E:Value} {ty:TypeId} {z n k b:Nat} {V:List Value}
def EC (X:List Nat)(g:Value->K->Prop)(u v:Value)(w:K):Prop:=g v (aA w X)/\∀T,u=C (J ⟨T,0,Z⟩)->g v (aA w (T::X))
def bxPsi (k:Nat)(V:List Value)(E:Value)(X:List Nat)(g:Value->K->Prop)(ty:TypeId)(i:Nat)(v u:Value)(w:K):Prop:=
 if i<k then v=V.getD i undef else match i - k with
 |0|1=>∃x,v=S #[x,E]/\EC X g u x w
 |2=>EC X g u v w
 |3=>v=E
 |4=>∃T,v=C (J ⟨T,0,Z⟩)
 |5=>∃T B,v=C (J ⟨T,0,Z⟩)/\w.heap[T]?=J (.cells B ty (0,0))/\g (F B) (aA w (T::X))
 |_=>True
def bxR (W:K)(z:Nat)(ty:TypeId)(u:Value)(w:K):Prop:=Below W.heap.size W w/\(u=undef\/∃T,u=C (J ⟨T,0,Z⟩)/\W.heap.size<=T/\T<w.heap.size/\∃B:Array Value,B.size=z/\w.heap[T]?=J (.cells B ty (0,0)))
theorem bxR.below(h:bxR W z ty u w)(hb:Below w.heap.size w w'):bxR W z ty u w':=
 ⟨vA h.1 hb,h.2.imp_right fun⟨T,e,h1,h2,cs,h3,h4⟩=>⟨T,e,h1,Xb h2 hb.size,cs,h3,yA hb h2 h4⟩⟩
theorem bxPsi.keep(h:bxPsi k V E X g ty j x u w)(D:∀v,EC X g u v w->EC X g u' v w')(h5:j≠k+5\/∀T B,w.heap[T]?=J (.cells B ty (0,0))->g (F B) (aA w (T::X))->w'.heap[T]?=J (.cells B ty (0,0))/\g (F B) (aA w' (T::X))):bxPsi k V E X g ty j x u' w':=by
 unfold bxPsi at *;split at h
 .rename_i A;rw[Rb A];exact h
 .rename_i A;rw[Qb A];generalize hm:j - k=m at *
  match m,h with
  |0,⟨y,e,h⟩=>exact⟨y,e,D _ h⟩
  |1,⟨y,e,h⟩=>exact⟨y,e,D _ h⟩
  |2,h=>exact D _ h
  |3,h=>exact h
  |4,h=>exact h
  |5,⟨T,B,e,h1,h2⟩=>
   rcases h5 with h5|h5
   .omega
   .exact⟨T,B,e,h5 T B h1 h2⟩
  |_+6,_=>trivial
theorem XK{F:Nat->Oper->Prop}:∀(l:List Oper) (k:Nat),(∀i o,l[i]?=J o->F (k+i) o)->AllOps F k l
 |[],_,_=>trivial
 |x::l,k,h=>⟨h 0 x rfl,XK l (k+1) λi o B=>by rw[show k+1+i=k+(i+1) by omega];exact h (i+1) o B⟩
theorem UC{i d:Nat}{o:Oper}(h:ops[i]?=J o)(hd:o.dst=J d):(ops.toList.map (·.dst.getD b)).getD i 0=d:=by
 rw[Mg,Ld,Jf,h,Ng,Gf,hd];rfl
theorem ButL.setRowB{base:Nat}{B:K}(h:ButL X base w B){b:Nat}(hb:b∈X\/base<=b)(R:Array Value):ButL X base w (B.setRow b R):=
 ⟨h.os,h.tape,h.output,by simpa[World.setRow] using h.size,λj L D=>(Ff _ _ _ _ (by intro e;subst e;rcases hb with h1|h1;exact D h1;omega)).trans (h.block j L D)⟩
theorem zK{T:Nat}(h:T∈X)(w:K)(B:Array Value):Ext (aA w X) (aA (w.setRow T B) X):=Ext.butL ((ButL.refl X _ w).setRowB (.inl h) B)
theorem YE(k b:Nat)(V:List Value)(E:Value)(X:List Nat)(g:Value->K->Prop)(ty:TypeId)(zs:Array Value){e:Nat}
  (hm:P.follows .mixedOrders=I) (hn:a0.tmps.size=n) (D6:a0.eval (.tmp b)=undef) (hW:Below W.heap.size W {w0 with drawn:=w0.drawn+1})
  (D7:pD ops (ops.toList.map (·.dst.getD b))=I)
  (hback:(List.range ops.size).all (λi=>((ops[i]?).map (·.after.all λe=> !Region.binds .any e||decide (e.on<i))).getD I)=I) (D2:lE ops (k+6)=I)
  (hq:AllOps (λi o=>o.guard=Z/\(∃d,o.dst=J d/\d≠b/\d<n)/\∀a w,FrOf ops a0 a->Below W.heap.size W w->(∀e∈o.after.toList,Region.binds .any e=I->a.eval (.tmp ((ops.toList.map (·.dst.getD b)).getD e.on 0))=V.getD e.on undef)->QOr P o a w (V.getD i undef)) 0 (ops.toList.take k))
  (gx:∀v w w',Ext w w'->g v w->g v w') (gs:∀v w,g v w->∃cs,v=F cs/\cs.size=zs.size/\cs.all (·.oneCell')=I)
  (hc:∀a w,FrOf ops a0 a->Below W.heap.size W w->(∀e∈oc.after.toList,Region.binds .any e=I->a.eval (.tmp ((ops.toList.map (·.dst.getD b)).getD e.on 0))=V.getD e.on undef)->∃f args,(execOp a.eval oc).run P w=.ok (.enter f args) w/\Calls P f args w λr w'=>∃v,r=N (S #[v,E])/\Below w.heap.size w w'/\∀Y,(∀y∈Y,y∈X\/W.heap.size<=y/\y<w.heap.size)->g v (aA w' Y))
  (D3:∀a w T cs,FrOf ops a0 a->Below W.heap.size W w->a.eval (.tmp b)=C (J ⟨T,0,Z⟩)->a.eval (.tmp e)=E->W.heap.size<=T->w.heap[T]?=J (.cells cs ty (0,0))->g (F cs) (aA w (T::X))->Q .normal a w)
  (ra:∀(ρ:Operand->Value) (w:K),(execOp ρ oa).run P w=.ok (.value (C (J ⟨w.heap.size,0,Z⟩))) (w.alloc (.cells zs ty)))
  (rm:∀(ρ:Operand->Value) (w:K) (v:Value),ρ (.tmp c)=v->(execOp ρ om).run P w=.ok (.value v) w)
  (r0:∀(ρ:Operand->Value) (w:K) (v:Value),ρ (.tmp m)=S #[v,E]->(execOp ρ o0).run P w=.ok (.value v) w)
  (r1:∀(ρ:Operand->Value) (w:K) (v:Value),ρ (.tmp m)=S #[v,E]->(execOp ρ o1).run P w=.ok (.value E) w)
  (re:∀(ρ:Operand->Value) (w:K),ρ (.tmp e1)=E->(execOp ρ oe).run P w=.ok (.value E) w)
  (hi:(P.info? ty).map (·.size)=J zs.size:=by rfl)
  (D1:ops.toList.drop k=[oc,om,o0,o1,oa,os,oe]:=by rfl)
  (gc:oc.guard=Z/\om.guard=Z/\o0.guard=Z/\o1.guard=Z/\oa.guard=Z/\os.guard=Z/\oe.guard=Z:=by exact⟨rfl,rfl,rfl,rfl,rfl,rfl,rfl⟩)
  (dc:oc.dst=J c/\om.dst=J m/\o0.dst=J e0/\o1.dst=J e1/\oa.dst=J b/\os.dst=Z/\oe.dst=J e:=by exact⟨rfl,rfl,rfl,rfl,rfl,rfl,rfl⟩)
  (dn:c<n/\m<n/\e0<n/\e1<n/\b<n/\e<n:=by decide) (db:c≠b/\m≠b/\e0≠b/\e1≠b/\e≠b:=by decide)
  (D8:os.op=.store ty (.tmp b) (.tmp e0):=by rfl)
  (ed:(⟨k,.data⟩:Edge)∈om.after.toList/\(⟨k+1,.data⟩:Edge)∈o0.after.toList/\(⟨k+1,.data⟩:Edge)∈o1.after.toList/\(⟨k+4,.data⟩:Edge)∈os.after.toList/\(⟨k+2,.data⟩:Edge)∈os.after.toList:=by simp)
  (eq:∀e∈oc.after.toList,Region.binds .any e=I->e.on<k:=by decide):
  (Code.region id ops I).wp P Q a0 w0:=by
 have A8:ops.size=k+7:=by
  have:=congrArg List.length D1;simp only[List.length_drop,Array.length_toList,List.length_cons,List.length_nil]at this;omega
 have at':∀i,ops[k+i]?=[oc,om,o0,o1,oa,os,oe][i]?:=λi=>by rw[<-D1,ze,Jf]
 have l:ops[k]?=J oc:=at' 0;have p:ops[k+1]?=J om:=at' 1;have D5:ops[k+2]?=J o0:=at' 2;have z:ops[k+3]?=J o1:=at' 3;have q:ops[k+4]?=J oa:=at' 4;have U:ops[k+5]?=J os:=at' 5;have A5:ops[k+6]?=J oe:=at' 6;obtain⟨g1,g2,g3,g4,g5,g6,g7⟩:=gc;obtain⟨d1,d2,d3,d4,d5,d6,d7⟩:=dc;obtain⟨n1,n2,n3,n4,n5,n7⟩:=dn;obtain⟨b1,b2,b3,b4,b7⟩:=db;obtain⟨B5,B3,B4,B2,A9⟩:=ed;have s:∀j,Region.binds .any ⟨j,.data⟩=I:=λ_=>rfl;have s0:(ops.toList.map (·.dst.getD b)).getD k 0=c:=UC l d1;have s1:(ops.toList.map (·.dst.getD b)).getD (k+1) 0=m:=UC p d2;have s2:(ops.toList.map (·.dst.getD b)).getD (k+2) 0=e0:=UC D5 d3;have s3:(ops.toList.map (·.dst.getD b)).getD (k+3) 0=e1:=UC z d4;have s4:(ops.toList.map (·.dst.getD b)).getD (k+4) 0=b:=UC q d5
 have s5:(ops.toList.map (·.dst.getD b)).getD (k+5) 0=b:=by
  rw[Mg,Ld,Jf,U,Ng,Gf,d6];rfl
 have p0:∀v u w,bxPsi k V E X g ty k v u w=∃x,v=S #[x,E]/\EC X g u x w:=λv u w=>by simp[bxPsi]
 have p1:∀v u w,bxPsi k V E X g ty (k+1) v u w=∃x,v=S #[x,E]/\EC X g u x w:=λv u w=>by rw[bxPsi,Qb (by omega),Vd];rfl
 have p2:∀v u w,bxPsi k V E X g ty (k+2) v u w=EC X g u v w:=λv u w=>by rw[bxPsi,Qb (by omega),Vd];rfl
 have p3:∀v u w,bxPsi k V E X g ty (k+3) v u w=(v=E):=λv u w=>by rw[bxPsi,Qb (by omega),Vd];rfl
 have p4:∀v u w,bxPsi k V E X g ty (k+4) v u w=∃T,v=C (J ⟨T,0,Z⟩):=λv u w=>by rw[bxPsi,Qb (by omega),Vd];rfl
 have p5:∀v u w,bxPsi k V E X g ty (k+5) v u w=∃T cs,v=C (J ⟨T,0,Z⟩)/\w.heap[T]?=J (.cells cs ty (0,0))/\g (F cs) (aA w (T::X)):=λv u w=>by rw[bxPsi,Qb (by omega),Vd];rfl
 have pq:∀i v u w,i<k->bxPsi k V E X g ty i v u w=(v=V.getD i undef):=λi v u w h=>by simp[bxPsi,h]
 have quiet:∀{i d:Nat} {o:Oper} {a:Act} {w:K} {v:Value},ops[i]?=J o->o.guard=Z->o.dst=J d->d≠b->d<n->FrOf ops a0 a->bxR W zs.size ty (a.eval (.tmp b)) w->(execOp a.eval o).run P w=.ok (.value v) w->bxPsi k V E X g ty i v (a.eval (.tmp b)) w->
   wpOp P ops Q i (λa' w'=>∃v,a'=a.put o.dst v/\bxR W zs.size ty (a'.eval (.tmp b)) w'/\bxPsi k V E X g ty i (a'.eval (.tmp ((ops.toList.map (·.dst.getD b)).getD i 0))) (a'.eval (.tmp b)) w'/\∀j x,j≠i->bxPsi k V E X g ty j x (a.eval (.tmp b)) w->bxPsi k V E X g ty j x (a'.eval (.tmp b)) w') a w:=by
  intro i d o a w v D A C5 C7 C9 C4 C3 hrun hv;refine mC v D A hrun ⟨v,rfl,?_⟩;rw[UC D C5,C5,bB C4 hn C9,Act.eval_put_ne _ _ _ _ C7];exact⟨C3,hv,λ_ _ _ h=>h⟩
 have A7:∀i o,ops[i]?=J o->i<k+6->SK P ops Q a0 b (bxR W zs.size ty) (ops.toList.map (·.dst.getD b)) (bxPsi k V E X g ty) i o:=by
  intro i o B C2 a w C4 C3 L;by_cases D:i<k
  .have A:=hq.get _ _ i o (by rw[be D];simpa using B);rw[Dc]at A;obtain⟨C5,⟨d,C7,C9,h6⟩,h7⟩:=A
   rcases h7 a w C4 C3.1 λe he C8=>(by
    have h8:=Zc.1 hback i (by simp;omega);simp only[B,Option.map_some,Option.getD_some]at h8;have h9:=(Hf.1 h8) e (by simpa using he);rw[C8,If,vf]at h9;have C1:=ye h9;have:=L e he C8;rw[pq _ _ _ _ (by omega)]at this
    exact this) with h7|⟨f,args,hrun,A0⟩
   .exact quiet B C5 C7 C9 h6 C4 C3 h7 (by rw[pq _ _ _ _ D])
   .refine cE f args B C5 hrun _ A0 ?_;rintro r w' ⟨rfl,hb⟩;refine⟨_,rfl,_,rfl,?_⟩;rw[UC B C7,C7,bB C4 hn h6,Act.eval_put_ne _ _ _ _ C9,pq _ _ _ _ D];exact⟨C3.below hb,rfl,λj x _ h=>h.keep (λv h=>⟨gx _ _ _ (Ext.freshL hb) h.1,λT e=>gx _ _ _ (Ext.freshL hb) (h.2 T e)⟩) (.inr λT cs D A=>⟨yA hb (Wb.1 D).1 D,gx _ _ _ (Ext.freshL hb) A⟩)⟩
  have B7:i=k\/i=k+1\/i=k+2\/i=k+3\/i=k+4\/i=k+5:=by omega
  rcases B7 with rfl|rfl|rfl|rfl|rfl|rfl
  .rw[l]at B;cases B
   obtain⟨f,args,hrun,A0⟩:=hc a w C4 C3.1 λe he C8=>by
    have:=L e he C8;rw[pq _ _ _ _ (eq e he C8)]at this;exact this
   refine cE f args l g1 hrun _ A0 ?_;rintro r w' ⟨v,rfl,hb,hg⟩;refine⟨_,rfl,_,rfl,?_⟩;rw[s0,d1,bB C4 hn n1,Act.eval_put_ne _ _ _ _ b1,p0];refine⟨C3.below hb,⟨v,rfl,hg X λy hy=>.inl hy,λT e=>hg _ λy hy=>?_⟩,λj x _ h=>h.keep (λv h=>⟨gx _ _ _ (Ext.freshL hb) h.1,λT e=>gx _ _ _ (Ext.freshL hb) (h.2 T e)⟩) (.inr λT cs D A=>⟨yA hb (Wb.1 D).1 D,gx _ _ _ (Ext.freshL hb) A⟩)⟩;rcases Xc.1 hy with rfl|hy
   .rcases C3.2 with h0|⟨T',e',C5,C7,_⟩
    .rw[h0]at e;cases e
    .rw[e']at e;cases e;exact .inr ⟨C5,C7⟩
   .exact .inl hy
  .rw[p]at B;cases B;have A:=L _ B5 (s _);rw[s0,p0]at A;obtain⟨x,M,R⟩:=A;exact quiet p g2 d2 b2 n2 C4 C3 (rm _ _ _ M) (by rw[p1];exact⟨x,rfl,R⟩)
  .rw[D5]at B;cases B;have A:=L _ B3 (s _);rw[s1,p1]at A;obtain⟨x,M,R⟩:=A;exact quiet D5 g3 d3 b3 n3 C4 C3 (r0 _ _ _ M) (by rw[p2];exact R)
  .rw[z]at B;cases B;have A:=L _ B4 (s _);rw[s1,p1]at A;obtain⟨x,M,R⟩:=A;exact quiet z g4 d4 b4 n4 C4 C3 (r1 _ _ _ M) (by rw[p3])
  .rw[q]at B;cases B;have hb:=qA w (.cells zs ty);refine bH _ q g5 (ra _ _) ⟨_,rfl,?_⟩;rw[s4,d5,bB C4 hn n5,p4];exact⟨⟨vA C3.1 hb,.inr ⟨_,rfl,C3.1.size,by simp,zs,rfl,Cc _ _⟩⟩,⟨_,rfl⟩,λj x _ h=>h.keep (λv h=>⟨gx _ _ _ (Ext.freshL hb) h.1,λT e=>by cases e;exact gx _ _ _ (Ext.newL hb (Sb _)) h.1⟩) (.inr λT cs D A=>⟨yA hb (Wb.1 D).1 D,gx _ _ _ (Ext.freshL hb) A⟩)⟩
  .rw[U]at B;cases B;have A:=L _ B2 (s _);have C5:=L _ A9 (s _);rw[s4,p4]at A;rw[s2,p2]at C5;obtain⟨T,C6⟩:=A
   have B0:W.heap.size<=T/\T<w.heap.size/\∃cs:Array Value,cs.size=zs.size/\w.heap[T]?=J (.cells cs ty (0,0)):=by
    rcases C3.2 with h0|⟨T',e',C7⟩
    .rw[h0]at C6;cases C6
    .rw[e']at C6;cases C6;exact C7
   obtain⟨D4,B9,old,C0,A6⟩:=B0;obtain⟨cs,hv,A2,B1⟩:=gs _ _ C5.1;have A4:=C5.2 T C6;rw[hv]at A4;have O:(w.setRow T cs).heap[T]?=J (.cells cs ty (0,0)):=Oe w T old cs ty _ A6;refine sM ty (.tmp b) (.tmp e0) T cs U g6 D8 C6 hv ty old A6 (by rw[hi,A2]) (by omega) B1 ⟨_,rfl,?_⟩;rw[s5,d6,p5];show bxR W zs.size ty (a.eval (.tmp b)) _/\(∃T' cs,a.eval (.tmp b)=_/\_)/\∀j x,j≠k+5->bxPsi k V E X g ty j x (a.eval (.tmp b)) w->bxPsi k V E X g ty j x (a.eval (.tmp b)) (w.setRow T cs);rw[C6];have M:=zK (T:=T) (X:=T::X) (by simp) w cs;exact⟨⟨(((ButL.of_below (X:=[]) C3.1).setRowB (.inr D4) cs)).below,.inr ⟨T,rfl,D4,(Wb.1 O).1,cs,A2,O⟩⟩,⟨T,cs,rfl,O,gx _ _ _ M A4⟩,λj x hj h=>h.keep (λv h=>⟨gx _ _ _ (Ext.lessL T) (gx _ _ _ M (h.2 T rfl)),λT' e=>by cases e;exact gx _ _ _ M (h.2 T rfl)⟩) (.inl hj)⟩
 refine YL (k+6) b (bxR W zs.size ty) (ops.toList.map (·.dst.getD b)) (bxPsi k V E X g ty) hm D7 hback D2 (by omega) ⟨hW,.inl D6⟩ (XK _ _ λi o B=>by
  rw[Dc]
  have A3:i<k+6:=by
   have:=(gd.1 B).1;simp at this;omega
  rw[be A3]at B
  exact A7 i o (by simpa using B) A3) ?_
 intro a w C4 C3 L;have C5:=L (k+3) (by omega);have C9:=L (k+5) (by omega);rw[s3,p3]at C5;rw[s5,p5]at C9;obtain⟨T,cs,C6,B8,B6⟩:=C9
 have D4:W.heap.size<=T:=by
  rcases C3.2 with h0|⟨T',e',C7,_⟩
  .rw[h0]at C6;cases C6
  .rw[e']at C6;cases C6;exact C7
 have hr:(List.range ops.size).drop (k+6)=[k+6]:=by rw[A8,ce,bg (by simp),Gd (by simp)];rfl
 rw[hr,Zd];refine mC E A5 g7 (re _ _ C5) ?_;have A1:=C4.put A5 E;rw[d7]at A1|-;exact D3 _ w T cs A1 C3.1 (by rw[Act.eval_put_ne _ _ _ _ b7];exact C6) (bB C4 hn n7) D4 B8 B6
end
section
variable {P:Program} {ops:Array Oper} {Q:Exit->Act->World->Prop} {a0:Act} {W:World} {X:List Nat} {g:Value->World->Prop} {E:Value} {ty:TypeId} {z n k b:Nat} {V:List Value} {xs:Array Value}
def bx3Psi (k:Nat)(V:List Value)(E:Value)(X:List Nat)(g:Value->K->Prop)(ty:TypeId)(xs:Array Value)(i:Nat)(v u:Value)(w:K):Prop:=
 if i<k then v=V.getD i undef else match i - k with
 |0|1=>∃x,v=S #[F xs,x,E]/\EC X g u x w
 |2=>v=F xs
 |3=>EC X g u v w
 |4=>v=E
 |5=>∃T,v=C (J ⟨T,0,Z⟩)
 |6=>∃T,v=C (J ⟨T,0,Z⟩)/\w.heap[T]?=J (.cells xs ty (0,0))
 |7=>EC X g u v w
 |_=>True
theorem bx3Psi.keep(h:bx3Psi k V E X g ty xs j x u w)(B:∀v,EC X g u v w->EC X g u' v w')(h5:j≠k+6\/∀T:Nat,w.heap[T]?=J (.cells xs ty (0,0))->w'.heap[T]?=J (.cells xs ty (0,0))):bx3Psi k V E X g ty xs j x u' w':=by
 unfold bx3Psi at *;split at h
 .rename_i A;rw[Rb A];exact h
 .rename_i A;rw[Qb A];generalize hm:j - k=m at *
  match m,h with
  |0,⟨y,e,h⟩=>exact⟨y,e,B _ h⟩
  |1,⟨y,e,h⟩=>exact⟨y,e,B _ h⟩
  |2,h=>exact h
  |3,h=>exact B _ h
  |4,h=>exact h
  |5,h=>exact h
  |6,⟨T,e,h1⟩=>
   rcases h5 with h5|h5
   .omega
   .exact⟨T,e,h5 T h1⟩
  |7,h=>exact B _ h
  |_+8,_=>trivial
theorem uP(k b:Nat)(V:List Value)(xs:Array Value)(E:Value)(X:List Nat)(g:Value->K->Prop)(ty:TypeId)(zs:Array Value){e2 f1 f2:Nat}{o2 of:Oper}
  (hm:P.follows .mixedOrders=I) (hn:a0.tmps.size=n) (D9:a0.eval (.tmp b)=undef) (hW:Below W.heap.size W {w0 with drawn:=w0.drawn+1})
  (E0:pD ops (ops.toList.map (·.dst.getD b))=I)
  (hback:(List.range ops.size).all (λi=>((ops[i]?).map (·.after.all λe=> !Region.binds .any e||decide (e.on<i))).getD I)=I) (D2:lE ops (k+8)=I)
  (hq:AllOps (λi o=>o.guard=Z/\(∃d,o.dst=J d/\d≠b/\d<n)/\∀a w,FrOf ops a0 a->Below W.heap.size W w->(∀e∈o.after.toList,Region.binds .any e=I->a.eval (.tmp ((ops.toList.map (·.dst.getD b)).getD e.on 0))=V.getD e.on undef)->(execOp a.eval o).run P w=.ok (.value (V.getD i undef)) w) 0 (ops.toList.take k))
  (gx:∀v w w',Ext w w'->g v w->g v w') (D4:xs.size=zs.size) (D8:xs.all (·.oneCell')=I)
  (hc:∀a w,FrOf ops a0 a->Below W.heap.size W w->(∀e∈oc.after.toList,Region.binds .any e=I->a.eval (.tmp ((ops.toList.map (·.dst.getD b)).getD e.on 0))=V.getD e.on undef)->∃f args,(execOp a.eval oc).run P w=.ok (.enter f args) w/\Calls P f args w λr w'=>∃v,r=N (S #[F xs,v,E])/\Below w.heap.size w w'/\∀Y,(∀y∈Y,y∈X\/W.heap.size<=y/\y<w.heap.size)->g v (aA w' Y))
  (D5:∀a w T y,FrOf ops a0 a->Below W.heap.size W w->a.eval (.tmp b)=C (J ⟨T,0,Z⟩)->a.eval (.tmp f1)=y->a.eval (.tmp f2)=E->W.heap.size<=T->w.heap[T]?=J (.cells xs ty (0,0))->g y (aA w (T::X))->Q .normal a w)
  (ra:∀(ρ:Operand->Value) (w:K),(execOp ρ oa).run P w=.ok (.value (C (J ⟨w.heap.size,0,Z⟩))) (w.alloc (.cells zs ty)))
  (rm:∀(ρ:Operand->Value) (w:K) (v:Value),ρ (.tmp c)=v->(execOp ρ om).run P w=.ok (.value v) w)
  (r0:∀(ρ:Operand->Value) (w:K) (v:Value),ρ (.tmp m)=S #[F xs,v,E]->(execOp ρ o0).run P w=.ok (.value (F xs)) w)
  (r1:∀(ρ:Operand->Value) (w:K) (v:Value),ρ (.tmp m)=S #[F xs,v,E]->(execOp ρ o1).run P w=.ok (.value v) w)
  (r2:∀(ρ:Operand->Value) (w:K) (v:Value),ρ (.tmp m)=S #[F xs,v,E]->(execOp ρ o2).run P w=.ok (.value E) w)
  (re:∀(ρ:Operand->Value) (w:K) (v:Value),ρ (.tmp e1)=v->(execOp ρ oe).run P w=.ok (.value v) w)
  (rf:∀(ρ:Operand->Value) (w:K),ρ (.tmp e2)=E->(execOp ρ of).run P w=.ok (.value E) w)
  (hi:(P.info? ty).map (·.size)=J zs.size:=by rfl)
  (D1:ops.toList.drop k=[oc,om,o0,o1,o2,oa,os,oe,of]:=by rfl)
  (gc:oc.guard=Z/\om.guard=Z/\o0.guard=Z/\o1.guard=Z/\o2.guard=Z/\oa.guard=Z/\os.guard=Z/\oe.guard=Z/\of.guard=Z:=by exact⟨rfl,rfl,rfl,rfl,rfl,rfl,rfl,rfl,rfl⟩)
  (dc:oc.dst=J c/\om.dst=J m/\o0.dst=J e0/\o1.dst=J e1/\o2.dst=J e2/\oa.dst=J b/\os.dst=Z/\oe.dst=J f1/\of.dst=J f2:=by exact⟨rfl,rfl,rfl,rfl,rfl,rfl,rfl,rfl,rfl⟩)
  (dn:c<n/\m<n/\e0<n/\e1<n/\e2<n/\b<n/\f1<n/\f2<n:=by decide) (db:c≠b/\m≠b/\e0≠b/\e1≠b/\e2≠b/\f1≠b/\f2≠b/\f1≠f2:=by decide)
  (E1:os.op=.store ty (.tmp b) (.tmp e0):=by rfl)
  (ed:(⟨k,.data⟩:Edge)∈om.after.toList/\(⟨k+1,.data⟩:Edge)∈o0.after.toList/\(⟨k+1,.data⟩:Edge)∈o1.after.toList/\(⟨k+1,.data⟩:Edge)∈o2.after.toList/\(⟨k+5,.data⟩:Edge)∈os.after.toList/\(⟨k+2,.data⟩:Edge)∈os.after.toList/\(⟨k+3,.data⟩:Edge)∈oe.after.toList:=by simp)
  (eq:∀e∈oc.after.toList,Region.binds .any e=I->e.on<k:=by decide):
  (Code.region id ops I).wp P Q a0 w0:=by
 have A7:ops.size=k+9:=by
  have:=congrArg List.length D1;simp only[List.length_drop,Array.length_toList,List.length_cons,List.length_nil]at this;omega
 have at':∀i,ops[k+i]?=[oc,om,o0,o1,o2,oa,os,oe,of][i]?:=λi=>by rw[<-D1,ze,Jf]
 have p:ops[k]?=J oc:=at' 0;have q:ops[k+1]?=J om:=at' 1;have l:ops[k+2]?=J o0:=at' 2;have z:ops[k+3]?=J o1:=at' 3;have A0:ops[k+4]?=J o2:=at' 4;have s:ops[k+5]?=J oa:=at' 5;have D7:ops[k+6]?=J os:=at' 6;have A1:ops[k+7]?=J oe:=at' 7;have A4:ops[k+8]?=J of:=at' 8;obtain⟨g1,g2,g3,g4,g9,g5,g6,g7,g8⟩:=gc;obtain⟨d1,d2,d3,d4,d9,d5,d6,d7,d8⟩:=dc;obtain⟨n1,n2,n3,n4,n9,n5,n7,n8⟩:=dn;obtain⟨b1,b2,b3,b4,b9,b7,b8,B4⟩:=db;obtain⟨B6,B3,B5,B2,B1,A8,B0⟩:=ed;have O:∀j,Region.binds .any ⟨j,.data⟩=I:=λ_=>rfl;have s0:(ops.toList.map (·.dst.getD b)).getD k 0=c:=UC p d1;have s1:(ops.toList.map (·.dst.getD b)).getD (k+1) 0=m:=UC q d2;have s2:(ops.toList.map (·.dst.getD b)).getD (k+2) 0=e0:=UC l d3;have s3:(ops.toList.map (·.dst.getD b)).getD (k+3) 0=e1:=UC z d4;have s6:(ops.toList.map (·.dst.getD b)).getD (k+4) 0=e2:=UC A0 d9;have s4:(ops.toList.map (·.dst.getD b)).getD (k+5) 0=b:=UC s d5
 have s5:(ops.toList.map (·.dst.getD b)).getD (k+6) 0=b:=by
  rw[Mg,Ld,Jf,D7,Ng,Gf,d6];rfl
 have s7:(ops.toList.map (·.dst.getD b)).getD (k+7) 0=f1:=UC A1 d7;have p7:∀v u w,bx3Psi k V E X g ty xs (k+7) v u w=EC X g u v w:=λv u w=>by rw[bx3Psi,Qb (by omega),Vd];rfl
 have p0:∀v u w,bx3Psi k V E X g ty xs k v u w=∃x,v=S #[F xs,x,E]/\EC X g u x w:=λv u w=>by simp[bx3Psi]
 have p1:∀v u w,bx3Psi k V E X g ty xs (k+1) v u w=∃x,v=S #[F xs,x,E]/\EC X g u x w:=λv u w=>by rw[bx3Psi,Qb (by omega),Vd];rfl
 have p2:∀v u w,bx3Psi k V E X g ty xs (k+2) v u w=(v=F xs):=λv u w=>by rw[bx3Psi,Qb (by omega),Vd];rfl
 have p3:∀v u w,bx3Psi k V E X g ty xs (k+3) v u w=EC X g u v w:=λv u w=>by rw[bx3Psi,Qb (by omega),Vd];rfl
 have p6:∀v u w,bx3Psi k V E X g ty xs (k+4) v u w=(v=E):=λv u w=>by rw[bx3Psi,Qb (by omega),Vd];rfl
 have p4:∀v u w,bx3Psi k V E X g ty xs (k+5) v u w=∃T,v=C (J ⟨T,0,Z⟩):=λv u w=>by rw[bx3Psi,Qb (by omega),Vd];rfl
 have p5:∀v u w,bx3Psi k V E X g ty xs (k+6) v u w=∃T,v=C (J ⟨T,0,Z⟩)/\w.heap[T]?=J (.cells xs ty (0,0)):=λv u w=>by rw[bx3Psi,Qb (by omega),Vd];rfl
 have pq:∀i v u w,i<k->bx3Psi k V E X g ty xs i v u w=(v=V.getD i undef):=λi v u w h=>by simp[bx3Psi,h]
 have quiet:∀{i d:Nat} {o:Oper} {a:Act} {w:K} {v:Value},ops[i]?=J o->o.guard=Z->o.dst=J d->d≠b->d<n->FrOf ops a0 a->bxR W zs.size ty (a.eval (.tmp b)) w->(execOp a.eval o).run P w=.ok (.value v) w->bx3Psi k V E X g ty xs i v (a.eval (.tmp b)) w->
   wpOp P ops Q i (λa' w'=>∃v,a'=a.put o.dst v/\bxR W zs.size ty (a'.eval (.tmp b)) w'/\bx3Psi k V E X g ty xs i (a'.eval (.tmp ((ops.toList.map (·.dst.getD b)).getD i 0))) (a'.eval (.tmp b)) w'/\∀j x,j≠i->bx3Psi k V E X g ty xs j x (a.eval (.tmp b)) w->bx3Psi k V E X g ty xs j x (a'.eval (.tmp b)) w') a w:=by
  intro i d o a w v L B C8 C7 U D C4 hrun hv;refine mC v L B hrun ⟨v,rfl,?_⟩;rw[UC L C8,C8,bB D hn U,Act.eval_put_ne _ _ _ _ C7];exact⟨C4,hv,λ_ _ _ h=>h⟩
 have A6:∀i o,ops[i]?=J o->i<k+8->SK P ops Q a0 b (bxR W zs.size ty) (ops.toList.map (·.dst.getD b)) (bx3Psi k V E X g ty xs) i o:=by
  intro i o A C3 a w D C4 C5;by_cases L:i<k
  .have B:=hq.get _ _ i o (by rw[be L];simpa using A);rw[Dc]at B;obtain⟨C8,⟨d,C7,U,h6⟩,h7⟩:=B;refine quiet A C8 C7 U h6 D C4 (h7 a w D C4.1 λe he C9=>?_) (by rw[pq _ _ _ _ L]);have h8:=Zc.1 hback i (by simp;omega);simp only[A,Option.map_some,Option.getD_some]at h8;have h9:=(Hf.1 h8) e (by simpa using he);rw[C9,If,vf]at h9;have C2:=ye h9;have:=C5 e he C9;rw[pq _ _ _ _ (by omega)]at this;exact this
  have B7:i=k\/i=k+1\/i=k+2\/i=k+3\/i=k+4\/i=k+5\/i=k+6\/i=k+7:=by omega
  rcases B7 with rfl|rfl|rfl|rfl|rfl|rfl|rfl|rfl
  .rw[p]at A;cases A
   obtain⟨f,args,hrun,B8⟩:=hc a w D C4.1 λe he C9=>by
    have:=C5 e he C9;rw[pq _ _ _ _ (eq e he C9)]at this;exact this
   refine cE f args p g1 hrun _ B8 ?_;rintro r w' ⟨v,rfl,hb,hg⟩;refine⟨_,rfl,_,rfl,?_⟩;rw[s0,d1,bB D hn n1,Act.eval_put_ne _ _ _ _ b1,p0];refine⟨C4.below hb,⟨v,rfl,hg X λy hy=>.inl hy,λT e=>hg _ λy hy=>?_⟩,λj x _ h=>h.keep (λv h=>⟨gx _ _ _ (Ext.freshL hb) h.1,λT e=>gx _ _ _ (Ext.freshL hb) (h.2 T e)⟩) (.inr λT L=>yA hb (Wb.1 L).1 L)⟩;rcases Xc.1 hy with rfl|hy
   .rcases C4.2 with h0|⟨T',e',C8,C7,_⟩
    .rw[h0]at e;cases e
    .rw[e']at e;cases e;exact .inr ⟨C8,C7⟩
   .exact .inl hy
  .rw[q]at A;cases A;have B:=C5 _ B6 (O _);rw[s0,p0]at B;obtain⟨x,M,D3⟩:=B;exact quiet q g2 d2 b2 n2 D C4 (rm _ _ _ M) (by rw[p1];exact⟨x,rfl,D3⟩)
  .rw[l]at A;cases A;have B:=C5 _ B3 (O _);rw[s1,p1]at B;obtain⟨x,M,D3⟩:=B;exact quiet l g3 d3 b3 n3 D C4 (r0 _ _ _ M) (by rw[p2])
  .rw[z]at A;cases A;have B:=C5 _ B5 (O _);rw[s1,p1]at B;obtain⟨x,M,D3⟩:=B;exact quiet z g4 d4 b4 n4 D C4 (r1 _ _ _ M) (by rw[p3];exact D3)
  .rw[A0]at A;cases A;have B:=C5 _ B2 (O _);rw[s1,p1]at B;obtain⟨x,M,D3⟩:=B;exact quiet A0 g9 d9 b9 n9 D C4 (r2 _ _ _ M) (by rw[p6])
  .rw[s]at A;cases A;have hb:=qA w (.cells zs ty);refine bH _ s g5 (ra _ _) ⟨_,rfl,?_⟩;rw[s4,d5,bB D hn n5,p4];exact⟨⟨vA C4.1 hb,.inr ⟨_,rfl,C4.1.size,by simp,zs,rfl,Cc _ _⟩⟩,⟨_,rfl⟩,λj x _ h=>h.keep (λv h=>⟨gx _ _ _ (Ext.freshL hb) h.1,λT e=>by cases e;exact gx _ _ _ (Ext.newL hb (Sb _)) h.1⟩) (.inr λT L=>yA hb (Wb.1 L).1 L)⟩
  .rw[D7]at A;cases A;have B:=C5 _ B1 (O _);have C8:=C5 _ A8 (O _);rw[s4,p4]at B;rw[s2,p2]at C8;obtain⟨T,C6⟩:=B
   have A9:W.heap.size<=T/\T<w.heap.size/\∃cs:Array Value,cs.size=zs.size/\w.heap[T]?=J (.cells cs ty (0,0)):=by
    rcases C4.2 with h0|⟨T',e',C7⟩
    .rw[h0]at C6;cases C6
    .rw[e']at C6;cases C6;exact C7
   obtain⟨D6,C0,old,C1,A5⟩:=A9;have R:(w.setRow T xs).heap[T]?=J (.cells xs ty (0,0)):=Oe w T old xs ty _ A5;refine sM ty (.tmp b) (.tmp e0) T xs D7 g6 E1 C6 C8 ty old A5 (by rw[hi,D4]) (by omega) D8 ⟨_,rfl,?_⟩;rw[s5,d6,p5];show bxR W zs.size ty (a.eval (.tmp b)) _/\(∃T',a.eval (.tmp b)=_/\_)/\∀j x,j≠k+6->bx3Psi k V E X g ty xs j x (a.eval (.tmp b)) w->bx3Psi k V E X g ty xs j x (a.eval (.tmp b)) (w.setRow T xs);rw[C6];have M:=zK (T:=T) (X:=T::X) (by simp) w xs;exact⟨⟨(((ButL.of_below (X:=[]) C4.1).setRowB (.inr D6) xs)).below,.inr ⟨T,rfl,D6,(Wb.1 R).1,xs,D4,R⟩⟩,⟨T,rfl,R⟩,λj x hj h=>h.keep (λv h=>⟨gx _ _ _ (Ext.lessL T) (gx _ _ _ M (h.2 T rfl)),λT' e=>by cases e;exact gx _ _ _ M (h.2 T rfl)⟩) (.inl hj)⟩
  .rw[A1]at A;cases A;have B:=C5 _ B0 (O _);rw[s3,p3]at B;exact quiet A1 g7 d7 b7 n7 D C4 (re _ _ _ rfl) (by rw[p7];exact B)
 refine YL (k+8) b (bxR W zs.size ty) (ops.toList.map (·.dst.getD b)) (bx3Psi k V E X g ty xs) hm E0 hback D2 (by omega) ⟨hW,.inl D9⟩ (XK _ _ λi o A=>by
  rw[Dc]
  have A3:i<k+8:=by
   have:=(gd.1 A).1;simp at this;omega
  rw[be A3]at A
  exact A6 i o (by simpa using A) A3) ?_
 intro a w D C4 C5;have C8:=C5 (k+7) (by omega);have C7:=C5 (k+4) (by omega);have U:=C5 (k+6) (by omega);rw[s7,p7]at C8;rw[s6,p6]at C7;rw[s5,p5]at U;obtain⟨T,C6,B9⟩:=U
 have D6:W.heap.size<=T:=by
  rcases C4.2 with h0|⟨T',e',C7,_⟩
  .rw[h0]at C6;cases C6
  .rw[e']at C6;cases C6;exact C7
 have hr:(List.range ops.size).drop (k+8)=[k+8]:=by rw[A7,ce,bg (by simp),Gd (by simp)];rfl
 rw[hr,Zd];refine mC E A4 g8 (rf _ _ C7) ?_;have A2:=D.put A4 E;rw[d8]at A2|-;exact D5 _ w T (a.eval (.tmp f1)) A2 C4.1 (by rw[Act.eval_put_ne _ _ _ _ b8];exact C6) (Act.eval_put_ne _ _ _ _ (qe B4)) (bB D hn n8) D6 B9 (C8.2 T C6)
end
