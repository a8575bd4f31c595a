import Derived.Test.YtjnpndfpajjihadGreatGrJournalRuns2
import Derived.Lib.AppendZerosOnto
import Derived.Test.YtjnpndfpajjihadGreatGrJournalRuns21
import Derived.Test.YtjnpndfpajjihadGreatShelf
import Derived.Sort.OwnSortedInts
set_option maxRecDepth 100000
set_option maxHeartbeats 40000000
namespace Go.Proofs.YtjnpndfpajjihadGreat
open Go.Proofs.Tryz
open Go.RowKit
open Value renaming int -> H,slice -> M,bool -> Y,tuple -> S
open IntKind renaming i64 -> G
open Option renaming none -> Z,some -> J
open Bool renaming true -> I
open Go renaming World -> K,Value -> E
open Obj renaming cells -> T
open Ending renaming returned -> N
theorem gV(n:Nat)(w:K)(hn:n<=1000):
  Calls prog 220 #[M Z 0 0,H .i64 n] w λe R=>∃X,e=N X/\R.ownsRow w.heap.size 3 1 X 0 []/\Below w.heap.size w R:=by
 obtain⟨I,i,d,L,D⟩:=Gc zE;rcases jf n with rfl|hpos
 .go_enter func220,ntmps220;go_wp2;go_ret;exact⟨_,rfl,Kc _ _ _ _,Ub _ _⟩
 .obtain⟨G,C⟩:∃G,G=grownCap w n 0 3:=⟨_,rfl⟩;have A0:n<=G:=by rw[C];exact grownCap_ge w _ _ _
  have a:G<=maxLen:=by rw[C];exact pg w n 0 _ (by unfold maxLen;omega)
  obtain⟨A,B⟩:∃A,A=#[]++Builtin.zeroCells (H .i64 0:E).cells n++Builtin.zeroCells (H .i64 0:E).cells (G - n):=⟨_,rfl⟩
  have F:A.size=G*1:=by
   rw[B,Re,Re,Se,Se];show 0+n*1+(G - n)*1=G*1;omega
  have c:∀Q,(Builtin.append_ #[47,3] Q #[M Z 0 0,H .i64 (n:Int)]).run prog w=.ok (M (J ⟨w.heap.size,0,Z⟩) n G) (w.drew.alloc (T A 3)):=λQ=>by
   have h:=Lib.run_append_grow_zeros (P:=prog) w 47 3 Q 3 I (H .i64 0) .i64 .i64 underlying47 underlying3 i d Z 0 0 [] (sg w.drew I.size 0 0 0) n hpos (by rw[L];decide) (by omega) (by omega) (by rw[D];omega) (by rw[Dc,D];exact tg (by omega) (by omega));rw[Dc,<-C]at h;rw[h,B]
  have b:Hid ((w.drew.alloc (T A 3)).ownsRow w.heap.size 3 1 (M (J ⟨w.heap.size,0,Z⟩) 0 G) 0 []):=De w.drew A G (Sb _) a F;clear C B F;unfold maxLen at a;have h1:¬((n:Int)<0):=by omega
  have h2:(n:Int)>0:=by omega
  go_enter func220,ntmps220;go_wp2_with (at_builtin;refine Lib.wpList_append_run _ rfl _ _ _ _ rfl _ _ rfl rfl _ _ (c _) ?_);go_ret;exact⟨_,rfl,b.o,(Ub _ _).drew.alloc (by simp) _⟩
theorem vP(w:K)(base:Nat)(Q:TypeId)(v:E)(n c:Nat)(L:List E)(h:w.ownsRow base 3 1 v n L):
  (Builtin.append_ #[47,47] Q #[v,M Z 0 c]).run prog w=.ok v w:=by
 obtain⟨B,A,A1,A2,A0⟩:=Gc zE;rcases h.2 with⟨rfl,rfl⟩|⟨g,cap,A4,rfl,hb,hg,D,A5,A3⟩
 .exact iG w _ _ _ B c underlying47 A
 .simp[Builtin.append_,run_underlying underlying47,sizeOf,typeInfo,A,Builtin.lenOf,Builtin.firstCells,D,storeCells]
theorem NI(w W:K)(base:Nat){m:Array Oper}{rest:List Oper}{o:Oper}{a:Act}{Q:Exit->Act->K->Prop}(i:o.guard=Z)(s x:Operand)
  (r:o.op=.call {callee:=.builtin .append,args:=#[s,x],argTypes:=#[47,47]})
  (v:E) (n:Nat) (d:List E) (z:a.eval s=v) (L:w.ownsRow base 3 1 v n d) (p:Option Addr) (c:Nat) (l:List Int) (hx:a.eval x=M p l.length c) (hS:SegI w p l)
  (hn:n+l.length<=1000) (R:base<=w.heap.size) (hB:Below base W w)
  (h:∀e X,Hid (X.ownsRow base 3 1 e (n+l.length) (d++cellsI l))->Hid (Below base W X)->wpList prog m Q rest (a.put o.dst e) X):wpList prog m Q (o::rest) a w:=by
 obtain⟨I,A0,A1,F,D⟩:=Gc zE
 cases p with
 |none=>
  have J:l=[]:=by rcases hS with h|⟨b,y,q,_⟩;exact h;cases q
  subst J;refine Lib.wpList_append_run w i s x _ _ r _ _ z hx v w (vP w base o.type v n c d L) (h v w ?_ hB);show w.ownsRow base 3 1 v (n+0) (d++[]);rw[yd];exact L
 |some ad=>
  refine wd w i s x 47 r base 3 I (H G 0) 1 8 underlying47 A0 A1 F D rfl (by decide) v n d z L ad l.length c (cellsI l) hx (sF l) ?_ CG (by unfold maxLen;omega) (by omega) R ?_
  .intro j u C;rcases hS with h|⟨b,y,q,A2,hc⟩
   .rw[h]at C;simp[cellsI]at C
   .cases q;rw[qd];exact SegI.news hc j u C
  .intro e X B A _;exact h e X B (hB.grown A R (λk hk=>(L.lt k hk).1))
def flatI (L:List (Option Addr×Nat×List Int)):List Int:=(L.map (·.2.2)).flatten
theorem wM{L:List (Option Addr×Nat×List Int)}{k:Nat}{x:Option Addr×Nat×List Int}(h:L[k]?=J x):flatI (L.take (k+1))=flatI (L.take k)++x.2.2:=by
 rw[Oc,h];simp[flatI]
theorem GJ(L:List (Option Addr×Nat×List Int))(k:Nat):(flatI (L.take k)).length<=(flatI L).length:=by
 have:flatI L=flatI (L.take k)++flatI (L.drop k):=by rw[flatI,flatI,flatI,<-og,<-Ed,Mf]
 rw[this,Yb];omega
def jH (w:K)(B:Nat)(L:List (Option Addr×Nat×List Int)):Prop:=
 B<w.heap.size/\∀i x,L[i]?=J x->w.cell? ⟨B,i,Z⟩=J (M x.1 x.2.2.length x.2.1)/\SegI w x.1 x.2.2
theorem zM(B m c:Nat)(L:List (Option Addr×Nat×List Int))(w:K)(hm:L.length=m)(A1:m<=1000)(h:jH w B L)(hn:(flatI L).length<=1000):
  Calls prog 198 #[M (J ⟨B,0,Z⟩) m c] w λe n=>∃p,e=N p/\n.ownsRow w.heap.size 3 1 p (flatI L).length (cellsI (flatI L))/\Below w.heap.size w n:=by
 subst hm;have y:=zA h;clear h;go_enter func198,ntmps198;go_wp2
 go_loop [3,11] (λs i=>∃k:Nat,k<=L.length/\i=H G k/\s=H G ((flatI (L.take k)).length:Int)) (λ_ i=>L.length - (intOf i).toNat)
 case atStart=>exact⟨0,Vb _,rfl,rfl⟩
 case round=>
  obtain⟨k,l,rfl,rfl⟩:=hrel;have u:=GJ L k;by_cases hlt:k<L.length
  .obtain⟨x,E⟩:∃x,L[k]?=J x:=⟨_,Ic hlt⟩;have Q:=(y.o.2 k x E).1;have F:Hid ((flatI (L.take (k+1))).length=(flatI (L.take k)).length+x.2.2.length):=by rw[Hid,wM E,Yb]
   have A:=GJ L (k+1);rw[F.o]at A;have S:(k:Int)<(L.length:Int):=by omega
   clear E;generalize (flatI (L.take k)).length=q at *;obtain⟨X,j,d⟩:=x;dsimp only at A Q F;go_wp2
   go_round
   case rel=>exact⟨k+1,by omega,by go_num,by rw[F.o];go_num⟩
   case measure=>simp[intOf];omega
  .have e:k=L.length:=by omega
   subst e;rw[Lc];clear u;obtain⟨z,r⟩:∃z,z=(flatI L).length:=⟨_,rfl⟩;rw[<-r]at hn;rw[<-r];have A0:=zA r;clear r;go_wp2_with fail;refine(gV z w hn).mono ?_;rintro e w1 ⟨v1,rfl,I,R⟩;have a:=zA I;have b:=zA R;clear I R;go_wp2
   go_loopw [6,27] (λs i wr=>∃(k:Nat),k<=L.length/\i=H G k/\Hid (wr.ownsRow w.heap.size 3 1 s (flatI (L.take k)).length (cellsI (flatI (L.take k))))/\Hid (Below w.heap.size w wr)) (λ_ i _=>L.length - (intOf i).toNat)
   case atStart=>exact⟨0,Vb _,rfl,a,b⟩
   case round=>
    obtain⟨k,l,rfl,D,C⟩:=hrel;have u:=GJ L k;rw[<-A0.o]at u;by_cases hlt:k<L.length
    .obtain⟨x,E⟩:∃x,L[k]?=J x:=⟨_,Ic hlt⟩;have Q:=xA C.o y.o.1 (y.o.2 k x E).1;have U:Hid (SegI wr x.1 x.2.2):=(y.o.2 k x E).2.below C.o;have F:Hid (flatI (L.take (k+1))=flatI (L.take k)++x.2.2):=wM E;have A:=GJ L (k+1);rw[F.o,Yb,<-A0.o]at A;have S:(k:Int)<(L.length:Int):=by omega
     clear E;generalize flatI (L.take k)=q at *;obtain⟨X,j,d⟩:=x;dsimp only at A Q F U;go_wp2_with (at_builtin;refine NI _ w w.heap.size rfl _ _ rfl _ q.length (cellsI q) rfl D.o X j d rfl U.o (by omega) C.o.size C.o ?_);intro p n O Y;clear D C U Q;go_wp2
     go_roundw
     case rel=>exact⟨k+1,by omega,by go_num,by rw[F.o,Yb,AF];exact O,Y⟩
     case measure=>simp[intOf];omega
    .have e:k=L.length:=by omega
     subst e;rw[Lc]at D;clear u;go_wp2;go_ret;exact⟨_,rfl,D.o,C.o⟩
def IC (l:List Int):List Int:=l.mergeSort λx y=>decide (x<=y)
theorem LK(l:List Int):(IC l).length=l.length:=by simp[IC]
theorem YU(l:List Int)(x:Int):x∈IC l↔x∈l:=by simp[IC]
theorem UT(l:List Int):Up id (IC l)↔l.Nodup:=by
 have C:(IC l).Perm l:=List.mergeSort_perm l _;have D:(IC l).Pairwise (λa b=>decide (a<=b)=I):=List.pairwise_mergeSort (λa b c A B=>by simp at A B|-;omega) (λa b=>by simp;omega) l;rw[<-C.nodup_iff];constructor
 .intro h;exact List.Pairwise.imp (λh=>by simp at h;omega) h
 .intro h;refine(D.and h).imp ?_;rintro a b ⟨A,B⟩;simp at A;simp only[id];omega
theorem GW(l:List Int)(h:∀x∈l,0<=x/\x<=11):iA (IC l)=decide l.Nodup:=by
 rw[Of,zB,decide_eq_true_iff,UT];exact⟨λh=>h.2,λe=>⟨λx B=>h x ((YU l x).1 B),e⟩⟩
theorem rX(t:Tx)(h1:iA (blksOf t.info)=I)(h2:iA (blksOf t.data)=I)(B:iA t.rev=I):iA (IC (YC t))=decide (YC t).Nodup:=by
 refine GW _ λx hx=>?_;rw[zB]at h1 h2 B;simp only[YC,List.mem_append]at hx;rcases hx with hx|hx|hx
 .exact h1.1 x hx
 .exact h2.1 x hx
 .exact B.1 x hx
theorem DV(l:List Int)(a:Int)(n:Nat)(h:∀x∈l,a<=x/\x<a+n)(L:Up id l):l.length<=n:=by
 induction n generalizing a l with
 |zero=>
  cases l with
  |nil=>simp
  |cons x r=>have:=h x (by simp);omega
 |succ n ih=>
  cases l with
  |nil=>simp
  |cons x r=>
   have A:=We.1 L;have hx:=h x (by simp);have:=ih r (a+1) (λy D=>by have B:=A.1 y D;have h2:=h y (by simp[D]);simp only[id]at B;omega) A.2;simp;omega
theorem zG{l:List Int}(h:iA l=I):l.length<=12:=by
 rw[zB]at h;exact DV l 0 12 (λx B=>by have:=h.1 x B;omega) h.2
theorem CS(base:Nat)(v:E)(l:List Int)(w:K)(L:w.ownsRow base 3 1 v l.length (cellsI l))(hn:l.length<=1000):
  Calls Tryz.prog 199 #[v] w λe B=>e=N (S #[])/\B.ownsRow base 3 1 v l.length (cellsI (IC l))/\∀W,Below base W w->base<=w.heap.size->Below base W B:=by
 rcases L.2 with⟨rfl,c⟩|⟨g,cap,A0,rfl,hb,Q,X,R,a,D⟩
 .have e:l=[]:=Tc c;subst e;refine(Tryz.slices_Sort_int_none Z 0 w).mono ?_;rintro e B ⟨rfl,rfl⟩;exact⟨rfl,by rw[show IC []=[] from by simp[IC]];exact Kc _ _ _ _,λW h _=>h⟩
 .have A:g<w.heap.size:=(Wb.1 Q).1;refine(Tryz.slices_Sort_int g 0 cap l w (holds_of_blockI Q (by rw[Pf]at D;exact D)) A (by omega)).mono ?_;rintro e B ⟨rfl,n,os,rfl⟩;refine⟨rfl,ownsRow_sortedI (ts:=IC l) (ss:=l) (LK l) hb Q X R a,λW h b=>?_⟩;exact h.grown (grownBy_sortedI _) b (λk d=>by cases d;exact hb)
theorem DT(B m c:Nat)(L:List (Option Addr×Nat×List Int))(w:K)(i:L.length=m)(a:m<=1000)(h:jH w B L)(X:(flatI L).length<=1000):
  Calls Tryz.prog 157 #[M (J ⟨B,0,Z⟩) m c] w λe d=>e=N (Y (iA (IC (flatI L))))/\Below w.heap.size w d:=by
 go_enter Tryz.func157,Tryz.ntmps157;go_wp2_with fail;refine(zM B m c L w i a h X).mono ?_;rintro e j ⟨Q,rfl,C,I⟩;have F:=zA C;have D:=zA I;clear C I h;go_wp2_with fail;refine(CS w.heap.size Q (flatI L) j F.o X).mono ?_;rintro e R ⟨rfl,A,E⟩;have k:=zA (E w D.o D.o.size);obtain⟨O,c2,rfl,b,_⟩:=SegI.of_owns (l:=IC (flatI L)) (by rw[<-LK]at A;exact A);have n:=zA b;clear b A E F D;go_wp2_with fail;refine(oJ O c2 (IC (flatI L)) R n.o (by rw[LK];unfold maxLen;omega)).mono ?_;rintro e w3 ⟨rfl,rfl⟩;go_wp2;go_ret;exact⟨rfl,k.o⟩
