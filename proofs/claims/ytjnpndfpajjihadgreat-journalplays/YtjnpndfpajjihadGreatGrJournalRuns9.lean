import Derived.Test.YtjnpndfpajjihadGreatGrJournalRuns0
import Derived.Laws.OwnMore
import Derived.Deep.RegionWith
set_option maxRecDepth 100000
set_option maxHeartbeats 40000000
namespace Go.Proofs.YtjnpndfpajjihadGreat
open Go.Proofs.Tryz
open Go.RowKit
open Value renaming int -> H,slice -> M,bool -> Y,agg -> F,tuple -> S
open IntKind renaming i64 -> G
open Option renaming none -> Z,some -> J
open Bool renaming false -> O,true -> I
open Go renaming World -> K,Value -> E
open Obj renaming cells -> T
open Ending renaming returned -> N
variable{a b n:Int}{base g m:Nat}{l:List Int}{w:World}
theorem QF(h:sA n a b=I):a<=n/\n<=b:=by simpa[sA] using h
theorem bG(h:sA n a b=O):n<a\/b<n:=by
 by_cases h1:a<=n
 .by_cases h2:n<=b
  .simp[sA,h1,h2]at h
  .omega
 .omega
theorem FG(n a b:Int)(w:K):
  Calls prog 118 #[H G n,H G a,H G b] w λe B=>e=N (Y (sA n a b))/\w=B:=by
 by_cases h1:a<=n
 .by_cases h2:n<=b
  .have A:Hid (sA n a b=I):=by simp[Hid,sA,h1,h2]
   go_enter func118,ntmps118;go_wp2;go_ret;exact⟨by rw[A.o];rfl,rfl⟩
  .have A:Hid (sA n a b=O):=by simp[Hid,sA,h1,h2]
   go_enter func118,ntmps118;go_wp2;go_ret;exact⟨by rw[A.o];rfl,rfl⟩
 .have A:Hid (sA n a b=O):=by simp[Hid,sA,h1]
  go_enter func118,ntmps118;go_wp2;go_ret;exact⟨by rw[A.o];rfl,rfl⟩
theorem QX(q:Int)(l:List Int)(h:UA q l=I)(B: -1<=q/\q<=11): -1<=lastNum q l/\lastNum q l<=11:=by
 induction l generalizing q with
 |nil=>exact B
 |cons x r ih=>
  by_cases e:x<=q\/11<x
  .simp[UA,e]at h
  .simp only[UA,if_neg e]at h;exact ih x h (by omega)
theorem jP(a:Option Addr)(c:Nat)(l:List Int)(w:K)(h:SegI w a l)(r:l.length<=maxLen):
  Calls prog 184 #[M a l.length c] w λe p=>e=N (Y (iA l))/\w=p:=by
 unfold maxLen at r;have u:=zA h;clear h;go_enter func184,ntmps184;go_wp2
 go_loop [3,8] (λq i=>∃k:Nat,k<=l.length/\i=H G k/\q=H G (lastNum (-1) (l.take k)+1)/\Hid (UA (-1) (l.take k)=I)) (λ_ i=>l.length - (intOf i).toNat)
 case atStart=>exact⟨0,Vb _,rfl,rfl,by simp[Hid,UA]⟩
 case round=>
  obtain⟨k,hk,rfl,rfl,C⟩:=hrel;by_cases hlt:k<l.length
  .obtain⟨b,A1,rfl,hb,d⟩:=u.o.resolve_left (by intro e;rw[e]at hlt;simp at hlt);obtain⟨x,A⟩:∃x,x=l.getD k 0:=⟨_,rfl⟩;have L:=d k hlt;rw[<-A]at L;have Q:Hid (l[k]?=J x):=by rw[A];exact YA _ _ _ hlt
   have X:Hid (l.take (k+1)=l.take k++[x]):=by rw[Hid,Oc,Q.o];rfl
   clear A d;obtain⟨q,F⟩:∃q,q=lastNum (-1) (l.take k):=⟨_,rfl⟩;have s:=QX _ _ C.o (by omega);rw[<-F]at s|-;have j:=zA F;clear F;have A0:(k:Int)<(l.length:Int):=by omega
   go_wp2_with fail;refine(FG x (q+1) 11 _).mono ?_;rintro e w1 ⟨rfl,rfl⟩
   cases hw:sA x (q+1) 11 with
   |false=>
    have A:=bG hw;have D:x<=q\/11<x:=by omega
    have B:Hid (iA l=O):=MH (-1) l (k+1) (by rw[X.o,nF,<-j.o];simp[D]);clear D;clear hw A;go_wp2;go_ret;exact⟨by rw[B.o];rfl,rfl⟩
   |true=>
    have A:=QF hw
    have B:Hid (UA (-1) (l.take (k+1))=I):=by
     have R:¬x<=q:=by omega
     have y:¬11<x:=by omega
     rw[Hid,X.o,nF,C.o,<-j.o];simp[R,y]
    clear hw;go_wp2
    go_round
    case rel=>exact⟨k+1,by omega,by go_num,by rw[X.o,xG],B⟩
    case measure=>simp[intOf];omega
  .have e:k=l.length:=by omega
   have E:iA l=I:=by have:=C.o;rw[e,Lc]at this;exact this
   have B:=zA E;clear C E;go_wp2;go_ret;exact⟨by rw[B.o];rfl,rfl⟩
def NG (k p:Int)(n B:Nat):Bool:=decide ((p≠0/\k≠1)\/(0<n/\k≠2)\/(0<B/\k≠3))
theorem oX(k p:Int)(a:Option Addr)(n c:Nat)(h:Option Addr)(D R:Nat)(w:K)(d:k=1\/k=2\/k=3\/k=4)(q:Int)(X:n<=maxLen)(L:D<=maxLen):
  Calls prog 119 #[F #[H G k,H G q,H G p,M a n c,M h D R]] w λe Q=>e=N (Y (NG k p n D))/\Below w.heap.size w Q:=by
 unfold maxLen at X L;have B:p=0\/(¬p=0/\(p !=0)=I):=by by_cases e:p=0<;>simp[e]
 have A:n=0\/0<(n:Int):=by omega
 have C:D=0\/0<(D:Int):=by omega
 rcases d with rfl|rfl|rfl|rfl
 all_goals
  rcases B with rfl|⟨A0,B⟩
  all_goals
   rcases A with rfl|A
   all_goals
    rcases C with rfl|C
    all_goals
     go_enter func119,ntmps119;go_wp2;go_ret;refine⟨?_,qA _ _⟩
     first|rfl|(simp[NG]<;>omega)
def VB (l:List Int)(m:Nat):List E:=cellsI l++List.replicate m (H G 0)
theorem fZ(l:List Int)(m:Nat)(x:Int):(VB l (m+1)).set l.length (H G x)=VB (l++[x]) m:=by
 have A:(cellsI l).length=l.length:=by simp[cellsI]
 rw[VB,wg _ _ (by omega),A,Fe,Ag,Bg,VB,AF,od];rfl
theorem zP(l:List Int):VB l 0=cellsI l:=by simp[VB]
theorem iS(m:Nat):VB [] m=List.replicate m (H G 0):=rfl
theorem BZ(l:List Int)(m k:Nat)(h:k<l.length+m):∃u,(VB l m)[k]?=J u:=by
 have:k<(VB l m).length:=by simp[VB,cellsI];omega
 exact⟨_,Ic this⟩
theorem jO{n:Nat}(h:w.ownsRow base 3 1 (M (J ⟨g,0,Z⟩) n n) n (VB l (m+1)))(x:Int):
  (w.setCell ⟨g,l.length,Z⟩ (H G x)).ownsRow base 3 1 (M (J ⟨g,0,Z⟩) n n) n (VB (l++[x]) m):=by
 have:=(h.stored l.length (H G x)).1
 rwa [fZ]at this
theorem mQ{n:Nat}(h:w.ownsRow base 3 1 (M (J ⟨g,0,Z⟩) n n) n (VB l (m+1))):
  (∃u,w.cell? ⟨g,l.length,Z⟩=J u)/\w.frozen? ⟨g,l.length,Z⟩=O/\base<=g/\g<w.heap.size/\l.length+(m+1)=n:=by
 have B:l.length+(m+1)=n:=by have:=h.1;simp[VB,cellsI]at this;omega
 obtain⟨u,C⟩:=BZ l (m+1) l.length (by omega);have A:=h.lt g rfl;exact⟨⟨u,by rw[h.cellAt _ (by omega)];exact C⟩,h.frozenAt _,A.1,A.2,B⟩
theorem EP(n:Nat)(h:n<=17592186044416)(w:K):(Instr.makeSlice 47 (H G n) (H G n)).run Tryz.prog w=.ok (M (J ⟨w.heap.size,0,Z⟩) n n) (w.alloc (T (VB [] n).toArray 3)):=by
 obtain⟨D,E,B,C,A⟩:=Gc zE;have F:=run_make (P:=Tryz.prog) w 47 3 D (H G 0) Tryz.underlying47 E B G G n n (by omega) (by omega) (by rw[A];omega) (by omega)
 have e:madeCells (Value.cells (H G 0)) n=(VB [] n).toArray:=by
  apply Array.toList_inj.1;rw[show Value.cells (H G 0)=#[H G 0] from rfl,toList_madeCells_one,iS]
 rw[F,C,pd,Pf,e]
theorem gM(n:Nat)(h:n<=17592186044416)(w:K)(base:Nat)(hb:base<=w.heap.size):(w.alloc (T (VB [] n).toArray 3)).ownsRow base 3 1 (M (J ⟨w.heap.size,0,Z⟩) n n) n (VB [] n):=by
 have:=Rf (e:=3) (size:=1) w (VB [] n).toArray n hb (by unfold maxLen;omega) (by simp[VB,cellsI])
 simpa using this
open Go.Proofs.Tryz
theorem lT(h u n:Int)(w:K):
  Calls prog 210 #[F #[H G h,H G u],H G n] w λe w'=>∃a2 c2,e=N (S #[F #[H G (takeH h u n),H G (takeU h u n)],M a2 (takeL h u n).length c2,H G (takeE h u n)])/\(SegI w' a2 (takeL h u n)/\(∀b A8,a2=J ⟨b,A8,Z⟩->w.heap.size<=b)/\(takeL h u n).length<=c2)/\Below w.heap.size w w':=by
 go_enter func210,ntmps210;go_wp2_with fail;refine(ZP h u _).mono ?_;rintro e Y ⟨rfl,B2⟩;have j:w.heap.size+1<Y.heap.size:=by have:=B2.size;simp at this;omega
 have B8:w.heap.size<Y.heap.size:=by omega
 obtain⟨⟨R,U⟩,_⟩:=XA (sB B2);obtain⟨⟨B0,L⟩,B6,f1⟩:=XA (JB B2);have Q:=zA (vA (vA (qA _ _) (qA _ _)) B2);clear B2;by_cases hE:mB h u=O\/n<0
 .have A9:Hid (takeE h u n=2):=by rw[Hid,takeE,Rb hE]
  have A:Hid (takeH h u n=h/\takeU h u n=u/\takeL h u n=[]):=by simp[Hid,takeH,takeU,takeL,A9.o]
  cases B1:mB h u with
  |false=>
   clear B1 hE;go_wp2;refine Tb (v:=S #[F #[H G h,H G u],M Z 0 0,H G 2]) (by simp[results,results210,go_sem,B0,L]) rfl ⟨Z,0,by rw[A9.o,A.o.1,A.o.2.1,A.o.2.2];rfl,⟨.inl A.o.2.2,λ_ _ e=>(by cases e),(by rw[A.o.2.2];exact Sb _)⟩,?_⟩
   repeat refine Zb ?_ (by simp) _
   exact Q.o
  |true=>
   have z:n<0:=by rw[B1]at hE;rcases hE with e|e;cases e;exact e
   clear B1 hE;go_wp2;refine Tb (v:=S #[F #[H G h,H G u],M Z 0 0,H G 2]) (by simp[results,results210,go_sem,B0,L]) rfl ⟨Z,0,by rw[A9.o,A.o.1,A.o.2.1,A.o.2.2];rfl,⟨.inl A.o.2.2,λ_ _ e=>(by cases e),(by rw[A.o.2.2];exact Sb _)⟩,?_⟩
   repeat refine Zb ?_ (by simp) _
   exact Q.o
 .have B1:mB h u=I:=by cases e:mB h u;exact absurd (.inl e) hE;rfl
  have hb:=PK B1;have z:¬n<0:=λe=>hE (.inr e);rw[B1];go_wp2_with fail;refine(QQ h u _ hb.2.2.1 hb.2.2.2).mono ?_;rintro e E ⟨rfl,C⟩;have A5:Y.heap.size<=E.heap.size:=C.size
  replace R:=xA C (by omega) R
  replace U:=xA C (by omega) U
  replace B0:=xA C (by omega) B0
  replace L:=xA C (by omega) L
  replace B6:=bA C (by omega) B6
  replace f1:=bA C (by omega) f1
  replace Q:=zA (vA Q.o C)
  replace j:w.heap.size+1<E.heap.size:=by omega
  replace B8:w.heap.size<E.heap.size:=by omega
  clear C;by_cases hs:24 - u<n
  .have A9:Hid (takeE h u n=6):=by rw[Hid,takeE,Qb hE,Rb hs]
   have A:Hid (takeH h u n=h/\takeU h u n=u/\takeL h u n=[]):=by simp[Hid,takeH,takeU,takeL,A9.o]
   clear B1 hE;go_wp2;refine Tb (v:=S #[F #[H G h,H G u],M Z 0 0,H G 6]) (by simp[results,results210,go_sem,B0,L]) rfl ⟨Z,0,by rw[A9.o,A.o.1,A.o.2.1,A.o.2.2];rfl,⟨.inl A.o.2.2,λ_ _ e=>(by cases e),(by rw[A.o.2.2];exact Sb _)⟩,?_⟩
   repeat refine Zb ?_ (by simp) _
   exact Q.o
  .have A9:Hid (takeE h u n=0):=by rw[Hid,takeE,Qb hE,Qb hs]
   obtain⟨m,rfl⟩:=Jd (show 0<=n by omega);have A:Hid (takeH h u m=(h+m)%24/\takeU h u m=u+m/\takeL h u m=OB h m):=by simp[Hid,takeH,takeU,takeL,A9.o]
   have A0:m<=24:=by omega
   clear B1 hE;have p:=EP m (by omega);go_wp2;clear p
   go_loopw [28] (λi wr=>∃k:Nat,k<=m/\i=H G k/\Hid (wr.ownsRow E.heap.size 3 1 (M (J ⟨E.heap.size,0,Z⟩) m m) m (VB (OB h k) (m - k)))/\Below E.heap.size E wr) (λi _=>m - (intOf i).toNat)
   case atStart=>exact⟨0,Vb _,rfl,gM m (by omega) E E.heap.size (Sb _),qA _ _⟩
   case round=>
    obtain⟨k,hk,rfl,B5,B⟩:=hrel;have A3:=B.size;have A2:w.heap.size<wr.heap.size:=by omega
    have z0:=xA B (by omega) R;have z1:=xA B (by omega) U;by_cases B3:k<m
    .have A1:(k:Int)<(m:Int):=by omega
     have D:=B5.o;rw[show m - k=(m - k - 1)+1 from by omega]at D;have X:=mQ D;have B4:=jO D ((h+(k:Int))%24);rw[xD]at X B4;obtain⟨⟨u0,hu⟩,A7,_,_,_⟩:=X;rw[<-lQ]at B4;have x:=zA B4;clear B4 D B5;go_wp2_with (go_at_call 228;refine(jQ _ _ (by omega) (by omega)).mono ?_;rintro e w' ⟨rfl,rfl⟩)
     go_roundw
     case rel=>exact⟨k+1,by omega,by go_num,by rw[show m - (k+1)=m - k - 1 from by omega];exact x,B.setCell (by simp) _⟩
     case measure=>simp[intOf];omega
    .have e:m=k:=by omega
     subst e;have B7:=B5.o;rw[Fe,zP]at B7;obtain⟨a2,c2,a,s,d⟩:=SegI.of_owns B7;rw[xD]at a;simp only[Value.slice.injEq]at a;obtain⟨r,_,l⟩:=a;subst r l;have y:=zA s;have c:=zA d;have q:=zA (vA Q.o B)
     replace B0:=xA B (by omega) B0
     replace L:=xA B (by omega) L
     replace B6:=bA B (by omega) B6
     replace f1:=bA B (by omega) f1
     clear B5 B7 s d B R U;have A6:IntKind.i64.wrap (h+(m:Int))=h+(m:Int):=by rw[Bc];omega
     have A4:IntKind.i64.wrap (u+(m:Int))=u+(m:Int):=by rw[Bc];omega
     go_wp2
     go_region_with (go_at_call 228;refine(jQ (h+(m:Int)) _ (by omega) (by omega)).mono ?_;rintro e w' ⟨rfl,rfl⟩)
     all_goals
      go_wp2;refine Tb (v:=S #[F #[H G ((h+(m:Int))%24),H G (u+m)],M (J ⟨E.heap.size,0,Z⟩) m m,H G 0]) (by simp[results,results210,go_sem,B0,L]) rfl ⟨_,m,by rw[A9.o,A.o.1,A.o.2.1,A.o.2.2,xD],⟨?_,λb A8 e=>(by have:=c.o b A8 e;omega),(by rw[A.o.2.2,xD];exact Sb _)⟩,?_⟩
      .rw[A.o.2.2];rcases y.o with h|⟨b,A8,e,B3,hc⟩
       .exact .inl h
       .have:=c.o b A8 e;exact .inr ⟨b,A8,e,by simpa[World.setCell] using B3,λi hi=>lC (lC (hc i hi) (by simp;omega)) (by simp;omega)⟩
      .exact((q.o.setCell (by simp) _).setCell (by simp) _).drew
