import Derived.Test.YtjnpndfpajjihadGreatGrJournalRuns24
import Derived.Test.YtjnpndfpajjihadGreatGrJournalRuns28
import Derived.Test.YtjnpndfpajjihadGreatGrJournalRuns15
set_option maxRecDepth 100000
set_option maxHeartbeats 40000000
namespace Go.Proofs.YtjnpndfpajjihadGreat
open Go.RowKit
open Value renaming int -> H,slice -> M,string -> A,bool -> Y
open IntKind renaming i64 -> G
open Option renaming none -> Z,some -> J
open Bool renaming false -> O,true -> I
open Go renaming World -> K,Value -> E
open Ending renaming returned -> N
theorem VW{t:Tx}(h:nA t=I):Few t:=by
 have A:=iB h;have B:=(VA t).1 h;refine⟨A.2.2,A.1,((zB _).1 B.2.2.1.2.2).1,λx D=>?_⟩;exact((zB _).1 B.2.2.1.1).1 x.1 (Wc.2 ⟨x,D,rfl⟩)
open Go.Proofs.Tryz
theorem aS(a:Option Addr)(c:Nat)(l:List Tx)(b:Int)(w:K)(h:SegTx w a l)(hn:l.length<=maxLen):
  Calls prog 180 #[M a l.length c,H G b] w λe w'=>e=N (.tuple #[A ((newestF l b).getD ⟨#[]⟩),Y (newestF l b).isSome])/\Below w.heap.size w w':=by
 unfold maxLen at hn;have x:=zA h;clear h;go_enter func180,ntmps180;go_wp2
 go_loopw [6] (λi wr=>∃k:Nat,k<=l.length/\i=H G ((k:Int) - 1)/\Hid (newestF (l.take k) b=newestF l b)/\Hid (Below w.heap.size w wr)) (λi _=>(intOf i+1).toNat)
 case atStart=>exact⟨l.length,Sb _,by go_num,by rw[Lc];rfl,Ub _ _⟩
 case round=>
  obtain⟨k,hk,rfl,A5,B⟩:=hrel
  cases k with
  |zero=>
   have A3:Hid (newestF l b=Z):=A5.o.symm;clear A5;go_wp2;exact Tb (v:=.tuple #[A ⟨#[]⟩,Y O]) (by simp[results,results180,go_sem]) rfl ⟨by rw[A3.o];rfl,B.o⟩
  |succ j=>
   have u:(((j+1:Nat):Int) - 1)=(j:Int):=by omega
   rw[u];have A4:j<l.length:=by omega
   obtain⟨b2,A2,rfl,hb,m⟩:=x.o.resolve_left (by intro e;rw[e]at A4;simp at A4);obtain⟨t,A7⟩:∃t,t=l.getD j txz:=⟨_,rfl⟩;have HX:Hid (l[j]?=J t):=by rw[A7];exact PH A4
   have A9:=(m j A4).below B.o hb;rw[<-A7]at A9;obtain⟨a0,c0,a1,c1,r,d,⟨n,x1,z,Q,p,x5,x6,q,x8,y⟩,U⟩:=A9;obtain⟨X,_,B1,A8,_,R⟩:=U.rows;have B0:=zA X;have D:=zA B1;have S:=zA A8;have A6:=zA R;have A3:Hid (newestF l b=oD b (newestF (l.take j) b) t):=by rw[Hid,<-A5.o,vR HX.o]
   have A0:(j:Int)<(l.length:Int):=by omega
   have A1:(0:Int)<=(j:Int):=by omega
   clear A7 m U X B1 A8 R A5 n z p x5 x6 q x8 y;go_wp2_with fail;refine(xI a0 c0 t.info b _ B0.o S.o).mono ?_;rintro e w1 ⟨rfl,C⟩;have k3:=xA C (Xb hb B.o.size) Q;have E:=zA (vA B.o C)
   replace D:=zA (D.o.below C)
   clear C x1 Q B0 S
   cases hi:uA b t.info with
   |some s=>
    have F:Hid (newestF l b=J s):=by rw[Hid,A3.o,oD,hi];rfl
    clear A3 D A6;go_wp2;exact Tb (v:=.tuple #[A s,Y I]) (by simp[results,results180,go_sem]) rfl ⟨by rw[F.o];rfl,E.o⟩
   |none=>
    go_wp2_with fail;refine(jI r d t.rev b _ D.o A6.o).mono ?_;rintro e w2 ⟨rfl,rfl⟩;by_cases hr:tA t.rev b=I
    .have F:Hid (newestF l b=Z):=by rw[Hid,A3.o,oD,hi];simp[hr]
     clear A3 D A6;rw[hr];go_wp2;exact Tb (v:=.tuple #[A ⟨#[]⟩,Y O]) (by simp[results,results180,go_sem]) rfl ⟨by rw[F.o];rfl,E.o⟩
    .have L:tA t.rev b=O:=by simpa using hr
     have F:Hid (newestF (l.take j) b=newestF l b):=by rw[Hid,A3.o,oD,hi];simp[L]
     clear A3 D A6 hr;rw[L];go_wp2
     go_roundw
     case rel=>exact⟨j,by omega,by go_num,F,E⟩
     case measure=>simp[intOf]
theorem UO(a:Option Addr)(c:Nat)(l:List Tx)(w:K)(h:SegTx w a l)(d:l.length<=maxLen):
  Calls prog 115 #[M a l.length c] w λe R=>∃X,e=N X/\R.ownsRow w.heap.size 99 2 X (newestL l).length (cellsC (newestL l))/\Below w.heap.size w R:=by
 have p:=zA h;have n:=zA d;clear h d;go_enter func115,ntmps115;go_wp2
 go_loopw [3,7] (λv i wr=>∃k:Nat,k<=12/\i=H G k/\Hid (wr.ownsRow w.heap.size 99 2 v (asN (newestF l) k).length (cellsC (asN (newestF l) k)))/\Hid (Below w.heap.size w wr)) (λ_ i _=>12 - (intOf i).toNat)
 case atStart=>exact⟨0,Vb _,rfl,Kc _ _ _ _,Ub _ _⟩
 case round=>
  obtain⟨k,hk,rfl,A,C⟩:=hrel;by_cases hlt:k<12
  .have A0:(k:Int)<12:=by omega
   have hq:=QG (newestF l) k;have b:=zA (JD (newestF l) k);generalize asN (newestF l) k=q at *;go_wp2_with fail;refine(aS a c l (k:Int) wr (p.o.below C.o) n.o).mono ?_;rintro e j ⟨rfl,F⟩;have E:=zA (dA A.o F);have B:=zA (vA C.o F);clear A C F
   cases ht:newestF l (k:Int) with
   |none=>
    have D:Hid (asN (newestF l) (k+1)=q):=by rw[Hid,b.o,vC,ht];simp
    clear b;go_wp2
    go_roundw
    case rel=>exact⟨k+1,by omega,by go_num,by rw[D.o];exact E,B⟩
    case measure=>simp[intOf];omega
   |some u=>
    have D:Hid (asN (newestF l) (k+1)=q++[((k:Int),u)]):=by rw[Hid,b.o,vC,ht];rfl
    clear b;go_wp2_with (at_builtin;refine uG _ w w.heap.size rfl _ _ rfl _ q.length (cellsC q) rfl (dA E.o (qA _ _)) (J ⟨j.heap.size,0,Z⟩) 1 [((k:Int),u)] rfl (.inr ⟨j.heap.size,0,rfl,by simp,λi m=>?_⟩) (by simp;omega) (ac B.o.size (by simp)) (vA B.o (qA _ _)) ?_)
    .have:i=0:=by simpa using m
     subst this;exact⟨by simp[go_sem],by simp[go_sem]⟩
    .intro X R I L;clear E B;go_wp2
     go_roundw
     case rel=>exact⟨k+1,by omega,by go_num,by rw[D.o,Yb,FE];exact I,L⟩
     case measure=>simp[intOf];omega
  .have e:k=12:=by omega
   subst e;go_wp2;go_ret;exact⟨_,rfl,A.o,C.o⟩
section
variable {P:Program} {ops:Array Oper} {Q:Exit->Act->World->Prop} {md:Region.Mode} {S:World->Prop}
theorem jD(i:Nat)(o:Oper)(d:Tmp)(v:E){fuel:Nat}{listed:Array Bool}{a:Act}{w:K}
  (b:Region.noSelect ops=I) (D:Region.free md ops listed i=I) (X:(Region.ready md ops listed).contains i=I)
  (L:ops[i]?=J o) (hd:o.dst=J d) (B:Region.wanted o (yielded ops a.tmps)=I)
  (R:∀w,S w->(execOp a.eval o).run P w=.ok (.value v) w)
  (e:∀c a w,Q (.panic c) (a.put (J d) v) w->Q (.panic c) a w) (j:S w)
  (h:wpAnyH P md ops Q S fuel (listed.setIfInBounds i I) (a.put (J d) v) w):wpAnyH P md ops Q S (fuel+1) listed a w:=by
 refine wpAnyH_take (i:=i) (oi:=o) (v:=v) L b D X ?_ (Or.inl ⟨B,R⟩) j ?_
 .rw[hd];exact e
 .rw[hd];exact h
end
