import Derived.Test.YtjnpndfpajjihadGreatGrJournalRuns1
import Derived.Test.YtjnpndfpajjihadGreatGrJournalRuns9
set_option maxRecDepth 100000
set_option maxHeartbeats 40000000
namespace Go.Proofs.YtjnpndfpajjihadGreat
open Go.Proofs.Tryz
open Go.RowKit
open Value renaming int -> H,slice -> M,string -> A,bool -> Y,agg -> F
open IntKind renaming i64 -> G
open Option renaming none -> Z,some -> J
open Bool renaming false -> O,true -> I
open Go renaming World -> K,Value -> E
open Obj renaming cells -> T
open Ending renaming returned -> N
open _root_.ByteArray renaming empty -> U
theorem bC(n l m:Int)(w:K):
  Calls prog 104 #[H G n,H G l,H G m] w λe B=>e=N (Y (sA n l m))/\w=B:=by
 by_cases h0:l<=n<;>by_cases h1:n<=m
 all_goals
  go_enter func104,ntmps104;go_wp2;go_ret;exact⟨by simp[sA,h0,h1],rfl⟩
def onB (t:Tx)(h:Int):Bool:=sA h 0 2&&(IA t h).on
theorem AK(B X L:Bool)(D Q R:Int)(w:K):(Instr.index 50 (F #[Y B,H G D,Y X,H G Q,Y L,H G R]) (H G 0)).run prog w=.ok (F #[Y B,H G D]) w:=by kernel_rfl
theorem uL(L D R:Bool)(Q B X:Int)(w:K):(Instr.index 50 (F #[Y L,H G Q,Y D,H G B,Y R,H G X]) (H G 1)).run prog w=.ok (F #[Y D,H G B]) w:=by kernel_rfl
theorem OJ(L X B:Bool)(Q R D:Int)(w:K):(Instr.index 50 (F #[Y L,H G Q,Y X,H G R,Y B,H G D]) (H G 2)).run prog w=.ok (F #[Y B,H G D]) w:=by kernel_rfl
theorem GD(h:Hd):hdB h=sA h.left 0 (if h.on then 24 else 0):=by
 rw[Of,nC,QC];cases h.on
 .simp;omega
 .simp
theorem BY(c j d:Hd)(w:K):
  Calls prog 158 #[F #[Y c.on,H G c.left,Y j.on,H G j.left,Y d.on,H G d.left]] w λe R=>e=N (Y (hdB c&&hdB j&&hdB d))/\Below w.heap.size w R:=by
 obtain⟨a,C⟩:=c;obtain⟨J,D⟩:=j;obtain⟨b,E⟩:=d;go_enter func158,ntmps158;go_wp2
 go_loopw [7] (λi wr=>∃k:Nat,k<=3/\i=H G k/\Hid ((1<=k->hdB ⟨a,C⟩=I)/\(2<=k->hdB ⟨J,D⟩=I)/\(3<=k->hdB ⟨b,E⟩=I))/\Below w.heap.size w wr) (λi _=>3 - (intOf i).toNat)
 case atStart=>exact⟨0,by omega,rfl,⟨λh=>by omega,λh=>by omega,λh=>by omega⟩,qA _ _⟩
 case round=>
  obtain⟨k,m,rfl,X,L⟩:=hrel;have l:k=0\/k=1\/k=2\/k=3:=by omega
  have B:=λo=>L.alloc L.size o;clear m;rcases l with rfl|rfl|rfl|rfl
  .have M:=AK a J b C D E;cases a
   .cases hw:sA C 0 0 with
    |false=>
     have A:Hid (hdB ⟨O,C⟩=O):=by rw[Hid,GD ⟨O,C⟩];exact hw
     go_wp2_with (go_at_call 104;refine(bC _ _ _ _).mono ?_;rintro e R ⟨rfl,rfl⟩);go_ret;exact⟨by rw[A.o];simp,B _⟩
    |true=>
     have A:Hid (hdB ⟨O,C⟩=I):=by rw[Hid,GD ⟨O,C⟩];exact hw
     go_wp2_with (go_at_call 104;refine(bC _ _ _ _).mono ?_;rintro e R ⟨rfl,rfl⟩)
     go_roundw
     case rel=>exact⟨1,by omega,by go_num,⟨λ_=>A.o,λh=>by omega,λh=>by omega⟩,B _⟩
     case measure=>simp[intOf]
   .cases hw:sA C 0 24 with
    |false=>
     have A:Hid (hdB ⟨I,C⟩=O):=by rw[Hid,GD ⟨I,C⟩];exact hw
     go_wp2_with (go_at_call 104;refine(bC _ _ _ _).mono ?_;rintro e R ⟨rfl,rfl⟩);go_ret;exact⟨by rw[A.o];simp,B _⟩
    |true=>
     have A:Hid (hdB ⟨I,C⟩=I):=by rw[Hid,GD ⟨I,C⟩];exact hw
     go_wp2_with (go_at_call 104;refine(bC _ _ _ _).mono ?_;rintro e R ⟨rfl,rfl⟩)
     go_roundw
     case rel=>exact⟨1,by omega,by go_num,⟨λ_=>A.o,λh=>by omega,λh=>by omega⟩,B _⟩
     case measure=>simp[intOf]
  .have M:=uL a J b C D E;cases J
   .cases hw:sA D 0 0 with
    |false=>
     have A:Hid (hdB ⟨O,D⟩=O):=by rw[Hid,GD ⟨O,D⟩];exact hw
     go_wp2_with (go_at_call 104;refine(bC _ _ _ _).mono ?_;rintro e R ⟨rfl,rfl⟩);go_ret;exact⟨by rw[A.o];simp,B _⟩
    |true=>
     have A:Hid (hdB ⟨O,D⟩=I):=by rw[Hid,GD ⟨O,D⟩];exact hw
     go_wp2_with (go_at_call 104;refine(bC _ _ _ _).mono ?_;rintro e R ⟨rfl,rfl⟩)
     go_roundw
     case rel=>exact⟨2,by omega,by go_num,⟨λ_=>X.o.1 (by omega),λ_=>A.o,λh=>by omega⟩,B _⟩
     case measure=>simp[intOf]
   .cases hw:sA D 0 24 with
    |false=>
     have A:Hid (hdB ⟨I,D⟩=O):=by rw[Hid,GD ⟨I,D⟩];exact hw
     go_wp2_with (go_at_call 104;refine(bC _ _ _ _).mono ?_;rintro e R ⟨rfl,rfl⟩);go_ret;exact⟨by rw[A.o];simp,B _⟩
    |true=>
     have A:Hid (hdB ⟨I,D⟩=I):=by rw[Hid,GD ⟨I,D⟩];exact hw
     go_wp2_with (go_at_call 104;refine(bC _ _ _ _).mono ?_;rintro e R ⟨rfl,rfl⟩)
     go_roundw
     case rel=>exact⟨2,by omega,by go_num,⟨λ_=>X.o.1 (by omega),λ_=>A.o,λh=>by omega⟩,B _⟩
     case measure=>simp[intOf]
  .have M:=OJ a J b C D E;cases b
   .cases hw:sA E 0 0 with
    |false=>
     have A:Hid (hdB ⟨O,E⟩=O):=by rw[Hid,GD ⟨O,E⟩];exact hw
     go_wp2_with (go_at_call 104;refine(bC _ _ _ _).mono ?_;rintro e R ⟨rfl,rfl⟩);go_ret;exact⟨by rw[A.o];simp,B _⟩
    |true=>
     have A:Hid (hdB ⟨O,E⟩=I):=by rw[Hid,GD ⟨O,E⟩];exact hw
     go_wp2_with (go_at_call 104;refine(bC _ _ _ _).mono ?_;rintro e R ⟨rfl,rfl⟩)
     go_roundw
     case rel=>exact⟨3,by omega,by go_num,⟨λ_=>X.o.1 (by omega),λ_=>X.o.2.1 (by omega),λ_=>A.o⟩,B _⟩
     case measure=>simp[intOf]
   .cases hw:sA E 0 24 with
    |false=>
     have A:Hid (hdB ⟨I,E⟩=O):=by rw[Hid,GD ⟨I,E⟩];exact hw
     go_wp2_with (go_at_call 104;refine(bC _ _ _ _).mono ?_;rintro e R ⟨rfl,rfl⟩);go_ret;exact⟨by rw[A.o];simp,B _⟩
    |true=>
     have A:Hid (hdB ⟨I,E⟩=I):=by rw[Hid,GD ⟨I,E⟩];exact hw
     go_wp2_with (go_at_call 104;refine(bC _ _ _ _).mono ?_;rintro e R ⟨rfl,rfl⟩)
     go_roundw
     case rel=>exact⟨3,by omega,by go_num,⟨λ_=>X.o.1 (by omega),λ_=>X.o.2.1 (by omega),λ_=>A.o⟩,B _⟩
     case measure=>simp[intOf]
  .have Q:Hid ((hdB ⟨a,C⟩&&hdB ⟨J,D⟩&&hdB ⟨b,E⟩)=I):=by rw[Hid,X.o.1 (by omega),X.o.2.1 (by omega),X.o.2.2 (by omega)];rfl
   go_wp2;go_ret;exact⟨by rw[Q.o];rfl,L⟩
theorem oJ(a:Option Addr)(c:Nat)(l:List Int)(w:K)(h:SegI w a l)(X:l.length<=maxLen):
  Calls prog 156 #[M a l.length c] w λe Q=>e=N (Y (iA l))/\w=Q:=by
 unfold maxLen at X;have d:=zA h;clear h;go_enter func156,ntmps156;go_wp2
 go_loop [3,8] (λq i=>∃k:Nat,k<=l.length/\i=H G k/\q=H G (lastNum (-1) (l.take k)+1)/\ -1<=lastNum (-1) (l.take k)/\Hid (UA (-1) (l.take k)=I)) (λ_ i=>l.length - (intOf i).toNat)
 case atStart=>exact⟨0,Vb _,rfl,rfl,by simp[lastNum],by simp[Hid,UA]⟩
 case round=>
  obtain⟨k,hk,rfl,rfl,j,A⟩:=hrel;by_cases hlt:k<l.length
  .obtain⟨b,A2,rfl,hb,L⟩:=d.o.resolve_left (by intro e;rw[e]at hlt;simp at hlt);obtain⟨x,F⟩:∃x,x=l.getD k 0:=⟨_,rfl⟩;have m:=L k hlt;rw[<-F]at m;have n:Hid (l[k]?=J x):=by rw[F];exact YA _ _ _ hlt
   have D:Hid (l.take (k+1)=l.take k++[x]):=by rw[Hid,Oc,n.o];rfl
   clear F L;obtain⟨q,C⟩:∃q,q=lastNum (-1) (l.take k):=⟨_,rfl⟩;have R:=zA C;rw[<-C]at j;rw[<-C];clear C;have A0:(k:Int)<(l.length:Int):=by omega
   cases hw:sA x (q+1) 11 with
   |false=>
    have B:Hid (iA l=O):=MH (-1) l (k+1) (by
     rw[D.o,nF,<-R.o]
     have:x<=q\/11<x:=by
      by_cases e:x<=q\/11<x
      .exact e
      .rw[QC.2 (by omega)]at hw;cases hw
     simp[this])
    clear A;go_wp2_with (go_at_call 104;refine(bC _ _ _ _).mono ?_;rintro e Q ⟨rfl,rfl⟩);go_ret;exact⟨by rw[B.o];rfl,rfl⟩
   |true=>
    have A1:=QC.1 hw
    have B:Hid (UA (-1) (l.take (k+1))=I):=by
     have:¬(x<=q\/11<x):=by omega
     rw[Hid,D.o,nF,A.o,<-R.o];simp[this]
    clear A;go_wp2_with (go_at_call 104;refine(bC _ _ _ _).mono ?_;rintro e Q ⟨rfl,rfl⟩)
    go_round
    case rel=>exact⟨k+1,by omega,by go_num,by rw[D.o,xG],by rw[D.o,xG];omega,B⟩
    case measure=>simp[intOf];omega
  .have e:k=l.length:=by omega
   have E:iA l=I:=by have:=A.o;rw[e,Lc]at this;exact this
   have B:=zA E;clear A E;go_wp2;go_ret;exact⟨by rw[B.o];rfl,rfl⟩
theorem qJ{l:List (Int×ByteArray)}{k:Nat}{x:Int×ByteArray}(h:l[k]?=J x):blksOf (l.take (k+1))=blksOf (l.take k)++[x.1]:=by
 rw[Oc,h];simp[blksOf]
theorem QE(l:List (Int×ByteArray)):(blksOf l).length=l.length:=by simp[blksOf]
theorem MO(a:Option Addr)(c:Nat)(l:List (Int×ByteArray))(w:K)(h:SegW w a l)(hn:l.length*24<=140737488355328):
  Calls prog 155 #[M a l.length c] w λe m=>∃b c2,e=N (M b l.length c2)/\SegI m b (blksOf l)/\Below w.heap.size w m:=by
 have Y:=zA h;clear h;have s:=EP l.length (by omega);go_enter func155,ntmps155;go_wp2;clear s
 go_loopw [11] (λi wr=>∃k:Nat,k<=l.length/\i=H G k/\Hid (wr.ownsRow w.heap.size 3 1 (M (J ⟨w.heap.size,0,Z⟩) l.length l.length) l.length (VB (blksOf (l.take k)) (l.length - k)))/\Below w.heap.size w wr) (λi _=>l.length - (intOf i).toNat)
 case atStart=>exact⟨0,Vb _,rfl,gM l.length (by omega) w w.heap.size (Sb _),qA _ _⟩
 case round=>
  obtain⟨k,hk,rfl,C,B⟩:=hrel;have A1:=B.size;by_cases hlt:k<l.length
  .obtain⟨b2,A2,rfl,hb,S⟩:=Y.o.resolve_left (by intro e;rw[e]at hlt;simp at hlt);obtain⟨x,j⟩:∃x,x=l.getD k (0,U):=⟨_,rfl⟩;obtain⟨I,E⟩:=S k hlt;rw[<-j]at I E;have q:Hid (l[k]?=J x):=by rw[j];exact YA _ _ _ hlt
   have g1:=xA B hb I;have g2:=xA B hb E;clear j S I E;obtain⟨n,t⟩:=x;have A0:(k:Int)<(l.length:Int):=by omega
   have Q:=B.alloc B.size (T #[H G n,A t] 99);have d:=dA C.o (qA wr (T #[H G n,A t] 99));rw[show l.length - k=(l.length - k - 1)+1 from by omega]at d;have p:=mQ d;have F:=jO d n;rw[QE,Nc,Nat.min_eq_left (by omega)]at p F;obtain⟨⟨u0,hu⟩,A3,_,hB,_⟩:=p;rw[<-qJ (x:=(n,t)) q.o]at F;have u:=zA F;clear F d C;go_wp2
   go_roundw
   case rel=>exact⟨k+1,by omega,by go_num,by rw[show l.length - (k+1)=l.length - k - 1 from by omega];exact u,Q.setCell (by simp) _⟩
   case measure=>simp[intOf];omega
  .have e:k=l.length:=by omega
   subst e;have D:=C.o;rw[Fe,zP,Lc]at D;obtain⟨b,c2,L,R,X⟩:=SegI.of_owns D;rw[QE]at L;simp only[Value.slice.injEq]at L;obtain⟨O,_,E⟩:=L;subst O E;have r:=zA R;clear C D R X;go_wp2;go_ret;exact⟨_,_,rfl,r.o,B⟩
theorem UH(h:Int)(w:K):
  Calls prog 103 #[H G h] w λe B=>e=N (Y (sA h 0 2))/\w=B:=by
 go_enter func103,ntmps103;go_wp2_with (go_at_call 104;refine(bC _ _ _ _).mono ?_;rintro e B ⟨rfl,rfl⟩);go_ret;exact⟨rfl,rfl⟩
theorem CP(v:E)(t:Tx)(h:Int)(w:K)(L:IsTx w v t):
  Calls prog 108 #[v,H G h] w λe D=>e=N (Y (onB t h))/\Below w.heap.size w D:=by
 obtain⟨a,c,a',c',b,d,rfl,_,_,_,_,_,_⟩:=L
 cases hw:sA h 0 2 with
 |false=>
  go_enter func108,ntmps108;go_wp2_with (go_at_call 103;refine(UH _ _).mono ?_;rintro e D ⟨rfl,rfl⟩);go_ret;exact⟨by rw[onB,hw];rfl,qA _ _⟩
 |true=>
  have B:=QC.1 hw;have C:h=0\/h=1\/h=2:=by omega
  clear B;rcases C with rfl|rfl|rfl
  .have A:Hid (onB t 0=t.h0.on):=by rw[Hid,onB,hw];rfl
   generalize t.h0.on=o at A;cases o
   all_goals
    go_enter func108,ntmps108;go_wp2_with (go_at_call 103;refine(UH _ _).mono ?_;rintro e D ⟨rfl,rfl⟩);go_ret;exact⟨by rw[A.o];rfl,qA _ _⟩
  .have A:Hid (onB t 1=t.h1.on):=by rw[Hid,onB,hw];rfl
   generalize t.h1.on=o at A;cases o
   all_goals
    go_enter func108,ntmps108;go_wp2_with (go_at_call 103;refine(UH _ _).mono ?_;rintro e D ⟨rfl,rfl⟩);go_ret;exact⟨by rw[A.o];rfl,qA _ _⟩
  .have A:Hid (onB t 2=t.h2.on):=by rw[Hid,onB,hw];rfl
   generalize t.h2.on=o at A;cases o
   all_goals
    go_enter func108,ntmps108;go_wp2_with (go_at_call 103;refine(UH _ _).mono ?_;rintro e D ⟨rfl,rfl⟩);go_ret;exact⟨by rw[A.o];rfl,qA _ _⟩
theorem pZ(n free:Int)(w:K):
  Calls prog 105 #[H G n,H G free] w λe D=>e=N (Y (decide (n<=24)&&decide (RA n<=free)))/\w=D:=by
 by_cases h:n<=24
 .obtain⟨k,A⟩:∃k,k=RA n:=⟨_,rfl⟩;have B:=zA A;by_cases h2:k<=free
  all_goals
   rw[<-A];clear A;go_enter func105,ntmps105;go_wp2_with (go_at_call 159;refine(TU _ _).mono ?_;rw[<-B.o];rintro e D ⟨rfl,rfl⟩);go_ret;exact⟨by simp[h,h2],rfl⟩
 .go_enter func105,ntmps105;go_wp2;go_ret;exact⟨by rw[show decide (n<=24)=O from by simpa using h];rfl,rfl⟩
theorem xU(v:E)(t:Tx)(w:K)(h:IsTx w v t):
  Calls prog 106 #[v] w λe D=>e=N (H G (jB t))/\Below w.heap.size w D:=by
 obtain⟨a,c,a',c',b,d,rfl,_,_,_,B,A,C⟩:=h;clear B A C;have i0:=AK t.h0.on t.h1.on t.h2.on t.h0.left t.h1.left t.h2.left;have i1:=uL t.h0.on t.h1.on t.h2.on t.h0.left t.h1.left t.h2.left;have i2:=OJ t.h0.on t.h1.on t.h2.on t.h0.left t.h1.left t.h2.left;go_enter func106,ntmps106;go_wp2;refine wp_loop_rounds 4 ?_;rw[Ae];go_wp2;rw[Ae];go_wp2;rw[Ae];go_wp2;rw[Ae];go_wp2;go_ret;refine⟨rfl,?_⟩
 repeat refine Below.alloc ?_ (by first|(simp;done)|(simp;omega)) _
 exact Ub _ _
