import Derived.Test.YtjnpndfpajjihadGreatRows
import Derived.ProofKit
import Derived.ChangeSlices
import Derived.Deep.Slices
import Derived.Lib.SmallJoins
import Derived.Test.YtjnpndfpajjihadGreatGrJournalRuns20
set_option maxRecDepth 100000
set_option maxHeartbeats 40000000
namespace Go.Proofs.YtjnpndfpajjihadGreat
open Go.RowKit Go.ChangeShapes Go.WideShapes Go.Deep Go.Joins
open IntKind renaming i64 -> G
open Option renaming none -> Z,some -> J
open Bool renaming true -> I
open Go renaming World -> K,Value -> E
variable{fuel:Nat}{v:Value}
theorem eU:Tryz.prog.cellsOf 24=5:=by kernel_rfl
section
variable {H:Type} {enc:TypeId×Value->H} {w:World} {spare:Nat->Bool} {held:Bool}
end
open Go.Proofs.Tryz
open Go.RowKit Go.ChangeShapes Go.WideShapes Go.Deep Go.Joins
theorem cZ{x:Int}(h:(Lit.int G x).wf=I):x<=9223372036854775807:=by
 simp[Lit.wf,IntKind.min,IntKind.max,IntKind.bits,IntKind.signed]at h;omega
theorem Za{w:K}{x:Addr}(h:w.cell? (x.add 0)=J v):∃b D,x=⟨b,D,Z⟩/\b<w.heap.size:=by
 obtain⟨b,D,A⟩:=x;have B:A=Z:=by simpa[Addr.add] using World.cell?_spot h
 subst B;exact⟨b,D,rfl,by simpa[Addr.add] using World.block_lt_of_cell? w _ h⟩
section
variable {H:Type} {enc:TypeId×Value->H} {w:World} {spare:Nat->Bool} {held:Bool}
theorem BS{c0 c1 c2 c3 c4:E}{y:DataW H×List MemPlace}(c:DataW.trod enc prog w 0 spare held fuel 24 [c0,c1,c2,c3,c4]=J y):
  ∃u:Ac,c0=.int G u.kind/\c1=.int G u.h/\c2=.int G u.b/\c3=.int G u.n/\c4=.string u.text/\OkA u:=by
 obtain⟨dt,p⟩:=y;obtain⟨S,n,_,hx,hl,B,A⟩:=DataW.trod_struct underlying24 c
 match S,B with
 |[y0,y1,y2,y3,y4],_=>
  have Q:prog.cellsOf 3=1:=by kernel_rfl
  have U:prog.cellsOf 9=1:=by kernel_rfl
  have a:=A 0 _ rfl;have M:=A 1 _ rfl;have D:=A 2 _ rfl;have F:=A 3 _ rfl;have K:=A 4 _ rfl;simp[Q,U]at a M D F K;obtain⟨k,C,_,w0⟩:=mg underlying3 a;obtain⟨hd,I,_,w1⟩:=mg underlying3 M;obtain⟨b,N,_,w2⟩:=mg underlying3 D;obtain⟨m,X,_,R⟩:=mg underlying3 F;obtain⟨s,L,_,O⟩:=DataW.trod_string underlying9 K;simp only[List.cons.injEq,and_true]at C I N X L;exact⟨⟨k,hd,b,m,s⟩,C,I,N,X,L,⟨cZ R,O⟩⟩
theorem zN{y:DataW H×List MemPlace}(h:DataW.trod enc prog w 0 spare held fuel 22 [v]=J y):
  ∃(a:Option Addr) (c:Nat) (l:List Ac),v=.slice a l.length c/\SegA w a l/\l.length<=maxLen/\∀x∈l,OkA x:=by
 rcases open_slice underlying22 h with⟨Q,_⟩|⟨x,l,c,m,n,D,Pl,Q,_,hl,hm,R,hy,X⟩
 .simp only[List.cons.injEq,and_true]at Q;exact⟨Z,0,[],Q,.inl rfl,by decide,λs j=>by cases j⟩
 .simp only[List.cons.injEq,and_true]at Q;have A0:l<=m:=by rw[R];split<;>omega
  have each:∀i,i<l->∃u:Ac,(w.cell? (x.add (i*5))=J (.int G u.kind)/\w.cell? ((x.add (i*5)).add 1)=J (.int G u.h)/\w.cell? ((x.add (i*5)).add 2)=J (.int G u.b)/\w.cell? ((x.add (i*5)).add 3)=J (.int G u.n)/\w.cell? ((x.add (i*5)).add 4)=J (.string u.text))/\OkA u:=by
   intro i C;obtain⟨M,A,F⟩:=X i (by omega);rw[eU]at A
   have L:M.length=5:=by first|exact(Pe A).1|exact(Pe A).2.1
   match M,L,A,F with
   |[u0,u1,u2,u3,u4],_,A,F=>
    have c0:=(Pe A).2.2 0 (by omega);have c1:=(Pe A).2.2 1 (by omega);have c2:=(Pe A).2.2 2 (by omega);have c3:=(Pe A).2.2 3 (by omega);have c4:=(Pe A).2.2 4 (by omega);rw[show Addr.add (x.add (i*5)) 0=x.add (i*5) from by simp[Addr.add]]at c0;obtain⟨u,rfl,rfl,rfl,rfl,rfl,K⟩:=BS F;exact⟨u,⟨by simpa using c0,by simpa using c1,by simpa using c2,by simpa using c3,by simpa using c4⟩,K⟩
  haveI:Inhabited Ac:=⟨ac0⟩
  obtain⟨f,E⟩:=choose_lt (α:=Ac) each;have B:((List.range l).map f).length=l:=by simp
  refine⟨J x,c,(List.range l).map f,by rw[B];exact Q,?_,by rw[B];omega,?_⟩
  .by_cases h0:l=0
   .left;rw[h0];rfl
   .right;have d:=(E 0 (by omega)).1.1;rw[Ye]at d;obtain⟨b,I,rfl,hb⟩:=Za d;refine⟨b,I,rfl,hb,λi C=>?_⟩;rw[B]at C;have g:=(E i C).1;simp only[Addr.add_lit]at g;have e:((List.range l).map f).getD i ac0=f i:=by rw[List.getD,Ld,Cf C];rfl
    rw[e];exact g
  .intro u N;obtain⟨i,C,rfl⟩:=Wc.1 N;exact(E i (ae.1 C)).2
end
