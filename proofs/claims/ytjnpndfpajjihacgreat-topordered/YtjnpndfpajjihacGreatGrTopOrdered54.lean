/-
  
-/
import Derived.Test.YtjnpndfpajjihacGreatRows
import Derived.ProofKit
import Derived.ChangeSlices
import Derived.Deep.Slices
import Derived.Lib.SmallJoins
import Derived.Test.YtjnpndfpajjihacGreatGrTopOrdered47
set_option maxRecDepth 100000
set_option maxHeartbeats 40000000
namespace Go.Proofs.YtjnpndfpajjihacGreat
open Go.RowKit Go.ChangeShapes Go.WideShapes Go.Deep Go.Joins
theorem z4t:Tryz.prog.cellsOf 23=5:=by kernel_rfl
section
variable {H:Type} {enc:TypeId×Value→H} {w:World} {spare:Nat→Bool} {held:Bool}
end
open Go.Proofs.Tryz
open Go.RowKit Go.ChangeShapes Go.WideShapes Go.Deep Go.Joins
theorem z6d{x:Int}(h:(Lit.int .i64 x).wf=true):x≤9223372036854775807:=by
 simp[Lit.wf,IntKind.min,IntKind.max,IntKind.bits,IntKind.signed]at h;omega
theorem z6e{w:World}{x:Addr}{v:Value}(h:w.cell? (x.add 0)=some v):∃b off,x=⟨b,off,none⟩∧b<w.heap.size:=by
 obtain⟨b,off,A⟩:=x;have B:A=none:=by simpa[Addr.add] using World.cell?_spot h
 subst B;exact⟨b,off,rfl,by simpa[Addr.add] using World.block_lt_of_cell? w _ h⟩
section
variable {H:Type} {enc:TypeId×Value→H} {w:World} {spare:Nat→Bool} {held:Bool}
theorem z1o{fuel:Nat}{c0 c1 c2 c3 c4:Value}{y:DataW H×List MemPlace}(hf:DataW.trod enc prog w 0 spare held fuel 23 [c0,c1,c2,c3,c4]=some y):
  ∃u:Ac,c0=.int .i64 u.kind∧c1=.int .i64 u.h∧c2=.int .i64 u.b∧c3=.int .i64 u.n∧c4=.string u.text∧OkA u:=by
 obtain⟨dt,p⟩:=y;obtain⟨Q,n,_,hx,hl,B,A⟩:=DataW.trod_struct underlying23 hf
 match Q,B with
 |[y0,y1,y2,y3,y4],_=>
  have S:prog.cellsOf 3=1:=by kernel_rfl
  have O:prog.cellsOf 9=1:=by kernel_rfl
  have F:=A 0 _ rfl;have E:=A 1 _ rfl;have C:=A 2 _ rfl;have D:=A 3 _ rfl;have N:=A 4 _ rfl;simp[S,O]at F E C D N;obtain⟨k,L,_,w0⟩:=DataW.trod_int underlying3 F;obtain⟨hd,K,_,w1⟩:=DataW.trod_int underlying3 E;obtain⟨b,J,_,w2⟩:=DataW.trod_int underlying3 C;obtain⟨m,M,_,R⟩:=DataW.trod_int underlying3 D;obtain⟨s,I,_,U⟩:=DataW.trod_string underlying9 N;simp only[List.cons.injEq,and_true]at L K J M I;exact⟨⟨k,hd,b,m,s⟩,L,K,J,M,I,⟨z6d R,U⟩⟩
theorem z1p{fuel:Nat}{v:Value}{y:DataW H×List MemPlace}(h:DataW.trod enc prog w 0 spare held fuel 49 [v]=some y):
  ∃(a:Option Addr) (c:Nat) (l:List Ac),v=.slice a l.length c∧SegA w a l∧l.length≤maxLen∧∀x∈l,OkA x:=by
 rcases open_slice underlying49 h with⟨hcs,_⟩|⟨x,l,c,m,n,D,Pl,hcs,_,hl,hm,hmm,hy,hel⟩
 ·simp only[List.cons.injEq,and_true]at hcs;exact⟨none,0,[],hcs,.inl rfl,by decide,fun s hs=>by cases hs⟩
 ·simp only[List.cons.injEq,and_true]at hcs;have A0:l≤m:=by rw[hmm];split<;>omega
  have each:∀i,i<l→∃u:Ac,(w.cell? (x.add (i*5))=some (.int .i64 u.kind)∧w.cell? ((x.add (i*5)).add 1)=some (.int .i64 u.h)∧w.cell? ((x.add (i*5)).add 2)=some (.int .i64 u.b)∧w.cell? ((x.add (i*5)).add 3)=some (.int .i64 u.n)∧w.cell? ((x.add (i*5)).add 4)=some (.string u.text))∧OkA u:=by
   intro i C;obtain⟨K,A,F⟩:=hel i (by omega);rw[z4t]at A
   have I:K.length=5:=by first|exact(World.cells?_some A).1|exact(World.cells?_some A).2.1
   match K,I,A,F with
   |[u0,u1,u2,u3,u4],_,A,F=>
    have c0:=(World.cells?_some A).2.2 0 (by omega);have c1:=(World.cells?_some A).2.2 1 (by omega);have c2:=(World.cells?_some A).2.2 2 (by omega);have c3:=(World.cells?_some A).2.2 3 (by omega);have c4:=(World.cells?_some A).2.2 4 (by omega);rw[show Addr.add (x.add (i*5)) 0=x.add (i*5) from by simp[Addr.add]]at c0;obtain⟨u,rfl,rfl,rfl,rfl,rfl,L⟩:=z1o F;exact⟨u,⟨by simpa using c0,by simpa using c1,by simpa using c2,by simpa using c3,by simpa using c4⟩,L⟩
  haveI:Inhabited Ac:=⟨ac0⟩
  obtain⟨f,E⟩:=choose_lt (α:=Ac) each;have B:((List.range l).map f).length=l:=by simp
  refine⟨some x,c,(List.range l).map f,by rw[B];exact hcs,?_,by rw[B];omega,?_⟩
  ·by_cases h0:l=0
   ·left;rw[h0];rfl
   ·right;have M:=(E 0 (by omega)).1.1;rw[Nat.zero_mul]at M;obtain⟨b,J,rfl,hb⟩:=z6e M;refine⟨b,J,rfl,hb,fun i C=>?_⟩;rw[B]at C;have g:=(E i C).1;simp only[Addr.add_lit]at g;have e:((List.range l).map f).getD i ac0=f i:=by rw[List.getD,List.getElem?_map,List.getElem?_range C];rfl
    rw[e];exact g
  ·intro u N;obtain⟨i,C,rfl⟩:=List.mem_map.1 N;exact(E i (List.mem_range.1 C)).2
end
