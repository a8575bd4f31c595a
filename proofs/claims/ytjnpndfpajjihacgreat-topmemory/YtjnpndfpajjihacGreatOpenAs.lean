/- -/
import Derived.Test.YtjnpndfpajjihacGreatOpenA
import Derived.Test.YtjnpndfpajjihacGreatGrTopMemory48
namespace Go.Proofs.YtjnpndfpajjihacGreat
set_option maxRecDepth 100000
set_option maxHeartbeats 40000000
open Go.RowKit Go.ChangeShapes Go.WideShapes Go.Deep Go.Joins
theorem z48 {x:Int}(h:(Lit.int .i64 x).wf=true):x≤9223372036854775807:=by
 simp[Lit.wf,IntKind.min,IntKind.max,IntKind.bits,IntKind.signed] at h;omega
theorem z49 {w:World}{x:Addr}{v:Value}(h:w.cell? (x.add 0)=some v):∃b off,x=⟨b,off,none⟩∧b<w.heap.size:=by
 obtain⟨b,off,spot⟩:=x;have hs:spot=none:=by simpa[Addr.add] using World.cell?_spot h
 subst hs;exact⟨b,off,rfl,by simpa[Addr.add] using World.block_lt_of_cell? w _ h⟩
section
variable {H:Type} {enc:TypeId×Value→H} {w:World} {spare:Nat→Bool} {held:Bool}
theorem z0m {fuel:Nat}{c0 c1 c2 c3 c4:Value}{y:DataW H×List MemPlace}(hf:DataW.trod enc Tryz.prog w 0 spare held fuel 23 [c0,c1,c2,c3,c4]=some y):
  ∃u:Ac,c0=.int .i64 u.kind∧c1=.int .i64 u.h∧c2=.int .i64 u.b∧c3=.int .i64 u.n∧c4=.string u.text∧OkA u:=by
 obtain⟨dt,p⟩:=y;obtain⟨xs,n,_,hx,hl,hlen,hg⟩:=DataW.trod_struct Tryz.underlying23 hf
 match xs,hlen with
 |[y0,y1,y2,y3,y4],_=>
  have hI:Tryz.prog.cellsOf 3=1:=by kernel_rfl
  have hS:Tryz.prog.cellsOf 9=1:=by kernel_rfl
  have h0:=hg 0 _ rfl;have h1:=hg 1 _ rfl;have h2:=hg 2 _ rfl;have h3:=hg 3 _ rfl;have h4:=hg 4 _ rfl;simp[hI,hS] at h0 h1 h2 h3 h4;obtain⟨k,e0,_,w0⟩:=DataW.trod_int Tryz.underlying3 h0;obtain⟨hd,e1,_,w1⟩:=DataW.trod_int Tryz.underlying3 h1;obtain⟨b,e2,_,w2⟩:=DataW.trod_int Tryz.underlying3 h2;obtain⟨m,e3,_,w3⟩:=DataW.trod_int Tryz.underlying3 h3;obtain⟨s,e4,_,w4⟩:=DataW.trod_string Tryz.underlying9 h4;simp only[List.cons.injEq,and_true] at e0 e1 e2 e3 e4;exact⟨⟨k,hd,b,m,s⟩,e0,e1,e2,e3,e4,⟨z48 w3,w4⟩⟩
theorem z0n {fuel:Nat}{v:Value}{y:DataW H×List MemPlace}(h:DataW.trod enc Tryz.prog w 0 spare held fuel 49 [v]=some y):
  ∃(a:Option Addr) (c:Nat) (l:List Ac),v=.slice a l.length c∧SegA w a l∧l.length≤maxLen∧∀x∈l,OkA x:=by
 rcases open_slice Tryz.underlying49 h with⟨hcs,_⟩|⟨x,l,c,m,n,D,Pl,hcs,_,hl,hm,hmm,hy,hel⟩
 ·simp only[List.cons.injEq,and_true] at hcs
  exact⟨none,0,[],hcs,.inl rfl,by decide,fun s hs=>by cases hs⟩
 ·simp only[List.cons.injEq,and_true] at hcs
  have hle:l≤m:=by rw[hmm];split<;>omega
  have each:∀i,i<l→∃u:Ac,(w.cell? (x.add (i*5))=some (.int .i64 u.kind)∧w.cell? ((x.add (i*5)).add 1)=some (.int .i64 u.h)∧w.cell? ((x.add (i*5)).add 2)=some (.int .i64 u.b)∧w.cell? ((x.add (i*5)).add 3)=some (.int .i64 u.n)∧w.cell? ((x.add (i*5)).add 4)=some (.string u.text))∧OkA u:=by
   intro i hi;obtain⟨cs,hc,ht⟩:=hel i (by omega);rw[z3o] at hc
   have hcl:cs.length=5:=by first|exact(World.cells?_some hc).1|exact(World.cells?_some hc).2.1
   match cs,hcl,hc,ht with
   |[u0,u1,u2,u3,u4],_,hc,ht=>
    have c0:=(World.cells?_some hc).2.2 0 (by omega);have c1:=(World.cells?_some hc).2.2 1 (by omega);have c2:=(World.cells?_some hc).2.2 2 (by omega);have c3:=(World.cells?_some hc).2.2 3 (by omega);have c4:=(World.cells?_some hc).2.2 4 (by omega);rw[show Addr.add (x.add (i*5)) 0=x.add (i*5) from by simp[Addr.add]] at c0;obtain⟨u,rfl,rfl,rfl,rfl,rfl,hok⟩:=z0m ht;exact⟨u,⟨by simpa using c0,by simpa using c1,by simpa using c2,by simpa using c3,by simpa using c4⟩,hok⟩
  haveI:Inhabited Ac:=⟨ac0⟩
  obtain⟨f,hf⟩:=choose_lt (α:=Ac) each;have hlen:((List.range l).map f).length=l:=by simp
  refine⟨some x,c,(List.range l).map f,by rw[hlen];exact hcs,?_,by rw[hlen];omega,?_⟩
  ·by_cases h0:l=0
   ·left;rw[h0];rfl
   ·right
    have hx:=(hf 0 (by omega)).1.1;rw[Nat.zero_mul] at hx;obtain⟨b,off,rfl,hb⟩:=z49 hx;refine⟨b,off,rfl,hb,fun i hi=>?_⟩;rw[hlen] at hi;have g:=(hf i hi).1;simp only[Addr.add_lit] at g;have e:((List.range l).map f).getD i ac0=f i:=by rw[List.getD,List.getElem?_map,List.getElem?_range hi];rfl
    rw[e];exact g
  ·intro u hu
   obtain⟨i,hi,rfl⟩:=List.mem_map.1 hu;exact(hf i (List.mem_range.1 hi)).2
end
end Go.Proofs.YtjnpndfpajjihacGreat

