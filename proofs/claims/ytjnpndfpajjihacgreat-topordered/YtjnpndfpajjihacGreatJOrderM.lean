/- -/
import Derived.Test.YtjnpndfpajjihacGreatGrTopOrdered47
import Derived.Maps.AppendAt
namespace Go.Proofs.YtjnpndfpajjihacGreat
open Go.RowKit
def zgm (vs:Nat→Value):Array Value:=((List.range 12).map vs).toArray
def zjr (vs:Nat→Value)(b:Nat)(v:Value):Nat→Value:=fun x=>if x=b then v else vs x
theorem z1g(vs:Nat→Value){b:Nat}(hb:b<12):(zgm vs)[b]?=some (vs b):=by simp[zgm,hb]
theorem zx9(vs:Nat→Value)(b:Nat)(v:Value):(zgm vs).setIfInBounds b v=zgm (zjr vs b v):=by
 apply Array.ext
 ·simp[zgm]
 ·intro i h1 A;simp only[zgm,List.size_toArray,List.length_map,List.length_range]at A;by_cases e:b=i
  ·subst e;simp[zgm,zjr]
  ·rw[Array.getElem_setIfInBounds_ne (by simpa[zgm] using A) e];simp[zgm,zjr,Ne.symm e]
structure OrAt (W:World)(P B:Nat)(vs:Nat→Value)(G:Nat→List (Int×ByteArray)):Prop where
 box:W.heap[P]?=some (.cells (zgm vs) 62 (0,0))
 own:∀b,b<12→W.ownsRow (B+1) 65 2 (vs b) (G b).length (cellsC (G b).reverse)
 apart:∀b c,b<12→c<12→b≠c→∀q,(vs b).ownBlock=some q→(vs c).ownBlock≠some q
theorem zmu{w w':World}{base:Nat}{e:TypeId}{size:Nat}{v:Value}{n:Nat}{xs:List Value}(h:w.ownsRow base e size v n xs){Z:List Nat}{m:Nat}(hb:ButL Z m w w')(hm:∀q,v.ownBlock=some q→q<m∧q∉Z):w'.ownsRow base e size v n xs:=by
 refine⟨h.1,?_⟩;rcases h.2 with h0|⟨g,cap,cur,hv,hg,hh,r⟩
 ·exact .inl h0
 ·have:=hm g (by rw[hv];rfl);exact .inr ⟨g,cap,cur,hv,hg,by rw[hb.block g this.1 this.2];exact hh,r⟩
theorem zch{w:World}{base:Nat}{e:TypeId}{size:Nat}{v:Value}{n:Nat}{xs:List Value}(h:w.ownsRow base e size v n xs){q:Nat}(hq:v.ownBlock=some q):base≤q∧q<w.heap.size:=by
 rcases h.2 with⟨rfl,_⟩|⟨g,cap,cur,rfl,hb,hg,_⟩
 ·cases hq
 ·have:g=q:=by simpa[Value.ownBlock] using hq
  subst this;exact⟨hb,(Array.getElem?_eq_some_iff.1 hg).1⟩
theorem SegGo.of_owns{w:World}{base n:Nat}{v:Value}{l:List (Int×ByteArray)}(h:w.ownsRow base 65 2 v n (cellsC l)):∃a c,v=.slice a l.length c∧SegW w a l:=by
 have A:l.length=n:=by have:=h.1;rw[zc2]at this;omega
 subst A;rcases h.2 with⟨rfl,h0⟩|⟨g,cap,cur,rfl,hb,hg,rest⟩
 ·exact⟨none,0,by rw[h0],.inl (List.eq_nil_of_length_eq_zero h0)⟩
 ·refine⟨_,cap,rfl,.inr ⟨g,0,rfl,(Array.getElem?_eq_some_iff.1 hg).1,fun i hi=>?_⟩⟩;have e:=zln l i hi;rw[Nat.zero_add,h.cellAt (i*2) (by omega),h.cellAt (i*2+1) (by omega)];exact e
section
variable {W W':World} {P B:Nat} {vs:Nat→Value} {G:Nat→List (Int×ByteArray)}
theorem OrAt.lt(h:OrAt W P B vs G):P<W.heap.size:=(Array.getElem?_eq_some_iff.1 h.box).1
theorem OrAt.but(h:OrAt W P B vs G){Z:List Nat}(hb:ButL Z W.heap.size W W')(hP:P∉Z)(hq:∀b q,b<12→(vs b).ownBlock=some q→q∉Z):OrAt W' P B vs G:=
 ⟨(hb.block P h.lt hP).trans h.box,fun b hb2=>zmu (h.own b hb2) hb (fun q hq2=>⟨(zch (h.own b hb2) hq2).2,hq b q hb2 hq2⟩),h.apart⟩
theorem OrAt.below(h:OrAt W P B vs G)(hb:Below W.heap.size W W'):OrAt W' P B vs G:=h.but (Z:=[]) (ButL.of_below hb) (by simp) (by simp)
theorem OrAt.low(h:OrAt W P B vs G){Z:List Nat}(hb:ButL Z W.heap.size W W')(hP:P∉Z)(hZ:∀z∈Z,z≤B):OrAt W' P B vs G:=
 h.but hb hP fun b q hb2 hq hz=>by have:=(zch (h.own b hb2) hq).1;have:=hZ q hz;omega
theorem OrAt.cell(h:OrAt W P B vs G){b:Nat}(hb:b<12):W.cell? ⟨P,b,none⟩=some (vs b):=(cell_of_row W _ b _ _ _ h.box).trans (z1g vs hb)
theorem OrAt.set(h:OrAt W P B vs G)(hP:P≤B){b:Nat}{v:Value}{g:List (Int×ByteArray)}{Z:List Nat}(hbut:ButL Z W.heap.size W W')(hPZ:P∉Z)(hZ:∀q∈Z,q≤B∨(vs b).ownBlock=some q)(hb:b<12)(hv:W'.ownsRow (B+1) 65 2 v g.length (cellsC g.reverse))(hn:v.ownBlock=(vs b).ownBlock∨v.ownBlock=none∨∃q,v.ownBlock=some q∧W.heap.size≤q):
  OrAt (W'.setCell ⟨P,b,none⟩ v) P B (zjr vs b v) (fun x=>if x=b then g else G x):=by
 have F:∀{u n xs},W'.ownsRow (B+1) 65 2 u n xs→(W'.setCell ⟨P,b,none⟩ v).ownsRow (B+1) 65 2 u n xs:=fun{u n xs} hu=>zmu hu (Z:=[P]) (m:=W'.heap.size) ((ButL.refl _ _ _).set (.inl (by simp)) b v) (fun q A=>by
  have:=zch hu A
  exact⟨this.2,by simp;omega⟩)
 have old:∀c,c<12→c≠b→W'.ownsRow (B+1) 65 2 (vs c) (G c).length (cellsC (G c).reverse):=fun c C E=>zmu (h.own c C) hbut (fun q A=>by
  have J:=zch (h.own c C) A;refine⟨J.2,fun hz=>?_⟩;rcases hZ q hz with hz|hz
  ·omega
  ·exact h.apart c b C hb E q A hz)
 refine⟨?_,fun c C=>?_,fun c d C hd hcd q A=>?_⟩
 ·rw[←zx9];exact heap_setCell_same _ _ b _ _ _ ((hbut.block P h.lt hPZ).trans h.box)
 ·by_cases e:c=b
  ·subst e;simp only[zjr,if_true];exact F hv
  ·simp only[zjr,if_neg e];exact F (old c C e)
 ·have far:∀c,c<12→c≠b→∀q,(vs c).ownBlock=some q→v.ownBlock≠some q:=by
   intro c C E q A D;rcases hn with hn|hn|⟨q2,hn,hq2⟩
   ·rw[hn]at D;exact h.apart c b C hb E q A D
   ·rw[hn]at D;cases D
   ·rw[hn]at D;cases D;have:=(zch (h.own c C) A).2;omega
  by_cases e:c=b
  ·have I:d≠b:=fun x=>hcd (e.trans x.symm);simp only[zjr,if_pos e]at A;simp only[zjr,if_neg I];exact fun hd2=>far d hd I q hd2 A
  ·simp only[zjr,if_neg e]at A;by_cases I:d=b
   ·simp only[zjr,if_pos I];exact far c C e q A
   ·simp only[zjr,if_neg I];exact h.apart c d C hd hcd q A
theorem JAt.sub{w:World}{X Y:List Nat}{j:Jn}(h:JAt w B X j)(hY:∀y∈Y,y∈X)(hB:B∈Y):JAt w B Y j:=by
 obtain⟨_,e,d,c,J,Z,D,N,I,ne,M,a,Q,O,m,F,C,A,U,l,S,i,R,L,k⟩:=h
 exact⟨hB,e,d,c,J,Z,D,N,I,ne,M,a,Q,O,m,F,C,A,U,l,S,i,R,L,k.ext ⟨by rw[zbf,zbf];exact Nat.le_refl _,fun b o v hc=>by
  obtain⟨E,K⟩:=zbv hc
  exact zbz (fun hx=>E (hY b hx)) K⟩⟩
end
theorem z5w:(Tryz.prog.info? 65).map (fun i=>(i.zero,i.size,i.bytes))=some (some (.agg #[.int .i64 0,.string ⟨#[]⟩]),2,24):=by kernel_rfl
theorem z4r{ops:Array Oper}{Q:Exit→Act→World→Prop}{i:Nat}{o:Oper}{a:Act}{w:World}{K:Act→World→Prop}(hi:ops[i]?=some o)(hgd:o.guard=none)(s x:Operand)
  (ho:o.op=.call {callee:=.builtin .append,args:=#[s,x],argTypes:=#[61,61]})
  (base:Nat) (v:Value) (l:List (Int×ByteArray)) (hs:a.eval s=v) (hown:w.ownsRow base 65 2 v l.length (cellsC l)) (b:Nat) (y:Int×ByteArray) (hx:a.eval x=.slice (some ⟨b,0,none⟩) 1 1)
  (h0:w.cell? ⟨b,0,none⟩=some (.int .i64 y.1)) (h1:w.cell? ⟨b,1,none⟩=some (.string y.2)) (h63:l.length≤1000) (hbase:base≤w.heap.size)
  (h:∀v' w',w'.ownsRow base 65 2 v' (l++[y]).length (cellsC (l++[y]))→w.grownBy w' v.ownBlock→(v'.ownBlock=v.ownBlock∨v'.ownBlock=some w.heap.size)→K (a.put o.dst v') w'):wpOp Tryz.prog ops Q i K a w:=by
 obtain⟨I,F,D,E,C⟩:=info_parts z5w
 obtain⟨v',w',B,M,J,_,L⟩:=run_append_own_at (P:=Tryz.prog) w base 61 o.type 65 I (.agg #[.int .i64 0,.string ⟨#[]⟩]) 2 24 Tryz.underlying61 F D E C rfl (by decide) v l.length (cellsC l) hown ⟨b,0,none⟩ 1 1 (cellsC [y]) rfl (by
  intro j u A;rw[Addr.add_lit,Nat.zero_add]
  match j,A with
  |0,A=>simp[cellsC]at A;subst A;exact h0
  |1,A=>simp[cellsC]at A;subst A;exact h1
  |j+2,A=>simp[cellsC]at A) (zfm _) (by unfold maxLen;omega) (by omega) hbase
 refine z4n hi hgd ?_;unfold Oper.wp;simp[execOp,ho,resolve,invoke,builtin,hs,hx,B,Result.andThen];refine h v' w' ?_ J L;rw[zc3,List.length_append];exact M
