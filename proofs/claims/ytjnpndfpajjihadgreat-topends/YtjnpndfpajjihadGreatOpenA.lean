/- -/
import Derived.Test.YtjnpndfpajjihadGreatGrTopEnds0
import Derived.Test.YtjnpndfpajjihadGreatRows
import Derived.ProofKit
import Derived.ChangeSlices
import Derived.Deep.Slices
import Derived.Lib.SmallJoins
namespace Go.Proofs.YtjnpndfpajjihadGreat
set_option maxRecDepth 100000
set_option maxHeartbeats 40000000
open Go.RowKit Go.ChangeShapes Go.WideShapes Go.Deep Go.Joins
theorem zzg:Tryz.prog.cellsOf 24=5:=by kernel_rfl
theorem z2l {α:Type}{cs:Array α}(h:cs.size=5):∃c0 c1 c2 c3 c4,cs=#[c0,c1,c2,c3,c4]:=by
 obtain⟨l⟩:=cs
 match l,h with
 |[c0,c1,c2,c3,c4],_=>exact⟨c0,c1,c2,c3,c4,rfl⟩
section
variable {H:Type} {enc:TypeId×Value→H} {w:World} {spare:Nat→Bool} {held:Bool}
theorem zv7 {P:Program}{r:Reach}{b0 base:Nat}{t:TypeId}{f0 f1 f2 f3 f4:Field}{v:Value}{d:DataW H}{p:List MemPlace}(hs:P.underlying t=some (.struct #[f0,f1,f2,f3,f4]))(hone:oneCellFields P #[f0,f1,f2,f3,f4]=true)(hC:P.cellsOf t=5)
  (hv:Value.okWide P w r b0 t v) (h:DataW.Trod enc P w base spare held t v d p):
  ∃(v0 v1 v2 v3 v4:Value) (y0 y1 y2 y3 y4:DataW H×List MemPlace) (n:Nat),v=.agg #[v0,v1,v2,v3,v4]∧
   DataW.trod enc P w base spare held n f0.type [v0]=some y0∧DataW.trod enc P w base spare held n f1.type [v1]=some y1∧DataW.trod enc P w base spare held n f2.type [v2]=some y2∧DataW.trod enc P w base spare held n f3.type [v3]=some y3∧DataW.trod enc P w base spare held n f4.type [v4]=some y4:=by
 obtain⟨cs,rfl,hsz⟩:=okWide_struct hs hv
 obtain⟨c0,c1,c2,c3,c4,rfl⟩:=z2l (hsz.trans hC)
 obtain⟨fuel,hf⟩:=h
 obtain⟨xs,n,_,hx,hl,hlen,hg⟩:=DataW.trod_struct hs hf
 match xs,hlen with
 |[y0,y1,y2,y3,y4],_=>
  obtain⟨o0,k0⟩:=hone_of hone 0 f0 rfl
  obtain⟨o1,k1⟩:=hone_of hone 1 f1 rfl
  obtain⟨o2,k2⟩:=hone_of hone 2 f2 rfl
  obtain⟨o3,k3⟩:=hone_of hone 3 f3 rfl
  obtain⟨o4,k4⟩:=hone_of hone 4 f4 rfl
  have h0:=hg 0 f0 rfl
  have h1:=hg 1 f1 rfl
  have h2:=hg 2 f2 rfl
  have h3:=hg 3 f3 rfl
  have h4:=hg 4 f4 rfl
  exact⟨c0,c1,c2,c3,c4,y0,y1,y2,y3,y4,n,rfl,by simpa[Value.cells,o0,k0] using h0,by simpa[Value.cells,o1,k1] using h1,by simpa[Value.cells,o2,k2] using h2,by simpa[Value.cells,o3,k3] using h3,by simpa[Value.cells,o4,k4] using h4⟩
theorem z1f {r:Reach}{b0:Nat}{v:Value}{dt:DataW H}{p:List MemPlace}(hv:Value.okWide Tryz.prog w r b0 24 v)(h:DataW.Trod enc Tryz.prog w 0 spare held 24 v dt p):
  ∃(k hd b n:Int) (s:ByteArray),v=.agg #[.int .i64 k,.int .i64 hd,.int .i64 b,.int .i64 n,.string s]∧((Lit.int .i64 k).wf=true∧(Lit.int .i64 hd).wf=true∧(Lit.int .i64 b).wf=true∧(Lit.int .i64 n).wf=true)∧s.size≤maxLen:=by
 obtain⟨v0,v1,v2,v3,v4,y0,y1,y2,y3,y4,m,rfl,t0,t1,t2,t3,t4⟩:=zv7 Tryz.underlying24 (by kernel_rfl) zzg hv h
 obtain⟨k,e0,_,w0⟩:=DataW.trod_int Tryz.underlying3 t0
 obtain⟨hd,e1,_,w1⟩:=DataW.trod_int Tryz.underlying3 t1
 obtain⟨b,e2,_,w2⟩:=DataW.trod_int Tryz.underlying3 t2
 obtain⟨n,e3,_,w3⟩:=DataW.trod_int Tryz.underlying3 t3
 obtain⟨s,e4,_,w4⟩:=DataW.trod_string Tryz.underlying9 t4
 simp only[List.cons.injEq,and_true] at e0 e1 e2 e3 e4
 subst e0 e1 e2 e3 e4
 exact⟨k,hd,b,n,s,rfl,⟨w0,w1,w2,w3⟩,w4⟩
end
end Go.Proofs.YtjnpndfpajjihadGreat

