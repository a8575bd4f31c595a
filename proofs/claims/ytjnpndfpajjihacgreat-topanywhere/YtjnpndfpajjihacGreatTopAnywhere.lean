/-
  Proved here: for every list of acts and every list of draws, the statement TopAnywhere about package journal returns true, and the arguments read behind the call as they read before.
  Conditions: none beyond the given row's own.
-/
import Derived.Test.YtjnpndfpajjihacGreatGrTopAnywhere51
import Derived.Test.YtjnpndfpajjihacGreatOpenAs
import Derived.OpenShut
import Derived.ChangeOld
import Derived.Below
import Derived.SizedLaws
namespace Go.Proofs.YtjnpndfpajjihacGreat
set_option maxRecDepth 100000
set_option maxHeartbeats 40000000
open Go.ChangeShapes Go.WideShapes Go.ChangeAt Go.RowKit
section
variable {H:Type} {enc:TypeId×Value→H} {w:World} {spare:Nat→Bool} {held:Bool}
theorem zx9 {fuel:Nat}{v:Value}{y:DataW H×List MemPlace}(h:DataW.trod enc Tryz.prog w 0 spare held fuel 35 [v]=some y):
  ∃(a:Option Addr) (c:Nat) (l:List Int),v=.slice a l.length c∧SegI w a l∧l.length≤maxLen∧∀x∈l, -9223372036854775808≤x∧x≤9223372036854775807:=by
 rcases open_ints Tryz.underlying35 Tryz.underlying3 z45 h with⟨hcs,_⟩|⟨x,l,c,zs,hcs,_,hl,hm,hz,hy,hcell,hwf⟩
 ·simp only[List.cons.injEq,and_true] at hcs;exact⟨none,0,[],hcs,.inl rfl,by decide,fun _ h=>by cases h⟩
 ·simp only[List.cons.injEq,and_true] at hcs;have hle:l≤zs.length:=by rw[hz];split<;>omega
  have hlen:(zs.take l).length=l:=by rw[List.length_take];omega
  refine⟨some x,c,zs.take l,by rw[hlen];exact hcs,?_,by rw[hlen];omega,fun z hzm=>?_⟩
  ·by_cases h0:l=0
   ·left;rw[h0];rfl
   ·right;obtain⟨b,off,rfl,hb⟩:=z6h (hcell 0 (by omega));refine⟨b,off,rfl,hb,fun i hi=>?_⟩;rw[hlen] at hi;have:=hcell i (by omega);rw[Addr.add_lit] at this;rw[this,List.getD,List.getD,List.getElem?_take,if_pos hi]
  ·have:=hwf z (List.mem_of_mem_take hzm);have e1:IntKind.i64.min= -9223372036854775808:=by decide
   have e2:IntKind.i64.max=9223372036854775807:=by decide
   simp only[Lit.wf,e1,e2,Bool.and_eq_true,decide_eq_true_eq] at this;exact this
end
namespace TopAnywhere
theorem own:ownKnob Tryz.prog.godebug=none:=by kernel_rfl
theorem z1s:laidOutB Tryz.prog=true:=by kernel_rfl
theorem z6i (os:Os)(started:os.Started)(H:Type)(enc:TypeId×Value→H):
  ReturnsInHanded {} Tryz.checked os 5 .any (Rows.topAnywhereSpec.pre6 enc Tryz.prog Tryz.f5 Rows.topAnywhereRow.domain false) (Rows.topAnywhereSpec.post enc Tryz.prog Tryz.f5 false true false false):=by
 refine returnsInHanded_of_change (C:=Tryz.checked) own started (by kernel_rfl) Tryz.func5
  (ChangeSpec.witness6 (enc:=enc) (C:=Tryz.checked) false ⟨#[],#[.slice none 0 0,.slice none 0 0],[]⟩ 8 (by kernel_rfl) (by kernel_rfl) (by kernel_rfl) (by kernel_rfl)) ?_
 intro W base args ds gs before hval0 hW hcnd _;have hval:∀(j:Nat) t v,Tryz.f5.params[j]?=some t→args[j]?=some v→Value.okWide Tryz.prog W .any base t v:=hval0;have hW':=hW;obtain⟨p,q,hA0,hV,rfl,hfz,hnd⟩:=hW;have hA:DataW.TrodAll enc Tryz.prog W 0 (fun _=>true) true Tryz.f5.params.toList args.toList ds p:=hA0;rw[Tryz.params5] at hA hval;obtain⟨v0,vs0,d0,ds0,p0,q0,hargs,rfl,rfl,h0,r0⟩:=trodAll_cons hA;obtain⟨v1,vs1,d1,ds1,p1,q1,rfl,rfl,rfl,h1,r1⟩:=trodAll_cons r0;obtain⟨rfl,rfl,rfl⟩:=trodAll_nil r1;obtain rfl:args=#[v0,v1]:=by cases args;simp_all
 obtain⟨rfl,rfl⟩:=trodVars_none hV;have k0:=h0;have lt0:∀x∈p0,x.block<W.heap.size:=by obtain⟨m,hm⟩:=k0;exact DataW.trod_lt m _ _ _ hm
 obtain⟨aa,na,ca,rfl⟩:=okWide_slice Tryz.underlying49 (hval 0 49 v0 rfl rfl);obtain⟨fu0,hf0⟩:=h0;obtain⟨a0,c0,l,hv0,hd,hl,hok⟩:=z1r (v:=.slice aa na ca) hf0;simp only[Value.slice.injEq] at hv0;obtain⟨rfl,rfl,rfl⟩:=hv0;have k1:=h1;have lt1:∀x∈p1,x.block<W.heap.size:=by obtain⟨m,hm⟩:=k1;exact DataW.trod_lt m _ _ _ hm
 obtain⟨ab,nb,cb,rfl⟩:=okWide_slice Tryz.underlying35 (hval 1 35 v1 rfl rfl);obtain⟨fu1,hf1⟩:=h1;obtain⟨a1,c1,l1,hv1,hd1,hl1,hw1⟩:=zx9 (v:=.slice ab nb cb) hf1;simp only[Value.slice.injEq] at hv1;obtain⟨rfl,rfl,rfl⟩:=hv1;clear hA0 hval0;refine(z3w aa ca l ab cb l1 W hd hl hok hd1 hl1 hw1).mono fun e W' ⟨he,bel⟩=>?_;subst he;exact⟨_,rfl,_,_,_,[],_,[],hW',trodAll_mk1 (shut_bool Tryz.underlying4 _),(trodAll_cons_mk (Below.trod z1s (by kernel_rfl) (of_decide_eq_true (by kernel_rfl)) k0 bel lt0) (trodAll_cons_mk (Below.trod z1s (by kernel_rfl) (of_decide_eq_true (by kernel_rfl)) k1 bel lt1) trodAll_mk0)),rfl,bel.frame _,fun h=>by cases h⟩
theorem over:Rows.topAnywhereRow.holds Tryz.pinned (OpenSpec.ofChange Rows.topAnywhereSpec):=
 OpenClaim.holds_of_wide 5 Tryz.f5 rfl rfl rfl rfl rfl rfl rfl ⟨rfl,rfl,rfl,rfl,rfl⟩ rfl rfl rfl rfl rfl (by kernel_rfl) Tryz.func5 (by kernel_rfl)
  (of_decide_eq_true (by kernel_rfl)) (by unfold Func.isWrapper;first|(rw[if_pos (by decide+kernel)];kernel_rfl)|(rw[if_neg (by decide+kernel)];exact⟨rfl,rfl⟩))
  (fun os started H enc _=>z6i os started H enc)
end TopAnywhere
theorem topAnywhere_holds:Rows.TopAnywhereSaid:=TopAnywhere.over
end Go.Proofs.YtjnpndfpajjihacGreat

