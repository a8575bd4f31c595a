/-
  Proved here: for every list of acts, the statement TopSettles about package journal returns true, and the arguments read behind the call as they read before.
  Conditions: none beyond the given row's own.
-/
import Derived.Test.YtjnpndfpajjihacGreatGrTopSettles53
import Derived.Test.YtjnpndfpajjihacGreatGrTopSettles54
import Derived.OpenShut
import Derived.ChangeOld
import Derived.Below
import Derived.SizedLaws
namespace Go.Proofs.YtjnpndfpajjihacGreat
set_option maxRecDepth 100000
set_option maxHeartbeats 40000000
open Go.ChangeShapes Go.WideShapes Go.ChangeAt Go.RowKit Go.Deep
namespace TopSettles
theorem z3i {H:Type}{enc:TypeId×Value→H}{w:World}{spare:Nat→Bool}{held:Bool}{fuel:Nat}{a:Option Addr}{n c:Nat}{y:DataW H×List MemPlace}(h:DataW.trod enc Tryz.prog w 0 spare held fuel 49 [.slice a n c]=some y):n≤c:=by
 rcases open_slice Tryz.underlying49 h with⟨hcs,_⟩|⟨x,ln,cp,m,n',D,Pl,hcs,_,hle,_⟩
 ·simp only[List.cons.injEq,Value.slice.injEq,and_true] at hcs;omega
 ·simp only[List.cons.injEq,Value.slice.injEq,and_true] at hcs;omega
theorem own:ownKnob Tryz.prog.godebug=none:=by kernel_rfl
theorem z4o:laidOutB Tryz.prog=true:=by kernel_rfl
theorem z5u (os:Os)(started:os.Started)(H:Type)(enc:TypeId×Value→H):
  ReturnsInHanded {} Tryz.checked os 10 .any (Rows.topSettlesSpec.pre6 enc Tryz.prog Tryz.f10 Rows.topSettlesRow.domain false) (Rows.topSettlesSpec.post enc Tryz.prog Tryz.f10 false true false false):=by
 refine returnsInHanded_of_change (C:=Tryz.checked) own started (by kernel_rfl) Tryz.func10
  (ChangeSpec.witness6 (enc:=enc) (C:=Tryz.checked) false ⟨#[],#[.slice none 0 0],[]⟩ 8 (by kernel_rfl) (by kernel_rfl) (by kernel_rfl) (by kernel_rfl)) ?_
 intro W base args ds gs before hval0 hW hcnd _;have hval:∀(j:Nat) t v,Tryz.f10.params[j]?=some t→args[j]?=some v→Value.okWide Tryz.prog W .any base t v:=hval0;have hW':=hW;obtain⟨p,q,hA0,hV,rfl,hfz,hnd⟩:=hW;have hA:DataW.TrodAll enc Tryz.prog W 0 (fun _=>true) true Tryz.f10.params.toList args.toList ds p:=hA0;rw[Tryz.params10] at hA hval;obtain⟨v0,vs0,d0,ds0,p0,q0,hargs,rfl,rfl,h0,r0⟩:=trodAll_cons hA;obtain⟨rfl,rfl,rfl⟩:=trodAll_nil r0;obtain rfl:args=#[v0]:=by cases args;simp_all
 obtain⟨rfl,rfl⟩:=trodVars_none hV;have k0:=h0;have lt0:∀x∈p0,x.block<W.heap.size:=by obtain⟨m,hm⟩:=k0;exact DataW.trod_lt m _ _ _ hm
 obtain⟨aa,na,ca,rfl⟩:=okWide_slice Tryz.underlying49 (hval 0 49 v0 rfl rfl);obtain⟨fu0,hf0⟩:=h0;have hcap:na≤ca:=z3i (a:=aa) hf0;obtain⟨a0,c0,l,hv0,hd,hl,hok⟩:=z1g (v:=.slice aa na ca) hf0;simp only[Value.slice.injEq] at hv0;obtain⟨rfl,rfl,rfl⟩:=hv0;clear hA0 hval0;refine(zr9 aa ca l W hd hl hok hcap).mono fun e W' ⟨he,bel⟩=>?_;subst he;exact⟨_,rfl,_,_,_,[],_,[],hW',trodAll_mk1 (shut_bool Tryz.underlying4 _),(trodAll_cons_mk (Below.trod z4o (by kernel_rfl) (of_decide_eq_true (by kernel_rfl)) k0 bel lt0) trodAll_mk0),rfl,bel.frame _,fun h=>by cases h⟩
theorem over:Rows.topSettlesRow.holds Tryz.pinned (OpenSpec.ofChange Rows.topSettlesSpec):=
 OpenClaim.holds_of_wide 10 Tryz.f10 rfl rfl rfl rfl rfl rfl rfl ⟨rfl,rfl,rfl,rfl,rfl⟩ rfl rfl rfl rfl rfl (by kernel_rfl) Tryz.func10 (by kernel_rfl)
  (of_decide_eq_true (by kernel_rfl)) (by unfold Func.isWrapper;first|(rw[if_pos (by decide+kernel)];kernel_rfl)|(rw[if_neg (by decide+kernel)];exact⟨rfl,rfl⟩))
  (fun os started H enc _=>z5u os started H enc)
end TopSettles
theorem topSettles_holds:Rows.TopSettlesSaid:=TopSettles.over
end Go.Proofs.YtjnpndfpajjihacGreat

