/-
  Proved here: for every list of acts and number, the statement TopRuns about package journal returns true, and the arguments read behind the call as they read before.
  Conditions: none beyond the given row's own.
-/
import Derived.Test.YtjnpndfpajjihacGreatGrTopRuns50
import Derived.Test.YtjnpndfpajjihacGreatOpenAs
import Derived.Test.YtjnpndfpajjihacGreatRows
import Derived.ProofKit
import Derived.OpenShut
import Derived.ChangeOld
import Derived.Below
import Derived.SizedLaws
namespace Go.Proofs.YtjnpndfpajjihacGreat
set_option maxRecDepth 100000
set_option maxHeartbeats 40000000
open Go.ChangeShapes Go.WideShapes Go.ChangeAt Go.RowKit Go.Deep
theorem cap_acts {H:Type}{enc:TypeId×Value→H}{w:World}{spare:Nat→Bool}{held:Bool}{fuel:Nat}{a:Option Addr}{n c:Nat}{y:DataW H×List MemPlace}(h:DataW.trod enc Tryz.prog w 0 spare held fuel 49 [.slice a n c]=some y):n≤c:=by
 rcases open_slice Tryz.underlying49 h with⟨hcs,_⟩|⟨x,ln,cp,m,n',D,Pl,hcs,_,hle,_⟩
 ·simp only[List.cons.injEq,Value.slice.injEq,and_true] at hcs
  omega
 ·simp only[List.cons.injEq,Value.slice.injEq,and_true] at hcs
  omega
namespace TopRuns
theorem own:ownKnob Tryz.prog.godebug=none:=by kernel_rfl
theorem z2h:laidOutB Tryz.prog=true:=by kernel_rfl
theorem z3m (os:Os)(started:os.Started)(H:Type)(enc:TypeId×Value→H):
  ReturnsInHanded {} Tryz.checked os 12 .any (Rows.topRunsSpec.pre6 enc Tryz.prog Tryz.f12 Rows.topRunsRow.domain false) (Rows.topRunsSpec.post enc Tryz.prog Tryz.f12 false true false false):=by
 refine returnsInHanded_of_change (C:=Tryz.checked) own started (by kernel_rfl) Tryz.func12
  (ChangeSpec.witness6 (enc:=enc) (C:=Tryz.checked) false ⟨#[],#[.slice none 0 0,.int .i64 0],[]⟩ 8 (by kernel_rfl) (by kernel_rfl) (by kernel_rfl) (by kernel_rfl)) ?_
 intro W base args ds gs before hval0 hW hcnd _
 have hval:∀(j:Nat) t v,Tryz.f12.params[j]?=some t→args[j]?=some v→Value.okWide Tryz.prog W .any base t v:=hval0
 have hW':=hW
 obtain⟨p,q,hA0,hV,rfl,hfz,hnd⟩:=hW
 have hA:DataW.TrodAll enc Tryz.prog W 0 (fun _=>true) true Tryz.f12.params.toList args.toList ds p:=hA0
 rw[Tryz.params12] at hA hval
 obtain⟨v0,vs0,d0,ds0,p0,q0,hargs,rfl,rfl,h0,r0⟩:=trodAll_cons hA
 obtain⟨v1,vs1,d1,ds1,p1,q1,rfl,rfl,rfl,h1,r1⟩:=trodAll_cons r0
 obtain⟨rfl,rfl,rfl⟩:=trodAll_nil r1
 obtain rfl:args=#[v0,v1]:=by cases args;simp_all
 obtain⟨rfl,rfl⟩:=trodVars_none hV
 have k0:=h0
 have lt0:∀x∈p0,x.block<W.heap.size:=by obtain⟨m,hm⟩:=k0;exact DataW.trod_lt m _ _ _ hm
 obtain⟨aa,na,ca,rfl⟩:=okWide_slice Tryz.underlying49 (hval 0 49 v0 rfl rfl)
 obtain⟨fu0,hf0⟩:=h0
 have hcap:na≤ca:=cap_acts (a:=aa) hf0
 obtain⟨a0,c0,l,hv0,hd,hl,hok⟩:=zzh (v:=.slice aa na ca) hf0
 simp only[Value.slice.injEq] at hv0
 obtain⟨rfl,rfl,rfl⟩:=hv0
 obtain⟨n1,rfl,rfl,rfl,w1⟩:=open_int Tryz.underlying3 (hval 1 3 v1 rfl rfl) h1
 have hn1: -9223372036854775808≤n1∧n1≤9223372036854775807:=by have h:=w1;simp[Lit.wf,IntKind.min,IntKind.max,IntKind.bits,IntKind.signed] at h;omega
 clear hA0 hval0
 refine(runs_walk aa ca l n1 W hd hl hcap hok hn1.1 hn1.2).mono fun e W' ⟨he,bel⟩=>?_
 subst he
 exact⟨_,rfl,_,_,_,[],_,[],hW',trodAll_mk1 (shut_bool Tryz.underlying4 _),(trodAll_cons_mk (Below.trod z2h (by kernel_rfl) (of_decide_eq_true (by kernel_rfl)) k0 bel lt0) (trodAll_cons_mk (shut_int Tryz.underlying3 w1) trodAll_mk0)),rfl,bel.frame _,fun h=>by cases h⟩
theorem over:Rows.topRunsRow.holds Tryz.pinned (OpenSpec.ofChange Rows.topRunsSpec):=
 OpenClaim.holds_of_wide 12 Tryz.f12 rfl rfl rfl rfl rfl rfl rfl ⟨rfl,rfl,rfl,rfl,rfl⟩ rfl rfl rfl rfl rfl (by kernel_rfl) Tryz.func12 (by kernel_rfl)
  (of_decide_eq_true (by kernel_rfl)) (by unfold Func.isWrapper;first|(rw[if_pos (by decide+kernel)];kernel_rfl)|(rw[if_neg (by decide+kernel)];exact⟨rfl,rfl⟩))
  (fun os started H enc _=>z3m os started H enc)
end TopRuns
theorem topRuns_holds:Rows.TopRunsSaid:=TopRuns.over
end Go.Proofs.YtjnpndfpajjihacGreat

