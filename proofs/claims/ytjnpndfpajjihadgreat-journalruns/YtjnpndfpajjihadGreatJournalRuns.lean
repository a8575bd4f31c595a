/-
  Proved here: for every list of acts, the statement JournalRuns about package journal returns true, and the arguments read behind the call as they read before.
  Conditions: none beyond the given row's own.
-/
import Derived.Test.YtjnpndfpajjihadGreatRRunsW
import Derived.Test.YtjnpndfpajjihadGreatGrJournalRuns53
import Derived.OpenShut
import Derived.ChangeOld
import Derived.Below
import Derived.SizedLaws
namespace Go.Proofs.YtjnpndfpajjihadGreat
set_option maxRecDepth 100000
set_option maxHeartbeats 40000000
open Go.ChangeShapes Go.WideShapes Go.ChangeAt Go.RowKit Go.Deep
theorem qS {H:Type}{enc:TypeId×Value→H}{w:World}{spare:Nat→Bool}{held:Bool}{fuel:Nat}{a:Option Addr}{n c:Nat}{y:DataW H×List MemPlace}(h:DataW.trod enc Tryz.prog w 0 spare held fuel 22 [.slice a n c]=some y)(hw:∀x∈y.1.weights Tryz.prog 22,x≤reachBytes):n*48≤140737488355328:=by
 rcases open_slice Tryz.underlying22 h with⟨hcs,_⟩|⟨x,ln,cp,m,n',D,Pl,hcs,_,hle,_,_,hy,_⟩
 ·simp only[List.cons.injEq,Value.slice.injEq,and_true] at hcs;omega
 ·simp only[List.cons.injEq,Value.slice.injEq,and_true] at hcs;have:=hw ((((List.range ln).map D).length+((List.range (m - ln)).map fun j=>D (ln+j)).length)*48) (by rw[hy];simp[DataW.weights,Tryz.underlying22,show Tryz.prog.bytesOf 24=48 from by kernel_rfl]);have h2:=reachBytes_lt;simp only[List.length_map,List.length_range] at this;omega
namespace JournalRuns
theorem own:ownKnob Tryz.prog.godebug=none:=by kernel_rfl
theorem laidOut:laidOutB Tryz.prog=true:=by kernel_rfl
theorem lifted (os:Os)(started:os.Started)(H:Type)(enc:TypeId×Value→H):
  ReturnsInHanded {} Tryz.checked os 5 .any (Rows.journalRunsSpec.pre6 enc Tryz.prog Tryz.f5 Rows.journalRunsRow.domain false) (Rows.journalRunsSpec.post enc Tryz.prog Tryz.f5 false true false false):=by
 refine returnsInHanded_of_change_sized (C:=Tryz.checked) own started (by kernel_rfl) Tryz.func5
  (ChangeSpec.witness6 (enc:=enc) (C:=Tryz.checked) false ⟨#[],#[.slice none 0 0],[]⟩ 8 (by kernel_rfl) (by kernel_rfl) (by kernel_rfl) (by kernel_rfl)) ?_
 intro W base args ds gs before hval0 hW hcnd hsz0 _;have hsz:(DataW.weightsEach Tryz.prog (Tryz.f5.params.toList++Rows.journalRunsSpec.plain.varTypes Tryz.prog) (ds++gs)).all (·≤reachBytes)=true:=hsz0;have hval:∀(j:Nat) t v,Tryz.f5.params[j]?=some t→args[j]?=some v→Value.okWide Tryz.prog W .any base t v:=hval0;have hW':=hW;obtain⟨p,q,hA0,hV,rfl,hfz,hnd⟩:=hW;have hA:DataW.TrodAll enc Tryz.prog W 0 (fun _=>true) true Tryz.f5.params.toList args.toList ds p:=hA0;rw[Tryz.params5] at hA hval hsz;obtain⟨v0,vs0,d0,ds0,p0,q0,hargs,rfl,rfl,h0,r0⟩:=trodAll_cons hA;obtain⟨rfl,rfl,rfl⟩:=trodAll_nil r0;obtain rfl:args=#[v0]:=by cases args;simp_all
 obtain⟨rfl,rfl⟩:=trodVars_none hV;have k0:=h0;have lt0:∀x∈p0,x.block<W.heap.size:=by obtain⟨m,hm⟩:=k0;exact DataW.trod_lt m _ _ _ hm
 obtain⟨aa,na,ca,rfl⟩:=okWide_slice Tryz.underlying22 (hval 0 22 v0 rfl rfl);obtain⟨fu0,hf0⟩:=h0;have hr:na*48≤140737488355328:=qS (a:=aa) hf0 fun x hx=>of_decide_eq_true (List.all_eq_true.1 hsz x (DataW.weights_mem_each (j:=0) rfl rfl x hx));obtain⟨a0,c0,l,hv0,hd,hl,hok⟩:=zN (v:=.slice aa na ca) hf0;simp only[Value.slice.injEq] at hv0;obtain⟨rfl,rfl,rfl⟩:=hv0;clear hA0 hval0;refine(qV aa ca l W hd hl hr hok).mono fun e W' ⟨he,bel⟩=>?_;subst he;exact⟨_,rfl,_,_,_,[],_,[],hW',trodAll_mk1 (shut_bool Tryz.underlying4 _),(trodAll_cons_mk (Below.trod laidOut (by kernel_rfl) (of_decide_eq_true (by kernel_rfl)) k0 bel lt0) trodAll_mk0),rfl,bel.frame _,fun h=>by cases h⟩
theorem over:Rows.journalRunsRow.holds Tryz.pinned (OpenSpec.ofChange Rows.journalRunsSpec):=
 OpenClaim.holds_of_wide 5 Tryz.f5 rfl rfl rfl rfl rfl rfl rfl ⟨rfl,rfl,rfl,rfl,rfl⟩ rfl rfl rfl rfl rfl (by kernel_rfl) Tryz.func5 (by kernel_rfl)
  (of_decide_eq_true (by kernel_rfl)) (by unfold Func.isWrapper;first|(rw[if_pos (by decide+kernel)];kernel_rfl)|(rw[if_neg (by decide+kernel)];exact⟨rfl,rfl⟩))
  (fun os started H enc _=>lifted os started H enc)
end JournalRuns
theorem journalRuns_holds:Rows.JournalRunsSaid:=JournalRuns.over
end Go.Proofs.YtjnpndfpajjihadGreat

