/-
  
-/
import Derived.Test.YtjnpndfpajjihacGreatGrTopReads48
import Derived.Test.YtjnpndfpajjihacGreatJMaps
import Derived.Test.YtjnpndfpajjihacGreatJRing
set_option maxRecDepth 100000
set_option maxHeartbeats 40000000
namespace Go.Proofs.YtjnpndfpajjihacGreat
open Go.RowKit
section
variable (j:Jn) (D:Dk) (j':Jn) (D':Dk) (b:Nat)
structure SameB:Prop where
 hi:zae b j'.now.info=zae b j.now.info
 hd:zae b j'.now.data=zae b j.now.data
 hv:zar j'.now.rev b=zar j.now.rev b
 hq:j'.now.seq=j.now.seq
 hs:j'.sealed=j.sealed
 hdn:j'.done=j.done
 hr:j'.role b=j.role b
 hf:j'.freed b=j.freed b
 hl:j'.last=j.last
 hD:D'=D
structure WriteB (s:ByteArray):Prop where
 hi:zae b j'.now.info=some s
 hd0:zae b j.now.data=none
 hd:zae b j'.now.data=none
 hv:zar j'.now.rev b=false
 hq:j'.now.seq=j.now.seq
 hs:j'.sealed=j.sealed
 hdn:j'.done=j.done
 hr:j'.role b=1
 hr0:j.role b≠2
 hf:j'.freed b=j.freed b
 hl:j'.last=j.last
 hD:D'=D
structure FillB (s:ByteArray):Prop where
 hi0:zae b j.now.info=none
 hv0:zar j.now.rev b=false
 hi:zae b j'.now.info=none
 hv:zar j'.now.rev b=false
 hd:zae b j'.now.data=some s
 hq:j'.now.seq=j.now.seq
 hs:j'.sealed=j.sealed
 hdn:j'.done=j.done
 hr:j'.role b=2
 hr0:j.role b≠1
 hf0:j.freed b≤j.last
 hf:j'.freed b=j.freed b
 hl:j'.last=j.last
 hD:D'=D
structure RevokeB:Prop where
 hi:zae b j'.now.info=none
 hd:zae b j'.now.data=none
 hv:zar j'.now.rev b=true
 hq:j'.now.seq=j.now.seq
 hs:j'.sealed=j.sealed
 hdn:j'.done=j.done
 hr:j'.role b=0
 hr0:j.role b≠0
 hf:j'.freed b=j.now.seq
 hl:j'.last=j.last
 hD:D'=D
structure CommitB:Prop where
 hz:j.sealed=zcr 0
 hs:j'.sealed=j.now
 hn:j'.now=zcr (j.now.seq+1)
 hq:j.now.seq=j.last+1
 hdn:j'.done=j.done
 hr:j'.role b=j.role b
 hf:j'.freed b=j.freed b
 hl:j'.last=j.last
 hD:D'=D
structure ThroughB:Prop where
 hs:j'.sealed=zcr 0
 hn:j'.now=j.now
 hse:j.sealed.seq=j.last+1
 hq:j.now.seq=j.last+2
 hdn:j'.done=j.done++[j.sealed]
 hr:j'.role b=j.role b
 hf:j'.freed b=j.freed b
 hl:j'.last=j.last+1
 hh:zaj D' ((25+b:Nat):Int)=(zae b j.sealed.data).getD (zaj D ((25+b:Nat):Int))
structure HomeB:Prop where
 hz:j.sealed=zcr 0
 hs:j'.sealed=zcr 0
 hn:j'.now=j.now
 hdn:j'.done=[]
 hr:j'.role b=j.role b
 hf:j'.freed b=j.freed b
 hl:j'.last=j.last
 hh:zaj D' ((25+b:Nat):Int)=(newestF j.done b).getD (zaj D ((25+b:Nat):Int))
inductive KpB:Prop
 |same (h:SameB j D j' D' b)
 |commit (h:CommitB j D j' D' b)
 |through (h:ThroughB j D j' D' b)
 |home (h:HomeB j D j' D' b)
inductive EvB:Prop
 |keep (h:KpB j D j' D' b)
 |write (s:ByteArray) (h:WriteB j D j' D' b s)
 |fill (s:ByteArray) (h:FillB j D j' D' b s)
 |revoke (h:RevokeB j D j' D' b)
end
inductive Ev (j:Jn)(D:Dk)(a:Ac)(j':Jn)(r:Rp)(D':Dk):Prop
 |calm (hd:j'.down=j.down) (hD:D'=D) (all:∀b:Nat,b<12→SameB j D j' D' b) (hk:r.code=0→a.kind≠2∧a.kind≠3∧a.kind≠4∧a.kind≠6∧a.kind≠10) (h8:a.kind=8→r.n=0)
   (h9:r.code=0→a.kind=9→∃b:Nat,b<12∧a.b=b∧textJ j b=(r.text,0)∧j.down=false)
 |write (b:Nat) (hb:b<12) (hab:a.b=b) (hk:a.kind=2) (hu:j.down=false) (hu':j'.down=false) (hc:r=zao 0) (here:WriteB j D j' D' b (fitT a.text)) (others:∀x:Nat,x<12→x≠b→SameB j D j' D' x)
 |fill (b:Nat) (hb:b<12) (hab:a.b=b) (hk:a.kind=3) (hu:j.down=false) (hu':j'.down=false) (hc:r=zao 0) (here:FillB j D j' D' b (fitT a.text)) (others:∀x:Nat,x<12→x≠b→SameB j D j' D' x)
 |revoke (b:Nat) (hb:b<12) (hab:a.b=b) (hk:a.kind=4) (hu:j.down=false) (hu':j'.down=false) (hc:r=zao 0) (here:RevokeB j D j' D' b) (others:∀x:Nat,x<12→x≠b→SameB j D j' D' x)
 |commit (hk:a.kind=6) (hu:j.down=false) (hu':j'.down=false) (hc:r.code=0) (hn:r.n=j.last+1) (all:∀b:Nat,CommitB j D j' D' b)
 |through (hk:a.kind=8) (hu:j.down=false) (hu':j'.down=false) (hc:r.code=0) (hn:r.n=j.last+1) (all:∀b:Nat,b<12→ThroughB j D j' D' b)
 |home (hk:a.kind=8) (hu:j.down=false) (hu':j'.down=false) (hc:r=zao 0) (all:∀b:Nat,b<12→HomeB j D j' D' b)
 |on (hk:a.kind=8) (hd:j.down=true) (hu':j'.down=false) (hc:r=zao 0) (hl:j'.last=fndN D - 1) (hs:j'.sealed=zcr 0) (hn:j'.now=zcr (fndN D)) (hdn:j'.done=[]) (hr:∀b:Nat,j'.role b=zcb (fndL D).reverse b) (hf:∀b:Nat,j'.freed b=0)
   (hdk:j'.disk=D') (hh:∀b:Nat,b<12→zaj D' ((25+b:Nat):Int)=zo2 D b)
 |crash (hk:a.kind=10) (hu':j'.down=true) (hc:r=zao 0) (hl:j'.last=j.last) (left:Left j D D')
theorem zkq (f:Nat→Int){b:Int}{k:Nat}(x:Int)(h:b=k):upd f b x k=x:=by rw[upd,if_pos h.symm]
theorem zua (f:Nat→Int){b:Int}{k:Nat}(x:Int)(h:b≠k):upd f b x k=f k:=by rw[upd,if_neg (fun e=>h e.symm)]
theorem zj0 {l r:List (Int×ByteArray)}{x:Int}(hl:Up (·.1) l)(hr:Up (·.1) r)(h:l.filter (fun y=>decide (y.1=x))=r.filter (fun y=>decide (y.1=x))):zae x l=zae x r:=by
 have h1:=zfl hl x;have h2:=zfl hr x;rw[h,h2] at h1
 cases e1:zae x l with
 |none=>
  cases e2:zae x r with
  |none=>rfl
  |some s=>rw[e1,e2] at h1;simp at h1
 |some s=>
  cases e2:zae x r with
  |none=>rw[e1,e2] at h1;simp at h1
  |some u=>rw[e1,e2] at h1;simp at h1;rw[h1]
theorem zlx {l:List (Int×ByteArray)}(h:Up (·.1) l){b x:Int}(s:ByteArray)(hx:x≠b):zae x (zbc (·.1) l b (b,s))=zae x l:=
 zj0 (ztl h rfl) h (z3p b (b,s) rfl x hx)
theorem zj1 {l:List (Int×ByteArray)}(h:Up (·.1) l){b x:Int}(hx:x≠b):zae x (zaq (·.1) l b)=zae x l:=by
 refine zj0 (zri h b) h ?_;rw[zrj h,List.filter_filter];refine List.filter_congr fun y _=>?_;by_cases e:y.1=x
 ·simp[e,hx]
 ·simp[e]
theorem znd {l r:List Int}{x y:Int}(h:x∈l↔y∈r):zar l x=zar r y:=by
 cases e1:zar l x with
 |true=>rw[zdy.1 (h.1 (zdy.2 e1))]
 |false=>
  cases e2:zar r y with
  |false=>rfl
  |true=>rw[zdy.1 (h.2 (zdy.2 e2))] at e1;cases e1
theorem zow (l:List Int){b x:Int}(hx:x≠b):zar (zaq id l b) x=zar l x:=znd ⟨fun h=>(zdu.1 h).1,fun h=>zdu.2 ⟨h,hx⟩⟩
theorem zrb (l:List Int){b x:Int}(hx:x≠b):zar (zbc id l b b) x=zar l x:=znd ⟨fun h=>by
 rcases ze3.1 h with e|e
 ·exact absurd e hx
 ·exact e.1,fun h=>ze3.2 (.inr ⟨h,hx⟩)⟩
theorem zzy (l:List Int)(b:Int):zar (zbc id l b b) b=true:=zdy.1 (ze3.2 (.inl rfl))
theorem zox {t:Tx}(hg:za2 t=true):Up (·.1) t.info∧Up (·.1) t.data:=by
 have hi:=(zaz t).1 hg;exact⟨(ze7 _ _).1 ((zay _).1 hi.2.2.1.1).2,(ze7 _ _).1 ((zay _).1 hi.2.2.1.2.1).2⟩
section
variable {j:Jn} {D:Dk} {a:Ac} {j':Jn} {r:Rp} {D':Dk}
theorem zne (t:Tx)(h:Int)(x:Hd):(zes t h x).info=t.info∧(zes t h x).data=t.data∧(zes t h x).rev=t.rev∧(zes t h x).seq=t.seq:=by
 unfold zes;split
 ·exact⟨rfl,rfl,rfl,rfl⟩
 split<;>exact⟨rfl,rfl,rfl,rfl⟩
theorem Md.seqs (h:Md j D)(hu:j.down=false):fndL D=j.done.map zdl∧fndN D=j.last+1∧(j.sealed=zcr 0∧j.now.seq=j.last+1∨j.sealed.seq=j.last+1∧j.now.seq=j.last+2∧za2 j.sealed=true):=by
 cases h with
 |idle p hs hz hD ht hq=>exact⟨ht.tL,ht.tN,.inl ⟨hz,hq⟩⟩
 |commit P U k p hw hk hs hD ht he hse hrh hru hq hN=>exact⟨ht.tL,ht.tN,.inr ⟨hse,hq,(zbo he).2.1⟩⟩
 |check k p hw hz hk hs hD ht hq=>exact⟨ht.tL,ht.tN,.inl ⟨hz,hq⟩⟩
 |off l N P U p hs hf hD ht=>rw[p.off] at hu;cases hu
 |back U k p hw hk hs hD ht=>rw[p.off] at hu;cases hu
theorem z4w (h:Md j D)(h':Md j' D')(t:Trans j D a j' r D'):Ev j D a j' r D':=by
 cases t with
 |plain m hp=>
  have refl:∀b:Nat,b<12→SameB j D j D b:=fun b _=>⟨rfl,rfl,rfl,rfl,rfl,rfl,rfl,rfl,rfl,rfl⟩
  cases m with
  |no e he=>exact .calm rfl rfl refl (fun h0=>absurd h0 he) (fun _=>rfl) (fun h0=>absurd h0 he)
  |read hd hk hb ht=>
   refine .calm rfl rfl refl (fun _=>by omega) (fun h8=>by omega) (fun _ _=>⟨a.b.toNat,by omega,by omega,?_,hd⟩);rw[show((a.b.toNat:Nat):Int)=a.b from by omega];exact Prod.ext rfl ht
  |begin hd hk he=>
   obtain⟨e1,e2,e3,e4⟩:=zne j.now a.h ⟨true,a.n⟩;have e:beginT j.now a.h a.n (24 - j.ru)=zes j.now a.h ⟨true,a.n⟩:=by rw[beginT,if_pos he]
   rw[e];exact .calm rfl rfl (fun b _=>⟨by rw[e1],by rw[e2],by rw[e3],e4,rfl,rfl,rfl,rfl,rfl,rfl⟩) (fun _=>by omega) (fun h8=>by omega) (fun _ h9=>by omega)
  |stop hd hk he=>
   obtain⟨e1,e2,e3,e4⟩:=zne j.now a.h ⟨false,0⟩;have e:stopT j.now a.h=zes j.now a.h ⟨false,0⟩:=by rw[stopT,if_pos he]
   rw[e];exact .calm rfl rfl (fun b _=>⟨by rw[e1],by rw[e2],by rw[e3],e4,rfl,rfl,rfl,rfl,rfl,rfl⟩) (fun _=>by omega) (fun h8=>by omega) (fun _ h9=>by omega)
  |write hd hk he hr=>
   obtain⟨hre,hfs,hda,hnm⟩:=zis he;obtain⟨hg,hh,ho,b0,b1⟩:=zb2 hre;obtain⟨u1,u2⟩:=zox hg;obtain⟨n1,n2,n3⟩:=zd6 j.now a.h a.b;have e:changeT j.now a.h a.b (fitT a.text)=zef j.now a.h a.b (fitT a.text):=by rw[changeT,if_pos he]
   have hab:a.b=((a.b.toNat:Nat):Int):=by omega
   have hdn:zae a.b j.now.data=none:=by
    cases hx:zae a.b j.now.data with
    |none=>rfl
    |some s=>rw[hx] at hda;cases hda
   rw[e];refine .write a.b.toNat (by omega) hab hk hd hd rfl ⟨?_,?_,?_,?_,zem j.now a.h a.b,rfl,rfl,zkq _ _ hab,hr,rfl,rfl,rfl⟩ (fun x hx hne=>?_)
   ·rw[←hab];exact zt3 _ u1 _ _
   ·rw[←hab];exact hdn
   ·rw[←hab];show zae a.b (nameT j.now a.h a.b).data=none;rw[n2];exact hdn
   ·rw[←hab];exact zvr _ _
   ·have hxb:(x:Int)≠a.b:=by omega
    exact⟨zlx u1 _ hxb,by show zae x (nameT j.now a.h a.b).data=_;rw[n2],zow _ hxb,zem j.now a.h a.b,rfl,rfl,zua _ _ (by omega),rfl,rfl,rfl⟩
  |fill hd hk he hr hf=>
   obtain⟨hre,hfs,hnm⟩:=zsj he;obtain⟨hg,hh,ho,b0,b1⟩:=zb2 hre;obtain⟨u1,u2⟩:=zox hg;have e:fillT j.now a.h a.b (fitT a.text)={j.now with data:=zbc (·.1) j.now.data a.b (a.b,fitT a.text)}:=by rw[fillT,if_pos he]
   have hab:a.b=((a.b.toNat:Nat):Int):=by omega
   have hn2:zae a.b j.now.info=none∧zar j.now.rev a.b=false:=by
    unfold zcg at hnm;simp only[Bool.or_eq_false_iff] at hnm;refine⟨?_,hnm.2⟩
    cases hx:zae a.b j.now.info with
    |none=>rfl
    |some s=>rw[hx] at hnm;cases hnm.1
   rw[e];refine .fill a.b.toNat (by omega) hab hk hd hd rfl ⟨?_,?_,?_,?_,?_,rfl,rfl,rfl,zkq _ _ hab,hr,hf,rfl,rfl,rfl⟩ (fun x hx hne=>?_)
   ·rw[←hab];exact hn2.1
   ·rw[←hab];exact hn2.2
   ·rw[←hab];exact hn2.1
   ·rw[←hab];exact hn2.2
   ·rw[←hab];exact zt3 _ u2 _ _
   ·have hxb:(x:Int)≠a.b:=by omega
    exact⟨rfl,zlx u2 _ hxb,rfl,rfl,rfl,rfl,zua _ _ (by omega),rfl,rfl,rfl⟩
  |revoke hd hk he hr=>
   obtain⟨hre,hrv,hnm⟩:=zit he;obtain⟨hg,hh,ho,b0,b1⟩:=zb2 hre;obtain⟨u1,u2⟩:=zox hg;have e:revokeT j.now a.h a.b=zeg j.now a.h a.b:=by rw[revokeT,if_pos he]
   have hab:a.b=((a.b.toNat:Nat):Int):=by omega
   have hsq:(zeg j.now a.h a.b).seq=j.now.seq:=zem j.now a.h a.b;rw[e];refine .revoke a.b.toNat (by omega) hab hk hd hd rfl ⟨?_,?_,?_,hsq,rfl,rfl,zkq _ _ hab,hr,(zkq _ _ hab).trans hsq,rfl,rfl⟩ (fun x hx hne=>?_)
   ·rw[←hab];exact zqf _ _
   ·rw[←hab];exact zqf _ _
   ·rw[←hab];exact zzy _ _
   ·have hxb:(x:Int)≠a.b:=by omega
    exact⟨zj1 u1 hxb,zj1 u2 hxb,zrb _ hxb,hsq,rfl,rfl,zua _ _ (by omega),zua _ _ (by omega),rfl,rfl⟩
  |commit hd hk hs ho hm hq he=>
   have hz:j.sealed=zcr 0∧j.now.seq=j.last+1:=by
    cases h with
    |idle p hs2 hz hD ht hq2=>exact⟨hz,hq2⟩
    |commit P U k p hw hk2 hs2 hD ht he2 hse hrh hru hq2 hN=>
     rw[hs] at hs2;have:=congrArg List.length hs2;rw[List.length_drop] at this;simp at this;omega
    |check k p hw hz hk2 hs2 hD ht hq2=>exact⟨hz,hq2⟩
    |off l N P U p hs2 hf hD ht=>rw[p.off] at hd;cases hd
    |back U k p hw hk2 hs2 hD ht=>rw[p.off] at hd;cases hd
   exact .commit hk hd hd rfl hz.2 (fun b=>⟨hz.1,rfl,rfl,hz.2,rfl,rfl,rfl,rfl,rfl⟩)
  |check hd hk hs hn he=>exact .calm rfl rfl (fun b _=>⟨rfl,rfl,rfl,rfl,rfl,rfl,rfl,rfl,rfl,rfl⟩) (fun _=>by omega) (fun h8=>by omega) (fun _ h9=>by omega)
  |step hk s q hs he hr=>exact .calm rfl rfl (fun b _=>⟨rfl,rfl,rfl,rfl,rfl,rfl,rfl,rfl,rfl,rfl⟩) (fun _=>by omega) (fun _=>rfl) (fun _ h9=>by omega)
  |last hk s hs he=>
   have hc:(zbu {j with disk:=zbb j.disk s,steps:=[]}).2.code=0:=by
    rw[zbu];split
    ·rfl
    split
    ·rfl
    split
    ·rfl
    ·rfl
   obtain⟨s2,q,h1,h2,_⟩:=(hp hc).2 hk;rw[hs] at h1
   injection h1 with _ h3
   exact absurd h3.symm h2
  |crash hk he=>exact absurd hk (hp rfl).1
  |back hk hd hs hE hc=>exact .calm rfl rfl (fun b _=>⟨rfl,rfl,rfl,rfl,rfl,rfl,rfl,rfl,rfl,rfl⟩) (fun _=>by omega) (fun h8=>by omega) (fun _ h9=>by omega)
 |through _ hk hu hse hg hN hL hh=>
  obtain⟨_,_,h3⟩:=h.seqs hu
  have hq:j.now.seq=j.last+2:=by
   rcases h3 with⟨e,_⟩|⟨_,e,_⟩
   ·have h0:=h.last0
    rw[e] at hse;have:(0:Int)=j.last+1:=hse;omega
   ·exact e
  exact .through hk hu hu rfl hse (fun b hb=>⟨rfl,rfl,hse,hq,rfl,rfl,rfl,hse,hh b hb⟩)
 |home _ hk hu hz hN hL hh=>
  obtain⟨h1,_,_⟩:=h.seqs hu;exact .home hk hu hu rfl (fun b hb=>⟨hz,hz,rfl,rfl,rfl,rfl,rfl,by rw[hh b hb,zo2,h1,zju]⟩)
 |on _ hk hd hfN hfL hN hL hh=>
  refine .on hk hd rfl rfl ?_ rfl ?_ rfl (fun b=>?_) (fun _=>rfl) rfl hh
  ·show j.fN - 1=_;rw[hfN]
  ·show zcr j.fN=_;rw[hfN]
  ·show zcb j.fL.reverse b=_;rw[hfL]
 |crash hk hn _ hX left=>exact .crash hk rfl rfl rfl left
end
theorem z4h {j:Jn}{D:Dk}(h:Md j D)(a:Ac)(h0:0≤j.acts)(h1:j.acts≤400):
  ∃D',Md (doJ j a).1 D'∧0≤(doJ j a).1.acts∧(doJ j a).1.acts≤400∧Ev j D a (doJ j a).1 (doJ j a).2 D':=by
 rcases zzv h a h0 h1 with⟨h4,h5⟩|⟨h4,h5,D',h6,ht⟩
 ·rw[h5]
  have hne:(zao 11).code≠0:=by decide
  exact⟨D,h,h0,h1,.calm rfl rfl (fun b _=>⟨rfl,rfl,rfl,rfl,rfl,rfl,rfl,rfl,rfl,rfl⟩) (fun h0=>absurd h0 hne) (fun _=>rfl) (fun h0=>absurd h0 hne)⟩
 ·refine⟨D',h6,by omega,by omega,?_⟩
  have e:=z4w (h.bump (x:=j.acts+1) (by omega)) h6 ht
  cases e with
  |calm a1 a2 a3 a4 a5 a6=>exact .calm a1 a2 (fun b hb=>⟨(a3 b hb).hi,(a3 b hb).hd,(a3 b hb).hv,(a3 b hb).hq,(a3 b hb).hs,(a3 b hb).hdn,(a3 b hb).hr,(a3 b hb).hf,(a3 b hb).hl,(a3 b hb).hD⟩) a4 a5 a6
  |write b a1 a2 a3 a4 a5 a6 x y=>exact .write b a1 a2 a3 a4 a5 a6 ⟨x.hi,x.hd0,x.hd,x.hv,x.hq,x.hs,x.hdn,x.hr,x.hr0,x.hf,x.hl,x.hD⟩ (fun b hb hn=>⟨(y b hb hn).hi,(y b hb hn).hd,(y b hb hn).hv,(y b hb hn).hq,(y b hb hn).hs,(y b hb hn).hdn,(y b hb hn).hr,(y b hb hn).hf,(y b hb hn).hl,(y b hb hn).hD⟩)
  |fill b a1 a2 a3 a4 a5 a6 x y=>exact .fill b a1 a2 a3 a4 a5 a6 ⟨x.hi0,x.hv0,x.hi,x.hv,x.hd,x.hq,x.hs,x.hdn,x.hr,x.hr0,x.hf0,x.hf,x.hl,x.hD⟩ (fun b hb hn=>⟨(y b hb hn).hi,(y b hb hn).hd,(y b hb hn).hv,(y b hb hn).hq,(y b hb hn).hs,(y b hb hn).hdn,(y b hb hn).hr,(y b hb hn).hf,(y b hb hn).hl,(y b hb hn).hD⟩)
  |revoke b a1 a2 a3 a4 a5 a6 x y=>exact .revoke b a1 a2 a3 a4 a5 a6 ⟨x.hi,x.hd,x.hv,x.hq,x.hs,x.hdn,x.hr,x.hr0,x.hf,x.hl,x.hD⟩ (fun b hb hn=>⟨(y b hb hn).hi,(y b hb hn).hd,(y b hb hn).hv,(y b hb hn).hq,(y b hb hn).hs,(y b hb hn).hdn,(y b hb hn).hr,(y b hb hn).hf,(y b hb hn).hl,(y b hb hn).hD⟩)
  |commit a1 a2 a3 a4 a5 y=>exact .commit a1 a2 a3 a4 a5 (fun b=>⟨(y b).hz,(y b).hs,(y b).hn,(y b).hq,(y b).hdn,(y b).hr,(y b).hf,(y b).hl,(y b).hD⟩)
  |through a1 a2 a3 a4 a5 y=>exact .through a1 a2 a3 a4 a5 (fun b hb=>⟨(y b hb).hs,(y b hb).hn,(y b hb).hse,(y b hb).hq,(y b hb).hdn,(y b hb).hr,(y b hb).hf,(y b hb).hl,(y b hb).hh⟩)
  |home a1 a2 a3 a4 y=>exact .home a1 a2 a3 a4 (fun b hb=>⟨(y b hb).hz,(y b hb).hs,(y b hb).hn,(y b hb).hdn,(y b hb).hr,(y b hb).hf,(y b hb).hl,(y b hb).hh⟩)
  |on a1 a2 a3 a4 a5 a6 a7 a8 a9 a10 a11 a12=>exact .on a1 a2 a3 a4 a5 a6 a7 a8 a9 a10 a11 a12
  |crash a1 a2 a3 a4 left=>
   refine .crash a1 a2 a3 a4 ?_
   cases left with
   |all b1 b2 b3 b4=>exact .all b1 b2 b3 b4
   |without b1 b2 b3 b4 b5=>exact .without b1 b2 b3 b4 b5
   |whole b1 b2 b3 b4 b5=>exact .whole b1 b2 b3 b4 b5
def nmd (t:Tx)(b:Nat):Prop:=zae b t.info=none∧zar t.rev b=false
theorem ze5 (q:Int)(b:Nat):nmd (zcr q) b:=⟨rfl,rfl⟩
theorem z27 {b:Int}{o:Option ByteArray}{t:Tx}{s:ByteArray}(h:zae b t.info=some s):zb9 b o t=some s:=by rw[zb9,h];rfl
theorem z4i {b:Int}{o:Option ByteArray}{t:Tx}(h:zae b t.info=none)(h2:zar t.rev b=true):zb9 b o t=none:=by rw[zb9,h,h2];rfl
theorem nw_nmd {b:Nat}{o:Option ByteArray}{t:Tx}(h:nmd t b):zb9 b o t=o:=by rw[zb9,h.1,h.2];rfl
theorem zzz {b:Int}{o:Option ByteArray}{t:Tx}(h:zb9 b o t=none):zae b t.info=none∧(zar t.rev b=true∨o=none):=by
 rw[zb9] at h;split at h
 ·rename_i h1;rw[h] at h1;cases h1
 ·rename_i h1
  refine⟨?_,?_⟩
  ·cases hx:zae b t.info with
   |none=>rfl
   |some s=>rw[hx] at h1;exact absurd rfl h1
  ·split at h
   ·rename_i h2;exact .inl h2
   ·exact .inr h
theorem z1y {b:Int}{o:Option ByteArray}{t u:Tx}(h1:zae b t.info=zae b u.info)(h2:zar t.rev b=zar u.rev b):zb9 b o t=zb9 b o u:=by rw[zb9,zb9,h1,h2]
structure RB (j:Jn)(b:Nat):Prop where
 r1:j.role b≠1→zb9 b (zb9 b (newestF j.done b) j.sealed) j.now=none
 r2:zae b j.now.data≠none→j.role b=2
 r3:zar j.now.rev b=true→j.now.seq≤j.freed b
 r3s:zar j.sealed.rev b=true→j.last<j.freed b
 r4:zae b j.sealed.data≠none→j.role b=2∨j.last<j.freed b
 r5:j.role b=2→nmd j.sealed b∧nmd j.now b∧newestF j.done b=none
section
variable {j:Jn} {D:Dk} {j':Jn} {D':Dk} {b:Nat}
theorem RB.ev (h:RB j b)(hq:j.last<j.now.seq)(e:EvB j D j' D' b):RB j' b:=by
 cases e with
 |keep e=>
  cases e with
  |same e=>
   refine⟨fun h1=>?_,fun h1=>?_,fun h1=>?_,fun h1=>?_,fun h1=>?_,fun h1=>?_⟩
   ·rw[e.hr] at h1
    rw[e.hdn,e.hs,z1y e.hi e.hv];exact h.r1 h1
   ·rw[e.hd] at h1;rw[e.hr];exact h.r2 h1
   ·rw[e.hv] at h1;rw[e.hq,e.hf];exact h.r3 h1
   ·rw[e.hs] at h1;rw[e.hl,e.hf];exact h.r3s h1
   ·rw[e.hs] at h1;rw[e.hr,e.hl,e.hf];exact h.r4 h1
   ·rw[e.hr] at h1
    obtain⟨a1,a2,a3⟩:=h.r5 h1;rw[e.hs,e.hdn];exact⟨a1,⟨e.hi.trans a2.1,e.hv.trans a2.2⟩,a3⟩
  |commit e=>
   refine⟨fun h1=>?_,fun h1=>?_,fun h1=>?_,fun h1=>?_,fun h1=>?_,fun h1=>?_⟩
   ·rw[e.hr] at h1
    have:=h.r1 h1;rw[e.hz,nw_nmd (ze5 0 b)] at this;rw[e.hn,nw_nmd (ze5 _ b),e.hdn,e.hs];exact this
   ·rw[e.hn] at h1;exact absurd rfl h1
   ·rw[e.hn] at h1;cases h1
   ·rw[e.hs] at h1
    have:=h.r3 h1;rw[e.hl,e.hf];omega
   ·rw[e.hs] at h1
    rw[e.hr];exact .inl (h.r2 h1)
   ·rw[e.hr] at h1
    obtain⟨a1,a2,a3⟩:=h.r5 h1;rw[e.hs,e.hn,e.hdn];exact⟨a2,ze5 _ b,a3⟩
  |through e=>
   refine⟨fun h1=>?_,fun h1=>?_,fun h1=>?_,fun h1=>?_,fun h1=>?_,fun h1=>?_⟩
   ·rw[e.hr] at h1
    rw[e.hs,nw_nmd (ze5 0 b),e.hdn,zdw,e.hn];exact h.r1 h1
   ·rw[e.hn] at h1;rw[e.hr];exact h.r2 h1
   ·rw[e.hn] at h1⊢;rw[e.hf];exact h.r3 h1
   ·rw[e.hs] at h1;cases h1
   ·rw[e.hs] at h1;exact absurd rfl h1
   ·rw[e.hr] at h1
    obtain⟨a1,a2,a3⟩:=h.r5 h1;rw[e.hs,e.hn,e.hdn,zdw,nw_nmd a1];exact⟨ze5 0 b,a2,a3⟩
  |home e=>
   refine⟨fun h1=>?_,fun h1=>?_,fun h1=>?_,fun h1=>?_,fun h1=>?_,fun h1=>?_⟩
   ·rw[e.hr] at h1
    have q:=(zzz (h.r1 h1)).1;rw[e.hs,nw_nmd (ze5 0 b),e.hdn,e.hn];rw[zb9,q];show(if zar j.now.rev b=true then none else newestF [] b)=none;split<;>rfl
   ·rw[e.hn] at h1;rw[e.hr];exact h.r2 h1
   ·rw[e.hn] at h1⊢;rw[e.hf];exact h.r3 h1
   ·rw[e.hs] at h1;cases h1
   ·rw[e.hs] at h1;exact absurd rfl h1
   ·rw[e.hr] at h1
    obtain⟨a1,a2,a3⟩:=h.r5 h1;rw[e.hs,e.hn,e.hdn];exact⟨ze5 0 b,a2,rfl⟩
 |write s e=>
  refine⟨fun h1=>absurd e.hr h1,fun h1=>absurd e.hd h1,fun h1=>?_,fun h1=>?_,fun h1=>?_,fun h1=>?_⟩
  ·rw[e.hv] at h1;cases h1
  ·rw[e.hs] at h1;rw[e.hl,e.hf];exact h.r3s h1
  ·rw[e.hs] at h1
   rw[e.hl,e.hf];exact .inr ((h.r4 h1).resolve_left e.hr0)
  ·rw[e.hr] at h1;omega
 |fill s e=>
  have f0:zar j.sealed.rev b=false:=by
   cases hx:zar j.sealed.rev b with
   |false=>rfl
   |true=>have:=h.r3s hx;have:=e.hf0;omega
  have n0:nmd j.now b:=⟨e.hi0,e.hv0⟩;have q:=h.r1 e.hr0;rw[nw_nmd n0] at q;obtain⟨q1,q2⟩:=zzz q;have n1:nmd j.sealed b:=⟨q1,f0⟩;rw[nw_nmd n1] at q;refine⟨fun _=>?_,fun _=>e.hr,fun h1=>?_,fun h1=>?_,fun _=>.inl e.hr,fun _=>?_⟩
  ·rw[e.hdn,e.hs,nw_nmd (t:=j'.now) ⟨e.hi,e.hv⟩,nw_nmd n1]
   exact q
  ·rw[e.hv] at h1;cases h1
  ·rw[e.hs,f0] at h1;cases h1
  ·rw[e.hs,e.hdn]
   exact⟨n1,⟨e.hi,e.hv⟩,q⟩
 |revoke e=>
  refine⟨fun _=>?_,fun h1=>absurd e.hd h1,fun _=>?_,fun h1=>?_,fun h1=>?_,fun h1=>?_⟩
  ·exact z4i e.hi e.hv
  ·rw[e.hq,e.hf];omega
  ·rw[e.hl,e.hf];omega
  ·rw[e.hl,e.hf];right;omega
  ·rw[e.hr] at h1;omega
theorem RB.new {q:Int}(hs:j.sealed=zcr 0)(hn:j.now=zcr q)(hd:j.done=[])(hr:j.role b≠2):RB j b:=by
 refine⟨fun _=>?_,fun h1=>?_,fun h1=>?_,fun h1=>?_,fun h1=>?_,fun h1=>absurd h1 hr⟩
 ·rw[hs,hn,hd];rfl
 ·rw[hn] at h1;exact absurd rfl h1
 ·rw[hn] at h1;cases h1
 ·rw[hs] at h1;cases h1
 ·rw[hs] at h1;exact absurd rfl h1
def unn (l:List Tx)(b:Nat):Prop:=∀t∈l,nmd t b
theorem unn.newest {l:List Tx}(h:unn l b):newestF l b=none:=by
 have:∀(l:List Tx) (o:Option ByteArray),(∀t∈l,nmd t b)→l.foldl (zb9 b) o=o:=by
  intro l
  induction l with
  |nil=>intro o _;rfl
  |cons t l ih=>intro o h;rw[List.foldl_cons,nw_nmd (h t (by simp))];exact ih o fun u hu=>h u (by simp[hu])
 exact this l none h
def At0 (l:List Tx)(D:Dk)(b:Nat)(s:ByteArray):Prop:=newestF l b=some s∨(unn l b∧zaj D ((25+b:Nat):Int)=s)
theorem At0.snoc {l:List Tx}{t:Tx}{s:ByteArray}(h:zae b t.info=some s∨(nmd t b∧At0 l D b s)):At0 (l++[t]) D b s:=by
 rcases h with h|⟨h,h2|⟨h2,h3⟩⟩
 ·left;rw[zdw,z27 h]
 ·left;rw[zdw,nw_nmd h];exact h2
 ·refine .inr ⟨fun u hu=>?_,h3⟩
  rcases List.mem_append.1 hu with h4|h4
  ·exact h2 u h4
  ·rw[List.mem_singleton.1 h4];exact h
theorem At0.disk {l:List Tx}{s:ByteArray}(h:At0 l D b s)(hr:zaj D' ((25+b:Nat):Int)=zaj D ((25+b:Nat):Int)):At0 l D' b s:=by
 rcases h with h|⟨h,h2⟩
 ·exact .inl h
 ·exact .inr ⟨h,hr.trans h2⟩
theorem At0.home {l:List Tx}{s:ByteArray}(h:At0 l D b s)(hr:zaj D' ((25+b:Nat):Int)=(newestF l b).getD (zaj D ((25+b:Nat):Int))):At0 [] D' b s:=by
 refine .inr ⟨(fun t ht=>by cases ht),?_⟩;rcases h with h|⟨h,h2⟩
 ·rw[hr,h];rfl
 ·rw[hr,h.newest];exact h2
def MT (j:Jn)(D:Dk)(b:Nat)(s:ByteArray):Prop:=j.role b=1∧(zae b j.now.info=some s∨(nmd j.now b∧zae b j.sealed.data=none∧(zae b j.sealed.info=some s∨(nmd j.sealed b∧At0 j.done D b s))))
theorem MT.ev {s:ByteArray}(h:MT j D b s)(hR:RB j b)(e:KpB j D j' D' b):MT j' D' b s:=by
 obtain⟨h1,h2⟩:=h
 cases e with
 |same e=>
  refine⟨e.hr.trans h1,?_⟩;rw[e.hi,e.hs,e.hdn,e.hD];rcases h2 with h2|⟨h2,h3⟩
  ·exact .inl h2
  ·exact .inr ⟨⟨e.hi.trans h2.1,e.hv.trans h2.2⟩,h3⟩
 |commit e=>
  have hd:zae b j.now.data=none:=by
   cases hx:zae b j.now.data with
   |none=>rfl
   |some u=>have:=hR.r2 (by rw[hx];simp);omega
  refine⟨e.hr.trans h1,.inr ?_⟩;rw[e.hn,e.hs,e.hdn,e.hD];refine⟨ze5 _ b,hd,?_⟩;rcases h2 with h2|⟨h2,_,h3⟩
  ·exact .inl h2
  ·rw[e.hz] at h3
   rcases h3 with h3|⟨_,h3⟩
   ·cases h3
   ·exact .inr ⟨h2,h3⟩
 |through e=>
  refine⟨e.hr.trans h1,?_⟩;rw[e.hn,e.hs,e.hdn];rcases h2 with h2|⟨h2,h3,h4⟩
  ·exact .inl h2
  ·refine .inr ⟨h2,rfl,.inr ⟨ze5 0 b,(At0.snoc h4).disk ?_⟩⟩
   rw[e.hh,h3];rfl
 |home e=>
  refine⟨e.hr.trans h1,?_⟩;rw[e.hn,e.hs,e.hdn];rcases h2 with h2|⟨h2,h3,h4⟩
  ·exact .inl h2
  ·rw[e.hz] at h4
   rcases h4 with h4|⟨_,h4⟩
   ·cases h4
   ·exact .inr ⟨h2,rfl,.inr ⟨ze5 0 b,h4.home e.hh⟩⟩
theorem MT.write {s:ByteArray}(e:WriteB j D j' D' b s):MT j' D' b s:=⟨e.hr,.inl e.hi⟩
def DT (j:Jn)(D:Dk)(b:Nat)(s:ByteArray):Prop:=j.role b=2∧(zae b j.now.data).getD ((zae b j.sealed.data).getD (zaj D ((25+b:Nat):Int)))=s
theorem DT.ev {s:ByteArray}(h:DT j D b s)(hR:RB j b)(e:KpB j D j' D' b):DT j' D' b s:=by
 obtain⟨h1,h2⟩:=h
 cases e with
 |same e=>exact⟨e.hr.trans h1,by rw[e.hd,e.hs,e.hD];exact h2⟩
 |commit e=>exact⟨e.hr.trans h1,by rw[e.hn,e.hs,e.hD];rw[e.hz] at h2;exact h2⟩
 |through e=>exact⟨e.hr.trans h1,by rw[e.hn,e.hs];show(zae b j.now.data).getD (zaj D' _)=s;rw[e.hh];exact h2⟩
 |home e=>exact⟨e.hr.trans h1,by rw[e.hn,e.hs];rw[e.hz] at h2;show(zae b j.now.data).getD (zaj D' _)=s;rw[e.hh,(hR.r5 h1).2.2];exact h2⟩
theorem DT.fill {s:ByteArray}(e:FillB j D j' D' b s):DT j' D' b s:=⟨e.hr,by rw[e.hd];rfl⟩
theorem Md.homeAt (h:Md j D)(hu:j.down=false)(hb:b<12):readE j.disk ((25+b:Nat):Int)=0∧(zae b j.sealed.data=none→newestF j.done b=none→zaj j.disk ((25+b:Nat):Int)=zaj D ((25+b:Nat):Int)):=by
 refine⟨zea h.disk (by omega),fun h1 h2=>?_⟩
 cases h with
 |idle p hs hz hD ht hq=>rw[hD]
 |commit P U k p hw hk hs hD ht he hse hrh hru hq hN=>
  rw[hD];refine(zk3 (25+b) (by omega) _ D ht.good fun s hs h3 h4=>?_).1;rw[zlg he s (List.mem_of_mem_take hs) h3 b hb h4] at h1;cases h1
 |check k p hw hz hk hs hD ht hq=>
  rw[hD];have hc:=ht.check;rw[zdz] at hc;obtain⟨hST,hm⟩:=zdt hc;refine(zk3 (25+b) (by omega) _ D ht.good fun s hs h3 h4=>?_).1;rw[hST] at hs;rcases List.mem_append.1 (List.mem_of_mem_take hs) with h5|h5
  ·rw[homeS] at h5
   rcases List.mem_append.1 h5 with h6|h6
   ·obtain⟨x,hx,rfl⟩:=List.mem_map.1 h6
    have he':25+x.1=((25+b:Nat):Int):=h4;have hb2:=zqc hx;have:x.1=(b:Int):=by omega
    rw[←this,hb2.2.2] at h2;cases h2
   ·split at h6
    ·cases h6
    ·rw[List.mem_singleton.1 h6] at h3;exact absurd rfl h3
  ·rcases List.mem_cons.1 h5 with rfl|h6
   ·have he':(0:Int)=((25+b:Nat):Int):=h4
    omega
   ·rw[List.mem_singleton.1 h6] at h3;exact absurd rfl h3
 |off l N P U p hs hf hD ht=>rw[p.off] at hu;cases hu
 |back U k p hw hk hs hD ht=>rw[p.off] at hu;cases hu
theorem zhy (l:List Tx)(hb:b<12):zae b (newestL l)=newestF l b:=by
 rw[newestL,zui,if_pos ⟨by omega,by omega⟩]
theorem MT.text {s:ByteArray}(h:Md j D)(hu:j.down=false)(hb:b<12)(hR:RB j b)(t:MT j D b s):textJ j b=(s,0):=by
 obtain⟨h1,h2⟩:=t;obtain⟨g1,g2⟩:=h.homeAt hu hb;rcases h2 with h2|⟨h2,h3,h4⟩
 ·rw[textJ,h2]
 ·have hd:zae b j.now.data=none:=by
   cases hx:zae b j.now.data with
   |none=>rfl
   |some u=>have:=hR.r2 (by rw[hx];simp);omega
  rcases h4 with h4|⟨h4,h5|⟨h5,h6⟩⟩
  ·rw[textJ,h2.1,hd,h4]
  ·rw[textJ,h2.1,hd,h4.1,h3,zhy _ hb,h5]
  ·rw[textJ,h2.1,hd,h4.1,h3,zhy _ hb,h5.newest]
   have e:=g2 h3 h5.newest;have c:(((25+b:Nat):Int))=25+(b:Int):=by omega
   rw[c] at g1 e h6;simp only;rw[g1,e,h6]
theorem DT.text {s:ByteArray}(h:Md j D)(hu:j.down=false)(hb:b<12)(hR:RB j b)(t:DT j D b s):textJ j b=(s,0):=by
 obtain⟨h1,h2⟩:=t;obtain⟨g1,g2⟩:=h.homeAt hu hb;obtain⟨n1,n2,n3⟩:=hR.r5 h1;have c:(((25+b:Nat):Int))=25+(b:Int):=by omega
 rw[textJ,n2.1]
 cases hx:zae b j.now.data with
 |some u=>rw[hx] at h2;simp only;rw[←h2];rfl
 |none=>
  rw[hx] at h2;simp only[n1.1]
  cases hy:zae b j.sealed.data with
  |some u=>rw[hy] at h2;simp only;rw[←h2];rfl
  |none=>
   rw[hy] at h2;have e:=g2 hy n3;rw[c] at g1 e h2;simp only[zhy _ hb,n3,g1,e];rw[←h2];rfl
end
theorem zz0 (l:List Tx)(b:Int):zcb l b≠2:=by
 induction l with
 |nil=>exact(by decide:(1:Int)≠2)
 |cons t l ih=>
  rw[zcb];split
  ·decide
  split
  ·decide
  ·exact ih
theorem Md.behind' {j:Jn}{D:Dk}(h:Md j D)(hu:j.down=false):j.last<j.now.seq:=by
 obtain⟨_,_,h3⟩:=h.seqs hu;rcases h3 with⟨_,h3⟩|⟨_,h3,_⟩<;>omega
def ac0:Ac:=⟨0,0,0,0,⟨#[]⟩⟩
def ActAt (w:World)(b o:Nat)(x:Ac):Prop:=
 w.cell? ⟨b,o,none⟩=some (.int .i64 x.kind)∧w.cell? ⟨b,o+1,none⟩=some (.int .i64 x.h)∧w.cell? ⟨b,o+2,none⟩=some (.int .i64 x.b)∧w.cell? ⟨b,o+3,none⟩=some (.int .i64 x.n)∧w.cell? ⟨b,o+4,none⟩=some (.string x.text)
def SegA (w:World)(a:Option Addr)(l:List Ac):Prop:=l=[]∨∃b off,a=some ⟨b,off,none⟩∧b<w.heap.size∧∀i,i<l.length→ActAt w b (off+i*5) (l.getD i ac0)
theorem ActAt.ext {w w':World}{b o:Nat}{x:Ac}(h:ActAt w b o x)(e:Ext w w'):ActAt w' b o x:=⟨e.cell _ _ _ h.1,e.cell _ _ _ h.2.1,e.cell _ _ _ h.2.2.1,e.cell _ _ _ h.2.2.2.1,e.cell _ _ _ h.2.2.2.2⟩
theorem SegA.ext {w w':World}{a:Option Addr}{l:List Ac}(h:SegA w a l)(e:Ext w w'):SegA w' a l:=by
 rcases h with h|⟨b,off,rfl,hlt,hc⟩
 ·exact .inl h
 ·exact .inr ⟨b,off,rfl,Nat.lt_of_lt_of_le hlt e.size,fun i hi=>(hc i hi).ext e⟩
structure OkA (x:Ac):Prop where
 n:x.n≤9223372036854775807
 text:x.text.size≤maxLen
def jOf (l:List Ac)(k:Nat):Jn:=(l.take k).foldl (fun j a=>(doJ j a).1) zww
def rOf (l:List Ac)(k:Nat):Rp:=(doJ (jOf l k) (l.getD k ac0)).2
theorem zoy (l:List Ac):jOf l 0=zww:=by rw[jOf,List.take_zero];rfl
theorem zoz {l:List Ac}{k:Nat}(h:k<l.length):jOf l (k+1)=(doJ (jOf l k) (l.getD k ac0)).1:=by
 rw[jOf,List.take_add_one,List.getElem?_eq_getElem h,List.foldl_append,List.getD,List.getElem?_eq_getElem h];rfl
theorem zz1 (l:List Ac)(k:Nat):PJ (jOf l k):=by
 unfold jOf;generalize l.take k=q
 have:∀(q:List Ac) (j:Jn),PJ j→PJ (q.foldl (fun j a=>(doJ j a).1) j):=by
  intro q
  induction q with
  |nil=>intro j h;exact h
  |cons a q ih=>intro j h;exact ih _ (h.do a)
 exact this q _ PJ.new
def played (l:List Ac):Nat:=min l.length 150
def znf (T:Int→Option ByteArray)(a:Ac)(r:Rp):Int→Option ByteArray:=
 if r.code=0 then
  if a.kind=2∨a.kind=3 then fun x=>if x=a.b then some (fitT a.text) else T x
  else if a.kind=4 then fun x=>if x=a.b then none else T x
  else if a.kind=10 then fun _=>none
  else T
 else T
def tOf (l:List Ac):Nat→Int→Option ByteArray
 |0=>fun _=>none
 |k+1=>znf (tOf l k) (l.getD k ac0) (rOf l k)
structure RdI (j:Jn)(D:Dk)(T:Int→Option ByteArray):Prop where
 md:Md j D
 a0:0≤j.acts
 a1:j.acts≤400
 up:j.down=false→∀b:Nat,b<12→RB j b∧∀s,T b=some s→MT j D b s∨DT j D b s
 off:j.down=true→∀b:Nat,b<12→T b=none
theorem RdI.do {j:Jn}{D:Dk}{T:Int→Option ByteArray}(h:RdI j D T)(a:Ac):
  (∃D',RdI (doJ j a).1 D' (znf T a (doJ j a).2))∧((doJ j a).2.code=0→a.kind=9→∀s,T a.b=some s→(doJ j a).2.text=s):=by
 obtain⟨D',m',b0,b1,e⟩:=z4h h.md a h.a0 h.a1;generalize (doJ j a).1=j' at *;generalize (doJ j a).2=r at *
 have keep1:j.down=false→∀b:Nat,b<12→KpB j D j' D' b→RB j' b∧∀s,T b=some s→MT j' D' b s∨DT j' D' b s:=by
  intro hu b hb hE;obtain⟨g1,g2⟩:=h.up hu b hb;refine⟨g1.ev (h.md.behind' hu) (.keep hE),fun s hs=>?_⟩;rcases g2 s hs with h1|h1
  ·exact .inl (h1.ev g1 hE)
  ·exact .inr (h1.ev g1 hE)
 have keep:j.down=false→j'.down=false→(∀b:Nat,b<12→KpB j D j' D' b)→RdI j' D' T:=by
  intro hu hu' hE;exact⟨m',b0,b1,fun _ b hb=>keep1 hu b hb (hE b hb),fun hd=>by rw[hu'] at hd;cases hd⟩
 have same:(r.code=0→a.kind≠2∧a.kind≠3∧a.kind≠4∧a.kind≠6∧a.kind≠10)→znf T a r=T:=by
  intro hk;unfold znf;split
  ·rename_i h0
   obtain⟨k2,k3,k4,_,k10⟩:=hk h0;rw[if_neg (by omega),if_neg k4,if_neg k10]
  ·rfl
 cases e with
 |calm hd hD all hk h8 h9=>
  refine⟨⟨D',?_⟩,fun h0 hk9 s hs=>?_⟩
  ·rw[same hk]
   by_cases hu:j.down=false
   ·exact keep hu (hd.trans hu) (fun b hb=>.same (all b hb))
   ·have hu2:j.down=true:=by simpa using hu
    exact⟨m',b0,b1,(fun hu'=>by rw[hd,hu2] at hu';cases hu'),fun _ b hb=>h.off hu2 b hb⟩
  ·obtain⟨b,hb,hab,ht,hu⟩:=h9 h0 hk9
   rw[hab] at hs;obtain⟨g1,g2⟩:=h.up hu b hb
   have:textJ j b=(s,0):=by
    rcases g2 s hs with h1|h1
    ·exact h1.text h.md hu hb g1
    ·exact h1.text h.md hu hb g1
   rw[ht] at this;injection this
 |write b hb hab hk hu hu' hc here others=>
  refine⟨⟨D',m',b0,b1,fun _ x hx=>?_,(fun hd=>by rw[hu'] at hd;cases hd)⟩,fun _ h9=>by omega⟩;have hT:znf T a r=fun x=>if x=a.b then some (fitT a.text) else T x:=by rw[znf,if_pos (by rw[hc];rfl),if_pos (.inl hk)]
  rw[hT];by_cases e:x=b
  ·subst e
   refine⟨(h.up hu x hx).1.ev (h.md.behind' hu) (.write _ here),fun s hs=>?_⟩;simp only[hab,if_true,Option.some.injEq] at hs;rw[←hs];exact .inl (MT.write here)
  ·have g:=keep1 hu x hx (.same (others x hx e))
   have hne:¬(x:Int)=a.b:=by omega
   refine⟨g.1,fun s hs=>g.2 s ?_⟩
   simpa only[hne,if_false] using hs
 |fill b hb hab hk hu hu' hc here others=>
  refine⟨⟨D',m',b0,b1,fun _ x hx=>?_,(fun hd=>by rw[hu'] at hd;cases hd)⟩,fun _ h9=>by omega⟩;have hT:znf T a r=fun x=>if x=a.b then some (fitT a.text) else T x:=by rw[znf,if_pos (by rw[hc];rfl),if_pos (.inr hk)]
  rw[hT];by_cases e:x=b
  ·subst e
   refine⟨(h.up hu x hx).1.ev (h.md.behind' hu) (.fill _ here),fun s hs=>?_⟩;simp only[hab,if_true,Option.some.injEq] at hs;rw[←hs];exact .inr (DT.fill here)
  ·have g:=keep1 hu x hx (.same (others x hx e))
   have hne:¬(x:Int)=a.b:=by omega
   refine⟨g.1,fun s hs=>g.2 s ?_⟩
   simpa only[hne,if_false] using hs
 |revoke b hb hab hk hu hu' hc here others=>
  refine⟨⟨D',m',b0,b1,fun _ x hx=>?_,(fun hd=>by rw[hu'] at hd;cases hd)⟩,fun _ h9=>by omega⟩;have hT:znf T a r=fun x=>if x=a.b then none else T x:=by rw[znf,if_pos (by rw[hc];rfl),if_neg (by omega),if_pos hk]
  rw[hT];by_cases e:x=b
  ·subst e
   refine⟨(h.up hu x hx).1.ev (h.md.behind' hu) (.revoke here),fun s hs=>?_⟩;simp only[hab,if_true] at hs;cases hs
  ·have g:=keep1 hu x hx (.same (others x hx e))
   have hne:¬(x:Int)=a.b:=by omega
   refine⟨g.1,fun s hs=>g.2 s ?_⟩
   simpa only[hne,if_false] using hs
 |commit hk hu hu' hc hn all=>
  refine⟨⟨D',?_⟩,fun _ h9=>by omega⟩;have hT:znf T a r=T:=by rw[znf,if_pos hc,if_neg (by omega),if_neg (by omega),if_neg (by omega)]
  rw[hT];exact keep hu hu' (fun b hb=>.commit (all b))
 |through hk hu hu' hc hn all=>
  refine⟨⟨D',?_⟩,fun _ h9=>by omega⟩;rw[same (fun _=>by omega)];exact keep hu hu' (fun b hb=>.through (all b hb))
 |home hk hu hu' hc all=>
  refine⟨⟨D',?_⟩,fun _ h9=>by omega⟩;rw[same (fun _=>by omega)];exact keep hu hu' (fun b hb=>.home (all b hb))
 |on hk hd hu' hc hl hs hn hdn hr hf hdk hh=>
  refine⟨⟨D',m',b0,b1,fun _ b hb=>⟨RB.new hs hn hdn (by rw[hr b];exact zz0 _ _),fun s hs2=>?_⟩,(fun hd2=>by rw[hu'] at hd2;cases hd2)⟩,fun _ h9=>by omega⟩;rw[same (fun _=>by omega),h.off hd b hb] at hs2;cases hs2
 |crash hk hu' hc hl left=>
  have hT:znf T a r=fun _=>none:=by rw[znf,if_pos (by rw[hc];rfl),if_neg (by omega),if_neg (by omega),if_pos hk]
  rw[hT];exact⟨⟨D',m',b0,b1,(fun hu2=>by rw[hu'] at hu2;cases hu2),fun _ _ _=>rfl⟩,fun _ h9=>by omega⟩
theorem RdI.new:RdI zww zzu (fun _=>none):=
 ⟨z2g,by decide,by decide,fun _ b _=>⟨RB.new rfl rfl rfl (by exact(by decide:(0:Int)≠2)),fun s hs=>by cases hs⟩,fun hd=>by cases hd⟩
theorem z40 (l:List Ac)(k:Nat)(hk:k≤l.length):∃D,RdI (jOf l k) D (tOf l k):=by
 induction k with
 |zero=>rw[zoy];exact⟨zzu,RdI.new⟩
 |succ k ih=>
  obtain⟨D,h⟩:=ih (by omega);rw[zoz (by omega)];exact(h.do (l.getD k ac0)).1
theorem zz2 {j:Jn}(h:PJ j)(a:Ac)(ha:j.acts<400):(doJ j a).1.acts=j.acts+1:=by
 obtain⟨D,h1,h2,h3⟩:=h;rcases zzv h1 a h2 h3 with⟨h4,_⟩|⟨_,h5,_⟩
 ·omega
 ·exact h5
theorem z1z (l:List Ac)(k:Nat)(hk:k≤l.length)(h4:k≤400):(jOf l k).acts=k:=by
 induction k with
 |zero=>rw[zoy];rfl
 |succ k ih=>
  have h:=ih (by omega) (by omega);rw[zoz (by omega),zz2 (zz1 l k) _ (by omega),h];omega
theorem RdI.read {j:Jn}{D:Dk}{T:Int→Option ByteArray}(h:RdI j D T)(hu:j.down=false)(ha:j.acts<400){b:Nat}(hb:b<12){s:ByteArray}(hs:T b=some s)(x:Ac)(hk:x.kind=9)(hx:x.b=b):
  (doJ j x).2.code=0∧(doJ j x).2.text=s∧(doJ j x).2.n≠0:=by
 obtain⟨g1,g2⟩:=h.up hu b hb
 have hr:j.role b≠0∧textJ j b=(s,0):=by
  rcases g2 s hs with h1|h1
  ·exact⟨by rw[h1.1];decide,h1.text h.md hu hb g1⟩
  ·exact⟨by rw[h1.1];decide,h1.text h.md hu hb g1⟩
 have ht:textJ {j with acts:=j.acts+1} b=(s,0):=hr.2;rw[doJ,if_neg (by omega),zil,if_neg (by omega),if_neg (by omega),if_neg (by omega),if_neg (by omega),if_neg (by show¬j.down=true;rw[hu];decide)];rw[zas,if_neg (by omega),if_neg (by omega),if_neg (by omega),if_neg (by omega),if_neg (by omega),if_neg (by omega),if_neg (by omega)];simp only;rw[zii,hx,if_neg (by omega),ht,if_pos rfl];refine⟨rfl,rfl,?_⟩;show j.role ((b:Int).toNat)≠0;rw[Int.toNat_natCast];exact hr.1
def z4j (B:Nat)(b:Nat)(off:Nat)(k:Nat)(x:Ac)(r:Rp)(look:Value)(c:Nat)(l:List Ac):Nat→Value→World→Prop
 |0,v,_=>v=look
 |1,v,_=>v=.pointer (some ⟨B,0,none⟩)
 |2,v,_=>v=.slice (some ⟨b,off,none⟩) l.length c
 |3,v,_=>v=.int .i64 k
 |4,v,_=>v=.pointer (some ⟨b,off+k*5,none⟩)
 |5,v,_=>v=.agg #[.int .i64 x.kind,.int .i64 x.h,.int .i64 x.b,.int .i64 x.n,.string x.text]
 |6,v,_=>v=.agg #[.int .i64 r.code,.int .i64 r.n,.string r.text]
 |_,_,_=>True
theorem zz3 (look:Value)(g:Nat)(lk:Value→Value→Value→Array Value)
  (hent:∀(o:Oper) (ρ:Operand→Value) (w:World) (x y z:Value) (ts:Array TypeId),o.op=Op.call {callee:=.value (.tmp 28),args:=#[.tmp 29,.tmp 33,.tmp 34],argTypes:=ts}→ρ (.tmp 28)=look→ρ (.tmp 29)=x→ρ (.tmp 33)=y→ρ (.tmp 34)=z→(execOp ρ o).run Tryz.prog w=.ok (.enter g (lk x y z)) w)
  (a:Option Addr) (c:Nat) (l:List Ac) (w:World) (LX:List Nat) (hA:SegA (zan w LX) a l) (hlen:l.length≤maxLen) (hok:∀x∈l,OkA x) (hLX:∀x∈LX,x<w.heap.size)
  (S:Nat→Nat→World→Prop) (hS0:∀W B,w.heap.size≤B→Below w.heap.size w W→JAt W B (B::LX) zww→S B 0 W) (hSb:∀k W W' B,S B k W→w.heap.size≤B→w.heap.size≤W.heap.size→ButL [B] W.heap.size W W'→S B k W')
  (hL:∀k W B,k<played l→w.heap.size≤B→S B k W→JAt W B (B::LX) (jOf l (k+1))→(∀x∈(B::LX),x<W.heap.size)→Calls Tryz.prog g (lk (.pointer (some ⟨B,0,none⟩)) (.agg #[.int .i64 (l.getD k ac0).kind,.int .i64 (l.getD k ac0).h,.int .i64 (l.getD k ac0).b,.int .i64 (l.getD k ac0).n,.string (l.getD k ac0).text]) (.agg #[.int .i64 (rOf l k).code,.int .i64 (rOf l k).n,.string (rOf l k).text])) W fun e W'=>e=.returned (.bool true)∧S B (k+1) W'∧JAt W' B (B::LX) (jOf l (k+1))∧ButL LX w.heap.size W W'∧W.heap.size≤W'.heap.size):
  Calls Tryz.prog 21 #[.slice a l.length c,look] w fun e w'=>∃B,e=.returned (.tuple #[.pointer (some ⟨B,0,none⟩),.bool true])∧w.heap.size≤B∧S B (played l) w'∧JAt w' B (B::LX) (jOf l (played l))∧ButL LX w.heap.size w w':=by
 have HA:=zaa hA;have HOK:=zaa hok;have HLX:=zaa hLX;have HS0:=zaa hS0;have HSB:=zaa hSb;have HL:=zaa hL;have HENT:=zaa hent;clear hA hok hLX hS0 hSb hL hent;unfold maxLen at hlen;go_enter Tryz.func21,Tryz.ntmps21;go_wp2_with fail;refine(zzx _).mono ?_;rintro e w1 ⟨rfl,hb1⟩;have HB1:=zaa hb1;clear hb1;go_wp2_with fail;refine(zt8 _).mono ?_;rintro e w2 ⟨B,rfl,hB0,hJ,hbn⟩;have hs1:w.heap.size≤w1.heap.size:=HB1.o.size;have HJ2:=zaa (hJ LX (fun x hx=>Nat.lt_of_lt_of_le (HLX.o x hx) hs1));have HB2:=zaa (zad HB1.o hbn);have hBw:w.heap.size≤B:=by omega
 have HS2:Hid (S B 0 w2):=HS0.o w2 B hBw HB2.o HJ2.o;clear hJ hbn;go_wp2
 go_loopw [7] (fun i wr=>∃k:Nat,k≤played l∧i=.int .i64 k∧Hid (S B k wr)∧Hid (JAt wr B (B::LX) (jOf l k))∧Hid (ButL LX w.heap.size w wr)) (fun i _=>l.length - (intOf i).toNat)
 case atStart=>exact⟨0,Nat.zero_le _,rfl,HS2,by rw[zoy];exact HJ2,ButL.of_below HB2.o⟩
 case round=>
  obtain⟨k,hk,rfl,HSr,HJr,HBr⟩:=hrel;clear HJ2 HB2 HS2 HB1;have hpl:played l=min l.length 150:=rfl;by_cases hkp:k<played l
  ·have hk1:k<l.length:=by omega
   have hk2:k<150:=by omega
   have i1:(k:Int)<(l.length:Int):=by omega
   have i2:(k:Int)<150:=by omega
   have i0:(0:Int)≤(k:Int):=by omega
   obtain⟨b,off,rfl,hb,hc⟩:=(HA.o.ext (Ext.butL HBr.o)).resolve_left (fun e=>by rw[e] at hk1;simp at hk1);obtain⟨x,hx⟩:∃x,x=l.getD k ac0:=⟨_,rfl⟩;have hca:=hc k hk1;rw[←hx] at hca;obtain⟨hnL,e0⟩:=zbm hca.1;have e1:=(zbm hca.2.1).2;have e2:=(zbm hca.2.2.1).2;have e3:=(zbm hca.2.2.2.1).2;have e4:=(zbm hca.2.2.2.2).2;have P00:=zaa e0;have P10:=zaa e1;have P20:=zaa e2;have P30:=zaa e3;have P40:=zaa e4;have hbr:b<wr.heap.size:=by rw[zba] at hb;exact hb
   have hbw:b<w.heap.size:=by
    rcases HA.o with e|⟨b2,off2,he,hb2,_⟩
    ·rw[e] at hk1;simp at hk1
    ·cases he;rw[zba] at hb2;exact hb2
   have HX:=zaa hx;have hxm:OkA x:=HOK.o x (by rw[hx,List.getD,List.getElem?_eq_getElem hk1];exact List.getElem_mem hk1);have HXM:=zaa hxm;have hsr:w.heap.size≤wr.heap.size:=HBr.o.size;clear hc hca hx hb hxm;go_wp2_with fail;refine(zjf B (B::LX) (jOf l k) wr HJr.o (fun y hy=>?_) (zz1 l k).ready x HXM.o.n HXM.o.text).mono ?_
   ·rcases List.mem_cons.1 hy with rfl|hy
    ·exact HJr.o.lt
    ·have:=HLX.o y hy;omega
   rintro e wq ⟨rfl,hJq,hBq⟩;have hrE:(doJ (jOf l k) x).2=rOf l k:=by rw[rOf,HX.o]
   have hjE:(doJ (jOf l k) x).1=jOf l (k+1):=by rw[zoz hk1,HX.o]
   rw[hjE] at hJq;rw[hrE];obtain⟨r,hr⟩:∃r,r=rOf l k:=⟨_,rfl⟩;rw[←hr];rw[show vRp r=.agg #[.int .i64 r.code,.int .i64 r.n,.string r.text] from rfl];have HRR:=zaa hr;have hsq:wr.heap.size≤wq.heap.size:=hBq.size;have hbq:wq.heap[b]?=wr.heap[b]?:=hBq.block b hbr (by simp;omega);have P01:=zaa ((World.cell?_of_block hbq).trans P00.o);have P11:=zaa ((World.cell?_of_block hbq).trans P10.o);have P21:=zaa ((World.cell?_of_block hbq).trans P20.o);have P31:=zaa ((World.cell?_of_block hbq).trans P30.o);have P41:=zaa ((World.cell?_of_block hbq).trans P40.o);have HSq:=zaa (HSB.o k wr wq B HSr.o hBw hsr hBq);have HBq2:Hid (ButL LX w.heap.size w wq):=HBr.o.trans hBq hsr (by simp;omega);clear hrE hjE hr hBq hbq e0 e1 e2 e3 e4;go_wp2;rename_i KK hKK;obtain⟨W1,hW1⟩:∃W1,W1=wq.alloc (.cells #[.int .i64 r.code,.int .i64 r.n,.string r.text] 31):=⟨_,rfl⟩;rw[←hW1];have hbW:Below wq.heap.size wq W1:=by rw[hW1];exact below1 _ _
   have KRb:W1.heap[wq.heap.size]?=some (.cells #[.int .i64 r.code,.int .i64 r.n,.string r.text] 31 (0,0)):=by rw[hW1];exact heap_alloc_new _ _
   have Q0:Hid (W1.cell? ⟨wq.heap.size,0,none⟩=some (.int .i64 r.code)):=(cell_of_row W1 _ 0 _ _ _ KRb).trans rfl;have Q1:Hid (W1.cell? ⟨wq.heap.size,1,none⟩=some (.int .i64 r.n)):=(cell_of_row W1 _ 1 _ _ _ KRb).trans rfl;have Q2:Hid (W1.cell? ⟨wq.heap.size,2,none⟩=some (.string r.text)):=(cell_of_row W1 _ 2 _ _ _ KRb).trans rfl;have P0:=zaa (zab hbW (show b<wq.heap.size by omega) P01.o);have P1:=zaa (zab hbW (show b<wq.heap.size by omega) P11.o);have P2:=zaa (zab hbW (show b<wq.heap.size by omega) P21.o);have P3:=zaa (zab hbW (show b<wq.heap.size by omega) P31.o);have P4:=zaa (zab hbW (show b<wq.heap.size by omega) P41.o);have hs1:W1.heap.size=wq.heap.size+1:=by rw[hW1];simp
   have hRW:wq.heap.size<W1.heap.size:=by omega
   have hbW1:b<W1.heap.size:=by omega
   have HLK:Hid (∀W,Below W1.heap.size W1 W→Calls Tryz.prog g (lk (.pointer (some ⟨B,0,none⟩)) (.agg #[.int .i64 x.kind,.int .i64 x.h,.int .i64 x.b,.int .i64 x.n,.string x.text]) (.agg #[.int .i64 r.code,.int .i64 r.n,.string r.text])) W fun e W'=>e=.returned (.bool true)∧S B (k+1) W'∧JAt W' B (B::LX) (jOf l (k+1))∧ButL LX w.heap.size w W'∧W.heap.size≤W'.heap.size):=by
    intro W hR;have hbb:=zad hbW hR
    have h1:=HL.o k W B hkp hBw (HSB.o k wq W B HSq.o hBw (by omega) (ButL.of_below hbb)) (hJq.below hbb) (fun y hy=>by
     have h2:=hbb.size;rcases List.mem_cons.1 hy with rfl|hy
     ·have:=hJq.lt;omega
     ·have:=HLX.o y hy;omega)
    rw[←HX.o,←HRR.o] at h1;refine h1.mono ?_;rintro e W' ⟨h3,h4,h5,h6,h7⟩;exact⟨h3,h4,h5,(HBq2.o.trans (Y:=[]) (ButL.of_below hbb) (by omega) (by simp)).trans h6 (Nat.le_refl _) (by intro y hy;exact .inl hy),h7⟩
   have hbW:=hbW1
   have TAIL:∀(g:Nat→Value) (W':World),S B (k+1) W'→JAt W' B (B::LX) (jOf l (k+1))→ButL LX w.heap.size w W'→True→KK ⟨#[.slice (some ⟨b,off,none⟩) l.length c,look,undef,undef,g 4,g 5,.pointer (some ⟨B,0,none⟩),.int .i64 (k:Int),g 8,.bool true,.bool false,.pointer (some ⟨B,0,none⟩),g 12,g 13,g 14,g 15,g 16,g 17,g 18,g 19,g 20,g 21,g 22,g 23,g 24,g 25,g 26,g 27,g 28,g 29,g 30,g 31,g 32,g 33,g 34,g 35,.bool false,g 37,undef],[]⟩ W':=by
    intro g W' hS' hJ' hB' _;apply hKK;clear hKK;have HS':=zaa hS';have HJ':=zaa hJ';have HB':=zaa hB';clear hS' hJ' hB';go_wp2
    go_roundw
    case rel=>exact⟨k+1,by omega,by go_num,HS',HJ',HB'⟩
    case measure=>first|(simp[intOf];omega)|simp[intOf]
   have HTAIL:=zaa TAIL;clear TAIL hKK;refine(show∀A0:Act,A0=_→Code.wp Tryz.prog _ _ A0 _ from fun A0 hA0=>?_) _ rfl;have hsz:A0.tmps.size=39:=by rw[hA0];rfl
   have hdf:A0.defers=[]:=by rw[hA0]
   have v0:A0.eval (.tmp 0)=.slice (some ⟨b,off,none⟩) l.length c:=by rw[hA0];rfl
   have v1:A0.eval (.tmp 1)=look:=by rw[hA0];rfl
   have v2:A0.eval (.tmp 2)=undef:=by rw[hA0];rfl
   have v3:A0.eval (.tmp 3)=undef:=by rw[hA0];rfl
   have v6:A0.eval (.tmp 6)=.pointer (some ⟨B,0,none⟩):=by rw[hA0];rfl
   have v7:A0.eval (.tmp 7)=.int .i64 (k:Int):=by rw[hA0];rfl
   have v9:A0.eval (.tmp 9)=.bool true:=by rw[hA0];rfl
   have v10:A0.eval (.tmp 10)=.bool false:=by rw[hA0];rfl
   have v11:A0.eval (.tmp 11)=.pointer (some ⟨B,0,none⟩):=by rw[hA0];rfl
   have v38:A0.eval (.tmp 38)=undef:=by rw[hA0];rfl
   have v8:A0.eval (.tmp 8)=.pointer (some ⟨wq.heap.size,0,none⟩):=by rw[hA0];rfl
   clear hA0;refine za5 7 (fun w'=>Below W1.heap.size W1 w') [28,29,30,31,32,33,34] (z4j B b off k x r look c l) (by kernel_rfl) (by kernel_rfl) (by kernel_rfl) (by kernel_rfl) (by decide) ((Below.refl _ _).drew) ⟨?_,?_,?_,?_,?_,?_,?_,trivial⟩ ?_
   ·intro a w' hF hR hp
    have z1:=(hF.other 1 rfl).trans v1;exact zai _ rfl rfl (by revert z1;generalize a.eval=ρ;intro z1;simp only[execOp];go_simp) hF hsz hR rfl
   ·intro a w' hF hR hp
    have z6:=(hF.other 6 rfl).trans v6;exact zai _ rfl rfl (by revert z6;generalize a.eval=ρ;intro z6;simp only[execOp];go_simp) hF hsz hR rfl
   ·intro a w' hF hR hp
    have z0:=(hF.other 0 rfl).trans v0;exact zai _ rfl rfl (by revert z0;generalize a.eval=ρ;intro z0;simp only[execOp];go_simp) hF hsz hR rfl
   ·intro a w' hF hR hp
    have z7:=(hF.other 7 rfl).trans v7;exact zai _ rfl rfl (by revert z7;generalize a.eval=ρ;intro z7;simp only[execOp];go_simp) hF hsz hR rfl
   ·intro a w' hF hR hp
    have p30:a.eval (.tmp 30)=.slice (some ⟨b,off,none⟩) l.length c:=hp ⟨2,.data⟩ (by simp) rfl;have p31:a.eval (.tmp 31)=.int .i64 k:=hp ⟨3,.data⟩ (by simp) rfl;exact zai _ rfl rfl (by revert p30 p31;generalize a.eval=ρ;intro p30 p31;simp only[execOp];go_simp) hF hsz hR rfl
   ·intro a w' hF hR hp
    have p32:a.eval (.tmp 32)=.pointer (some ⟨b,off+k*5,none⟩):=hp ⟨4,.data⟩ (by simp) rfl;have c0:w'.cell? ⟨b,off+k*5,none⟩=some (.int .i64 x.kind):=zab hR hbW (P0.o);have c1:w'.cell? ⟨b,off+k*5+1,none⟩=some (.int .i64 x.h):=zab hR hbW (P1.o);have c2:w'.cell? ⟨b,off+k*5+2,none⟩=some (.int .i64 x.b):=zab hR hbW (P2.o);have c3:w'.cell? ⟨b,off+k*5+3,none⟩=some (.int .i64 x.n):=zab hR hbW (P3.o);have c4:w'.cell? ⟨b,off+k*5+4,none⟩=some (.string x.text):=zab hR hbW (P4.o);exact zai _ rfl rfl (by revert p32;generalize a.eval=ρ;intro p32;simp only[execOp];go_simp) hF hsz hR rfl
   ·intro a w' hF hR hp
    have z8:=(hF.other 8 rfl).trans v8;have c0:w'.cell? ⟨wq.heap.size,0,none⟩=some (.int .i64 r.code):=zab hR hRW (Q0.o);have c1:w'.cell? ⟨wq.heap.size,1,none⟩=some (.int .i64 r.n):=zab hR hRW (Q1.o);have c2:w'.cell? ⟨wq.heap.size,2,none⟩=some (.string r.text):=zab hR hRW (Q2.o);exact zai _ rfl rfl (by revert z8;generalize a.eval=ρ;intro z8;simp only[execOp];go_simp) hF hsz hR rfl
   ·intro aa W hF hR hp
    have p28:aa.eval (.tmp 28)=look:=hp 0 (by decide);have p29:aa.eval (.tmp 29)=.pointer (some ⟨B,0,none⟩):=hp 1 (by decide);have p33:aa.eval (.tmp 33)=.agg #[.int .i64 x.kind,.int .i64 x.h,.int .i64 x.b,.int .i64 x.n,.string x.text]:=hp 5 (by decide);have p34:aa.eval (.tmp 34)=.agg #[.int .i64 r.code,.int .i64 r.n,.string r.text]:=hp 6 (by decide);have hsa:aa.tmps.size=39:=hF.size.trans hsz;show wpOps Tryz.prog _ _ [7,8] aa W;rw[wpOps_cons];refine zbh g (lk (.pointer (some ⟨B,0,none⟩)) (.agg #[.int .i64 x.kind,.int .i64 x.h,.int .i64 x.b,.int .i64 x.n,.string x.text]) (.agg #[.int .i64 r.code,.int .i64 r.n,.string r.text])) rfl rfl (HENT.o _ aa.eval W _ _ _ _ rfl p28 p29 p33 p34) _ (HLK.o W hR) ?_;rintro e w5 ⟨rfl,hS5,hJ5,hB5,_⟩;refine⟨_,rfl,?_⟩;obtain⟨b1,hb1⟩:∃b1,b1=aa.put (some 35) (.bool true):=⟨_,rfl⟩;have s35:b1.eval (.tmp 35)=.bool true:=by rw[hb1];exact Act.eval_put_same _ _ _ (by rw[hsa];decide)
    have hs1:b1.tmps.size=39:=by rw[hb1,Act.size_put];exact hsa
    show wpOps Tryz.prog _ _ [8] (aa.put (some 35) (.bool true)) w5;rw[←hb1,wpOps_cons];refine za1 (.bool false) rfl rfl (by revert s35;generalize b1.eval=ρ;intro s35;simp only[execOp];go_simp) ?_;obtain⟨b2,hb2⟩:∃b2,b2=b1.put (some 36) (.bool false):=⟨_,rfl⟩;have f36:b2.eval (.tmp 36)=.bool false:=by rw[hb2];exact Act.eval_put_same _ _ _ (by rw[hs1];decide)
    have f0:b2.eval (.tmp 0)=.slice (some ⟨b,off,none⟩) l.length c:=by rw[hb2,Act.eval_put_ne _ _ _ _ (by decide),hb1,Act.eval_put_ne _ _ _ _ (by decide)];exact(hF.other 0 rfl).trans v0
    have f1:b2.eval (.tmp 1)=look:=by rw[hb2,Act.eval_put_ne _ _ _ _ (by decide),hb1,Act.eval_put_ne _ _ _ _ (by decide)];exact(hF.other 1 rfl).trans v1
    have f2:b2.eval (.tmp 2)=undef:=by rw[hb2,Act.eval_put_ne _ _ _ _ (by decide),hb1,Act.eval_put_ne _ _ _ _ (by decide)];exact(hF.other 2 rfl).trans v2
    have f3:b2.eval (.tmp 3)=undef:=by rw[hb2,Act.eval_put_ne _ _ _ _ (by decide),hb1,Act.eval_put_ne _ _ _ _ (by decide)];exact(hF.other 3 rfl).trans v3
    have f6:b2.eval (.tmp 6)=.pointer (some ⟨B,0,none⟩):=by rw[hb2,Act.eval_put_ne _ _ _ _ (by decide),hb1,Act.eval_put_ne _ _ _ _ (by decide)];exact(hF.other 6 rfl).trans v6
    have f7:b2.eval (.tmp 7)=.int .i64 (k:Int):=by rw[hb2,Act.eval_put_ne _ _ _ _ (by decide),hb1,Act.eval_put_ne _ _ _ _ (by decide)];exact(hF.other 7 rfl).trans v7
    have f9:b2.eval (.tmp 9)=.bool true:=by rw[hb2,Act.eval_put_ne _ _ _ _ (by decide),hb1,Act.eval_put_ne _ _ _ _ (by decide)];exact(hF.other 9 rfl).trans v9
    have f10:b2.eval (.tmp 10)=.bool false:=by rw[hb2,Act.eval_put_ne _ _ _ _ (by decide),hb1,Act.eval_put_ne _ _ _ _ (by decide)];exact(hF.other 10 rfl).trans v10
    have f11:b2.eval (.tmp 11)=.pointer (some ⟨B,0,none⟩):=by rw[hb2,Act.eval_put_ne _ _ _ _ (by decide),hb1,Act.eval_put_ne _ _ _ _ (by decide)];exact(hF.other 11 rfl).trans v11
    have f38:b2.eval (.tmp 38)=undef:=by rw[hb2,Act.eval_put_ne _ _ _ _ (by decide),hb1,Act.eval_put_ne _ _ _ _ (by decide)];exact(hF.other 38 rfl).trans v38
    have hlit:b2=⟨#[_,_,_,_,_,_,_,_,_,_,_,_,_,_,_,_,_,_,_,_,_,_,_,_,_,_,_,_,_,_,_,_,_,_,_,_,_,_,_],[]⟩:=zb7 b2 39 (by rw[hb2,Act.size_put];exact hs1) (by rw[hb2,Act.defers_put',hb1,Act.defers_put'];exact hF.defers.trans hdf);dsimp only at hlit;rw[f0,f1,f2,f3,f6,f7,f9,f10,f11,f36,f38] at hlit;show KK (b1.put (some 36) (.bool false)) _;rw[←hb2];exact(congrArg (fun y=>KK y _) hlit).mpr (HTAIL.o (fun k=>b2.eval (.tmp k)) _ hS5 hJ5 hB5 trivial)
  ·have hkn:k=played l:=by omega
   subst hkn;have hfin:¬((played l:Int)<(l.length:Int))∨¬((played l:Int)<150):=by omega
   clear hpl;rcases Classical.em ((played l:Int)<(l.length:Int)) with i1|i1
   ·have i2:¬((played l:Int)<150):=by omega
    clear hfin;go_wp2;refine bodyPost_ret (results_tmp2 rfl _ _ _) rfl ⟨B,rfl,hBw,HSr.o,HJr.o,HBr.o⟩
   ·clear hfin
    go_wp2;refine bodyPost_ret (results_tmp2 rfl _ _ _) rfl ⟨B,rfl,hBw,HSr.o,HJr.o,HBr.o⟩
theorem SegA.hideW {w:World}{a:Option Addr}{l:List Ac}(h:SegA w a l){w':World}(hb:Below w.heap.size w w'){X:List Nat}(hX:∀x∈X,w.heap.size≤x):SegA (zan w' X) a l:=by
 rcases h with h0|⟨b,off,rfl,hlt,hc⟩
 ·exact .inl h0
 ·have hn:b∉X:=fun hx=>by have:=hX b hx;omega
  refine .inr ⟨b,off,rfl,by rw[zba];have:=hb.size;omega,fun i hi=>?_⟩;obtain⟨g0,g1,g2,g3,g4⟩:=hc i hi;exact⟨zbq hn (zab hb hlt g0),zbq hn (zab hb hlt g1),zbq hn (zab hb hlt g2),zbq hn (zab hb hlt g3),zbq hn (zab hb hlt g4)⟩
def RdPost (B:Nat)(X:List Nat)(j:Jn)(L M n:Nat)(f:Int→Option ByteArray)(w w':World):Prop:=
 ∃M' n',w'.heap[L]?=some (.cells #[.map (some M')] 56 (0,0))∧MapF zly w' M' n' f∧n'≤n+1∧(M'=M∨w.heap.size≤M')∧JAt w' B X j∧ButL [L,M] w.heap.size w w'
section
variable {B:Nat} {X:List Nat} {j:Jn} {L M n:Nat} {f:Int→Option ByteArray} {w W W2:World}
theorem RdPost.keep (hJ:JAt w B X j)(h3:w.heap[L]?=some (.cells #[.map (some M)] 56 (0,0)))(hM:MapF zly w M n f)(hW:Below w.heap.size w W):RdPost B X j L M n f w W:=
 ⟨M,n,zac hW (Array.getElem?_eq_some_iff.1 h3).1 h3,hM.below hW,Nat.le_succ _,.inl rfl,hJ.below hW,ButL.of_below hW⟩
theorem RdPost.turn (hJ:JAt w B X j)(h3:w.heap[L]?=some (.cells #[.map (some M)] 56 (0,0)))(hW:Below w.heap.size w W){m:Nat}{g:Int→Option ByteArray}(hM2:MapF zly W2 M m g)(ht:W.mapTurned W2 M)(hm:m≤n+1):RdPost B X j L M n g w W2:=by
 have hl:=(Array.getElem?_eq_some_iff.1 h3).1;have h3':=zac hW hl h3
 have hne:¬L=M:=fun e=>by
  obtain⟨es,ck,_,_,he,_⟩:=ht;rw[←e,h3'] at he;cases he
 have hbL:=zjg ht (X:=[M]) (by simp) W.heap.size;have hs:=hW.size;exact⟨M,m,(hbL.block L (by omega) (by simpa using hne)).trans h3',hM2,hm,.inl rfl,(hJ.below hW).turned ht,(ButL.of_below hW).trans hbL hs (by simp)⟩
theorem RdPost.fresh (hJ:JAt w B X j)(h3:w.heap[L]?=some (.cells #[.map (some M)] 56 (0,0)))(hW:Below w.heap.size w W)(hLX:L∈X)(hLB:L≠B):RdPost B X j L M n (fun _=>none) w ((W.alloc (.map #[] 0)).setCell ⟨L,0,none⟩ (.map (some W.heap.size))):=by
 have hl:=(Array.getElem?_eq_some_iff.1 h3).1;have hs:=hW.size;have hW1:Below w.heap.size w (W.alloc (.map #[] 0)):=hW.trans ⟨(below1 W _).os,(below1 W _).tape,(below1 W _).output,(below1 W _).size,fun q hq=>(below1 W _).block q (by omega)⟩;have h3':=zac hW1 hl h3;have hm:MapF zly (W.alloc (.map #[] 0)) W.heap.size 0 (fun _=>none):=MapF.made W;refine⟨W.heap.size,0,heap_setCell_same _ _ 0 _ _ _ h3',hm.block (Below.heap_setCell _ _ _ _ (by show W.heap.size≠L;omega)),Nat.zero_le _,.inr hs,(hJ.below hW1).set hLX hLB 0 _,(ButL.of_below hW1).set (.inl (by simp)) 0 _⟩
end
def zng (M:Nat)(P:Nat)(xb:Int)(xt:ByteArray):Nat→Value→World→Prop
 |0,v,_=>v=.map (some M)
 |1,v,_=>v=.pointer (some ⟨P,2,none⟩)
 |2,v,_=>v=.int .i64 xb
 |3,v,_=>v=.pointer (some ⟨P,4,none⟩)
 |4,v,_=>v=.string xt
 |5,v,_=>v=.string (fitT xt)
 |_,_,_=>True
theorem zj2 {M:Nat}{P:Nat}{xb:Int}{xt:ByteArray}{w w':World}(_hb:Below w.heap.size w w'){i:Nat}:∀kk uu,kk≠i→zng M P xb xt kk uu w→zng M P xb xt kk uu w':=by
 intro kk uu _ h
 match kk,h with
 |0,h|1,h|2,h|3,h|4,h|5,h=>exact h
 |_+6,_=>exact trivial
theorem z29 (B:Nat)(X:List Nat)(j:Jn)(xh xb xn rn:Int)(xt rt:ByteArray)(L M n:Nat)(f:Int→Option ByteArray)(w:World)(hJ:JAt w B X j)(h3:w.heap[L]?=some (.cells #[.map (some M)] 56 (0,0)))(hM:MapF zly w M n f)(hnm:n<maxLen)(hxt:xt.size≤maxLen)(hwf:(Lit.int .i64 xb).wf=true):
  Calls Tryz.prog 27 #[.pointer (some ⟨B,0,none⟩),.agg #[.int .i64 2,.int .i64 xh,.int .i64 xb,.int .i64 xn,.string xt],.agg #[.int .i64 0,.int .i64 rn,.string rt],.pointer (some ⟨L,0,none⟩)] w fun e w'=>e=.returned (.bool true)∧RdPost B X j L M n (fun z=>if z=xb then some (fitT xt) else f z) w w':=by
 have hl3:L<w.heap.size:=(Array.getElem?_eq_some_iff.1 h3).1;have hlM:M<w.heap.size:=hM.lt;have HJ:=zaa hJ;have H3:=zaa h3;have HM:=zaa hM;clear hJ h3 hM;obtain⟨W0,hW0⟩:∃W0,W0=(w.alloc (.cells #[.int .i64 2,.int .i64 xh,.int .i64 xb,.int .i64 xn,.string xt] 23)).alloc (.cells #[.int .i64 0,.int .i64 rn,.string rt] 31):=⟨_,rfl⟩;have HB0:Hid (Below w.heap.size w W0):=by rw[hW0];exact zad (below1 _ _) (below1 _ _)
 have hz1:(w.alloc (.cells #[.int .i64 2,.int .i64 xh,.int .i64 xb,.int .i64 xn,.string xt] 23)).heap.size=w.heap.size+1:=by simp
 have KA:W0.heap[w.heap.size]?=some (.cells #[.int .i64 2,.int .i64 xh,.int .i64 xb,.int .i64 xn,.string xt] 23 (0,0)):=by rw[hW0];exact zac (below1 _ _) (by omega) (heap_alloc_new _ _)
 have KR:W0.heap[w.heap.size+1]?=some (.cells #[.int .i64 0,.int .i64 rn,.string rt] 31 (0,0)):=by rw[hW0,←hz1];exact heap_alloc_new _ _
 have K3:W0.heap[L]?=some (.cells #[.map (some M)] 56 (0,0)):=zac HB0.o hl3 H3.o;have hs0:W0.heap.size=w.heap.size+2:=by rw[hW0];simp
 obtain⟨⟨z0,z1,z2,z3,z4⟩,_⟩:=zfx KA;obtain⟨⟨y0,y1,y2⟩,_⟩:=za9 KR;have d3:W0.cell? ⟨L,0,none⟩=some (.map (some M)):=(cell_of_row W0 _ 0 _ _ _ K3).trans rfl;have g3:=frozen_of_row W0 _ 0 _ _ K3;have hLW:L<W0.heap.size:=by omega
 have hPW:w.heap.size<W0.heap.size:=by omega
 have hMW:M<W0.heap.size:=by omega
 have dw:w.cell? ⟨L,0,none⟩=some (.map (some M)):=(cell_of_row w _ 0 _ _ _ H3.o).trans rfl;have gw:=frozen_of_row w _ 0 _ _ H3.o;clear K3 KA KR;have HW0:=zaa hW0;clear hW0 hz1;have C3:=zaa d3;have CA0:=zaa z0;have CA1:=zaa z1;have CA2:=zaa z2;have CA3:=zaa z3;have CA4:=zaa z4;go_enter Tryz.func27,Tryz.ntmps27;go_wp2_with fail;rw[←HW0.o];clear HW0;rename_i KK hKK
 have TAIL:∀(g:Nat→Value) (W2:World),RdPost B X j L M n (fun z=>if z=xb then some (fitT xt) else f z) w W2→KK ⟨#[g 0,g 1,g 2,g 3,g 4,g 5,g 6,g 7,g 8,g 9,g 10,g 11,g 12,g 13,g 14,g 15,g 16,g 17,g 18,g 19,g 20,g 21,g 22,g 23,g 24,g 25,g 26,g 27,g 28,g 29,g 30,g 31,g 32,g 33,g 34,g 35,g 36,g 37,g 38,g 39,g 40,g 41,g 42,g 43,g 44,g 45,g 46,g 47],[]⟩ W2:=by
  intro g W2 hW;apply hKK;clear hKK;have HF:=zaa hW;clear hW;go_wp2;go_ret;exact⟨rfl,HF.o⟩
 have HTAIL:=zaa TAIL;clear TAIL hKK;refine(show∀A0:Act,A0=_→Code.wp Tryz.prog _ _ A0 _ from fun A0 hA0=>?_) _ rfl;have hsz:A0.tmps.size=48:=by rw[hA0];rfl
 have hdf:A0.defers=[]:=by rw[hA0]
 have v3:A0.eval (.tmp 3)=.pointer (some ⟨L,0,none⟩):=by rw[hA0];rfl
 have v5:A0.eval (.tmp 5)=.pointer (some ⟨w.heap.size,0,none⟩):=by rw[hA0];rfl
 clear hA0;refine za5 6 (fun w'=>Below W0.heap.size W0 w') [18,19,20,21,22,23] (zng M w.heap.size xb xt) (by kernel_rfl) (by kernel_rfl) (by kernel_rfl) (by kernel_rfl) (by decide) ((Below.refl _ _).drew) ⟨?_,?_,?_,?_,?_,?_,trivial⟩ ?_
 ·intro a w' hF hR hp
  have z3:=(hF.other 3 rfl).trans v3;have c0:w'.cell? ⟨L,0,none⟩=some (.map (some M)):=zab hR hLW C3.o;exact zai _ rfl rfl (by revert z3;generalize a.eval=ρ;intro z3;simp only[execOp];go_simp) hF hsz hR rfl
 ·intro a w' hF hR hp
  have z5:=(hF.other 5 rfl).trans v5;exact zai _ rfl rfl (by revert z5;generalize a.eval=ρ;intro z5;simp only[execOp];go_simp) hF hsz hR rfl
 ·intro a w' hF hR hp
  have p19:a.eval (.tmp 19)=.pointer (some ⟨w.heap.size,2,none⟩):=hp ⟨1,.data⟩ (by simp) rfl;have c0:w'.cell? ⟨w.heap.size,2,none⟩=some (.int .i64 xb):=zab hR hPW CA2.o;exact zai _ rfl rfl (by revert p19;generalize a.eval=ρ;intro p19;simp only[execOp];go_simp) hF hsz hR rfl
 ·intro a w' hF hR hp
  have z5:=(hF.other 5 rfl).trans v5;exact zai _ rfl rfl (by revert z5;generalize a.eval=ρ;intro z5;simp only[execOp];go_simp) hF hsz hR rfl
 ·intro a w' hF hR hp
  have p21:a.eval (.tmp 21)=.pointer (some ⟨w.heap.size,4,none⟩):=hp ⟨3,.data⟩ (by simp) rfl;have c0:w'.cell? ⟨w.heap.size,4,none⟩=some (.string xt):=zab hR hPW CA4.o;exact zai _ rfl rfl (by revert p21;generalize a.eval=ρ;intro p21;simp only[execOp];go_simp) hF hsz hR rfl
 ·intro a w' hF hR hp
  have p22:a.eval (.tmp 22)=.string xt:=hp ⟨4,.data⟩ (by simp) rfl;refine zbh 25 #[.string xt] rfl rfl (by have pf:=Act.eval_func a 25;revert p22 pf;generalize a.eval=ρ;intro p22 pf;simp only[execOp];go_simp) _ (fit_any xt w' hxt) ?_;rintro e w2 ⟨rfl,hb2⟩;refine⟨_,rfl,_,rfl,zad hR hb2,?_,zj2 hb2⟩;show zng _ _ _ _ _ ((a.put (some 23) _).eval (.tmp 23)) w2;rw[zap hF hsz (by decide)];exact rfl
 ·intro aa W hF hR hp
  have p18:aa.eval (.tmp 18)=.map (some M):=hp 0 (by decide);have p20:aa.eval (.tmp 20)=.int .i64 xb:=hp 2 (by decide);have p23:aa.eval (.tmp 23)=.string (fitT xt):=hp 5 (by decide);have hsa:aa.tmps.size=48:=hF.size.trans hsz;obtain⟨W2,hrun,hM2,htn⟩:=(HM.o.below (zad HB0.o hR)).store Tryz.underlying56 xb (fitT xt) hwf hnm;have hrun':(Instr.mapUpdate 56 (.map (some M)) (.int .i64 xb) (.string (fitT xt))).run Tryz.prog W=.ok () W2:=hrun;show wpOps Tryz.prog _ _ [6] aa W;rw[wpOps_cons];refine zb3 rfl rfl (w':=W2) (by revert p18 p20 p23;generalize aa.eval=ρ;intro p18 p20 p23;simp only[execOp];go_simp) ?_;show KK aa W2;have hlit:aa=⟨#[_,_,_,_,_,_,_,_,_,_,_,_,_,_,_,_,_,_,_,_,_,_,_,_,_,_,_,_,_,_,_,_,_,_,_,_,_,_,_,_,_,_,_,_,_,_,_,_],[]⟩:=zb7 aa 48 hsa (hF.defers.trans hdf);exact(congrArg (fun y=>KK y _) hlit).mpr (HTAIL.o (fun k=>aa.eval (.tmp k)) W2 (RdPost.turn HJ.o H3.o (zad HB0.o hR) hM2 htn (Nat.le_refl _)))
theorem z3a (B:Nat)(X:List Nat)(j:Jn)(xh xb xn rn:Int)(xt rt:ByteArray)(L M n:Nat)(f:Int→Option ByteArray)(w:World)(hJ:JAt w B X j)(h3:w.heap[L]?=some (.cells #[.map (some M)] 56 (0,0)))(hM:MapF zly w M n f)(hnm:n<maxLen)(hxt:xt.size≤maxLen)(hwf:(Lit.int .i64 xb).wf=true):
  Calls Tryz.prog 27 #[.pointer (some ⟨B,0,none⟩),.agg #[.int .i64 3,.int .i64 xh,.int .i64 xb,.int .i64 xn,.string xt],.agg #[.int .i64 0,.int .i64 rn,.string rt],.pointer (some ⟨L,0,none⟩)] w fun e w'=>e=.returned (.bool true)∧RdPost B X j L M n (fun z=>if z=xb then some (fitT xt) else f z) w w':=by
 have hl3:L<w.heap.size:=(Array.getElem?_eq_some_iff.1 h3).1;have hlM:M<w.heap.size:=hM.lt;have HJ:=zaa hJ;have H3:=zaa h3;have HM:=zaa hM;clear hJ h3 hM;obtain⟨W0,hW0⟩:∃W0,W0=(w.alloc (.cells #[.int .i64 3,.int .i64 xh,.int .i64 xb,.int .i64 xn,.string xt] 23)).alloc (.cells #[.int .i64 0,.int .i64 rn,.string rt] 31):=⟨_,rfl⟩;have HB0:Hid (Below w.heap.size w W0):=by rw[hW0];exact zad (below1 _ _) (below1 _ _)
 have hz1:(w.alloc (.cells #[.int .i64 3,.int .i64 xh,.int .i64 xb,.int .i64 xn,.string xt] 23)).heap.size=w.heap.size+1:=by simp
 have KA:W0.heap[w.heap.size]?=some (.cells #[.int .i64 3,.int .i64 xh,.int .i64 xb,.int .i64 xn,.string xt] 23 (0,0)):=by rw[hW0];exact zac (below1 _ _) (by omega) (heap_alloc_new _ _)
 have KR:W0.heap[w.heap.size+1]?=some (.cells #[.int .i64 0,.int .i64 rn,.string rt] 31 (0,0)):=by rw[hW0,←hz1];exact heap_alloc_new _ _
 have K3:W0.heap[L]?=some (.cells #[.map (some M)] 56 (0,0)):=zac HB0.o hl3 H3.o;have hs0:W0.heap.size=w.heap.size+2:=by rw[hW0];simp
 obtain⟨⟨z0,z1,z2,z3,z4⟩,_⟩:=zfx KA;obtain⟨⟨y0,y1,y2⟩,_⟩:=za9 KR;have d3:W0.cell? ⟨L,0,none⟩=some (.map (some M)):=(cell_of_row W0 _ 0 _ _ _ K3).trans rfl;have g3:=frozen_of_row W0 _ 0 _ _ K3;have hLW:L<W0.heap.size:=by omega
 have hPW:w.heap.size<W0.heap.size:=by omega
 have hMW:M<W0.heap.size:=by omega
 have dw:w.cell? ⟨L,0,none⟩=some (.map (some M)):=(cell_of_row w _ 0 _ _ _ H3.o).trans rfl;have gw:=frozen_of_row w _ 0 _ _ H3.o;clear K3 KA KR;have HW0:=zaa hW0;clear hW0 hz1;have C3:=zaa d3;have CA0:=zaa z0;have CA1:=zaa z1;have CA2:=zaa z2;have CA3:=zaa z3;have CA4:=zaa z4;go_enter Tryz.func27,Tryz.ntmps27;go_wp2_with fail;rw[←HW0.o];clear HW0;rename_i KK hKK
 have TAIL:∀(g:Nat→Value) (W2:World),RdPost B X j L M n (fun z=>if z=xb then some (fitT xt) else f z) w W2→KK ⟨#[g 0,g 1,g 2,g 3,g 4,g 5,g 6,g 7,g 8,g 9,g 10,g 11,g 12,g 13,g 14,g 15,g 16,g 17,g 18,g 19,g 20,g 21,g 22,g 23,g 24,g 25,g 26,g 27,g 28,g 29,g 30,g 31,g 32,g 33,g 34,g 35,g 36,g 37,g 38,g 39,g 40,g 41,g 42,g 43,g 44,g 45,g 46,g 47],[]⟩ W2:=by
  intro g W2 hW;apply hKK;clear hKK;have HF:=zaa hW;clear hW;go_wp2;go_ret;exact⟨rfl,HF.o⟩
 have HTAIL:=zaa TAIL;clear TAIL hKK;refine(show∀A0:Act,A0=_→Code.wp Tryz.prog _ _ A0 _ from fun A0 hA0=>?_) _ rfl;have hsz:A0.tmps.size=48:=by rw[hA0];rfl
 have hdf:A0.defers=[]:=by rw[hA0]
 have v3:A0.eval (.tmp 3)=.pointer (some ⟨L,0,none⟩):=by rw[hA0];rfl
 have v5:A0.eval (.tmp 5)=.pointer (some ⟨w.heap.size,0,none⟩):=by rw[hA0];rfl
 clear hA0;refine za5 6 (fun w'=>Below W0.heap.size W0 w') [18,19,20,21,22,23] (zng M w.heap.size xb xt) (by kernel_rfl) (by kernel_rfl) (by kernel_rfl) (by kernel_rfl) (by decide) ((Below.refl _ _).drew) ⟨?_,?_,?_,?_,?_,?_,trivial⟩ ?_
 ·intro a w' hF hR hp
  have z3:=(hF.other 3 rfl).trans v3;have c0:w'.cell? ⟨L,0,none⟩=some (.map (some M)):=zab hR hLW C3.o;exact zai _ rfl rfl (by revert z3;generalize a.eval=ρ;intro z3;simp only[execOp];go_simp) hF hsz hR rfl
 ·intro a w' hF hR hp
  have z5:=(hF.other 5 rfl).trans v5;exact zai _ rfl rfl (by revert z5;generalize a.eval=ρ;intro z5;simp only[execOp];go_simp) hF hsz hR rfl
 ·intro a w' hF hR hp
  have p19:a.eval (.tmp 19)=.pointer (some ⟨w.heap.size,2,none⟩):=hp ⟨1,.data⟩ (by simp) rfl;have c0:w'.cell? ⟨w.heap.size,2,none⟩=some (.int .i64 xb):=zab hR hPW CA2.o;exact zai _ rfl rfl (by revert p19;generalize a.eval=ρ;intro p19;simp only[execOp];go_simp) hF hsz hR rfl
 ·intro a w' hF hR hp
  have z5:=(hF.other 5 rfl).trans v5;exact zai _ rfl rfl (by revert z5;generalize a.eval=ρ;intro z5;simp only[execOp];go_simp) hF hsz hR rfl
 ·intro a w' hF hR hp
  have p21:a.eval (.tmp 21)=.pointer (some ⟨w.heap.size,4,none⟩):=hp ⟨3,.data⟩ (by simp) rfl;have c0:w'.cell? ⟨w.heap.size,4,none⟩=some (.string xt):=zab hR hPW CA4.o;exact zai _ rfl rfl (by revert p21;generalize a.eval=ρ;intro p21;simp only[execOp];go_simp) hF hsz hR rfl
 ·intro a w' hF hR hp
  have p22:a.eval (.tmp 22)=.string xt:=hp ⟨4,.data⟩ (by simp) rfl;refine zbh 25 #[.string xt] rfl rfl (by have pf:=Act.eval_func a 25;revert p22 pf;generalize a.eval=ρ;intro p22 pf;simp only[execOp];go_simp) _ (fit_any xt w' hxt) ?_;rintro e w2 ⟨rfl,hb2⟩;refine⟨_,rfl,_,rfl,zad hR hb2,?_,zj2 hb2⟩;show zng _ _ _ _ _ ((a.put (some 23) _).eval (.tmp 23)) w2;rw[zap hF hsz (by decide)];exact rfl
 ·intro aa W hF hR hp
  have p18:aa.eval (.tmp 18)=.map (some M):=hp 0 (by decide);have p20:aa.eval (.tmp 20)=.int .i64 xb:=hp 2 (by decide);have p23:aa.eval (.tmp 23)=.string (fitT xt):=hp 5 (by decide);have hsa:aa.tmps.size=48:=hF.size.trans hsz;obtain⟨W2,hrun,hM2,htn⟩:=(HM.o.below (zad HB0.o hR)).store Tryz.underlying56 xb (fitT xt) hwf hnm;have hrun':(Instr.mapUpdate 56 (.map (some M)) (.int .i64 xb) (.string (fitT xt))).run Tryz.prog W=.ok () W2:=hrun;show wpOps Tryz.prog _ _ [6] aa W;rw[wpOps_cons];refine zb3 rfl rfl (w':=W2) (by revert p18 p20 p23;generalize aa.eval=ρ;intro p18 p20 p23;simp only[execOp];go_simp) ?_;show KK aa W2;have hlit:aa=⟨#[_,_,_,_,_,_,_,_,_,_,_,_,_,_,_,_,_,_,_,_,_,_,_,_,_,_,_,_,_,_,_,_,_,_,_,_,_,_,_,_,_,_,_,_,_,_,_,_],[]⟩:=zb7 aa 48 hsa (hF.defers.trans hdf);exact(congrArg (fun y=>KK y _) hlit).mpr (HTAIL.o (fun k=>aa.eval (.tmp k)) W2 (RdPost.turn HJ.o H3.o (zad HB0.o hR) hM2 htn (Nat.le_refl _)))
theorem z3b (B:Nat)(X:List Nat)(j:Jn)(xh xb xn rn:Int)(xt rt:ByteArray)(L M n:Nat)(f:Int→Option ByteArray)(w:World)(hJ:JAt w B X j)(h3:w.heap[L]?=some (.cells #[.map (some M)] 56 (0,0)))(hM:MapF zly w M n f)(hwf:(Lit.int .i64 xb).wf=true):
  Calls Tryz.prog 27 #[.pointer (some ⟨B,0,none⟩),.agg #[.int .i64 4,.int .i64 xh,.int .i64 xb,.int .i64 xn,.string xt],.agg #[.int .i64 0,.int .i64 rn,.string rt],.pointer (some ⟨L,0,none⟩)] w fun e w'=>e=.returned (.bool true)∧RdPost B X j L M n (fun z=>if z=xb then none else f z) w w':=by
 have hl3:L<w.heap.size:=(Array.getElem?_eq_some_iff.1 h3).1;have hlM:M<w.heap.size:=hM.lt;have HJ:=zaa hJ;have H3:=zaa h3;have HM:=zaa hM;clear hJ h3 hM;obtain⟨W0,hW0⟩:∃W0,W0=(w.alloc (.cells #[.int .i64 4,.int .i64 xh,.int .i64 xb,.int .i64 xn,.string xt] 23)).alloc (.cells #[.int .i64 0,.int .i64 rn,.string rt] 31):=⟨_,rfl⟩;have HB0:Hid (Below w.heap.size w W0):=by rw[hW0];exact zad (below1 _ _) (below1 _ _)
 have hz1:(w.alloc (.cells #[.int .i64 4,.int .i64 xh,.int .i64 xb,.int .i64 xn,.string xt] 23)).heap.size=w.heap.size+1:=by simp
 have KA:W0.heap[w.heap.size]?=some (.cells #[.int .i64 4,.int .i64 xh,.int .i64 xb,.int .i64 xn,.string xt] 23 (0,0)):=by rw[hW0];exact zac (below1 _ _) (by omega) (heap_alloc_new _ _)
 have KR:W0.heap[w.heap.size+1]?=some (.cells #[.int .i64 0,.int .i64 rn,.string rt] 31 (0,0)):=by rw[hW0,←hz1];exact heap_alloc_new _ _
 have K3:W0.heap[L]?=some (.cells #[.map (some M)] 56 (0,0)):=zac HB0.o hl3 H3.o;have hs0:W0.heap.size=w.heap.size+2:=by rw[hW0];simp
 obtain⟨⟨z0,z1,z2,z3,z4⟩,_⟩:=zfx KA;obtain⟨⟨y0,y1,y2⟩,_⟩:=za9 KR;have d3:W0.cell? ⟨L,0,none⟩=some (.map (some M)):=(cell_of_row W0 _ 0 _ _ _ K3).trans rfl;have g3:=frozen_of_row W0 _ 0 _ _ K3;have hLW:L<W0.heap.size:=by omega
 have hPW:w.heap.size<W0.heap.size:=by omega
 have hMW:M<W0.heap.size:=by omega
 have dw:w.cell? ⟨L,0,none⟩=some (.map (some M)):=(cell_of_row w _ 0 _ _ _ H3.o).trans rfl;have gw:=frozen_of_row w _ 0 _ _ H3.o;clear K3 KA KR;have HW0:=zaa hW0;clear hW0 hz1;have HM0:=zaa (HM.o.below HB0.o);obtain⟨W2,hrun,hM2,htn⟩:=HM0.o.drop Tryz.underlying56 xb hwf 0;have HF:=zaa (RdPost.turn HJ.o H3.o HB0.o hM2 htn (Nat.le_succ _));clear hM2 htn;rw[HW0.o] at hrun;go_enter Tryz.func27,Tryz.ntmps27;go_wp2;go_ret;exact⟨rfl,HF.o⟩
theorem z11 (B:Nat)(X:List Nat)(j:Jn)(xh xb xn rn:Int)(xt rt:ByteArray)(L M n:Nat)(f:Int→Option ByteArray)(w:World)(hJ:JAt w B X j)(h3:w.heap[L]?=some (.cells #[.map (some M)] 56 (0,0)))(hM:MapF zly w M n f)(hLX:L∈X)(hLB:L≠B):
  Calls Tryz.prog 27 #[.pointer (some ⟨B,0,none⟩),.agg #[.int .i64 10,.int .i64 xh,.int .i64 xb,.int .i64 xn,.string xt],.agg #[.int .i64 0,.int .i64 rn,.string rt],.pointer (some ⟨L,0,none⟩)] w fun e w'=>e=.returned (.bool true)∧RdPost B X j L M n (fun _=>none) w w':=by
 have hl3:L<w.heap.size:=(Array.getElem?_eq_some_iff.1 h3).1;have hlM:M<w.heap.size:=hM.lt;have HJ:=zaa hJ;have H3:=zaa h3;have HM:=zaa hM;clear hJ h3 hM;obtain⟨W0,hW0⟩:∃W0,W0=(w.alloc (.cells #[.int .i64 10,.int .i64 xh,.int .i64 xb,.int .i64 xn,.string xt] 23)).alloc (.cells #[.int .i64 0,.int .i64 rn,.string rt] 31):=⟨_,rfl⟩;have HB0:Hid (Below w.heap.size w W0):=by rw[hW0];exact zad (below1 _ _) (below1 _ _)
 have hz1:(w.alloc (.cells #[.int .i64 10,.int .i64 xh,.int .i64 xb,.int .i64 xn,.string xt] 23)).heap.size=w.heap.size+1:=by simp
 have KA:W0.heap[w.heap.size]?=some (.cells #[.int .i64 10,.int .i64 xh,.int .i64 xb,.int .i64 xn,.string xt] 23 (0,0)):=by rw[hW0];exact zac (below1 _ _) (by omega) (heap_alloc_new _ _)
 have KR:W0.heap[w.heap.size+1]?=some (.cells #[.int .i64 0,.int .i64 rn,.string rt] 31 (0,0)):=by rw[hW0,←hz1];exact heap_alloc_new _ _
 have K3:W0.heap[L]?=some (.cells #[.map (some M)] 56 (0,0)):=zac HB0.o hl3 H3.o;have hs0:W0.heap.size=w.heap.size+2:=by rw[hW0];simp
 obtain⟨⟨z0,z1,z2,z3,z4⟩,_⟩:=zfx KA;obtain⟨⟨y0,y1,y2⟩,_⟩:=za9 KR;have d3:W0.cell? ⟨L,0,none⟩=some (.map (some M)):=(cell_of_row W0 _ 0 _ _ _ K3).trans rfl;have g3:=frozen_of_row W0 _ 0 _ _ K3;have hLW:L<W0.heap.size:=by omega
 have hPW:w.heap.size<W0.heap.size:=by omega
 have hMW:M<W0.heap.size:=by omega
 have dw:w.cell? ⟨L,0,none⟩=some (.map (some M)):=(cell_of_row w _ 0 _ _ _ H3.o).trans rfl;have gw:=frozen_of_row w _ 0 _ _ H3.o;clear K3 KA KR;have HW0:=zaa hW0;clear hW0 hz1;have hmk:=fun w:World=>run_makeMap (P:=Tryz.prog) 56 w;have HF:=zaa (RdPost.fresh (n:=n) HJ.o H3.o HB0.o hLX hLB);have hKM:=zac (below1 W0 (.map #[] 0)) hLW (zac HB0.o hl3 H3.o);have cM:(W0.alloc (.map #[] 0)).cell? ⟨L,0,none⟩=some (.map (some M)):=(cell_of_row _ _ 0 _ _ _ hKM).trans rfl;have fM:=frozen_of_row _ _ 0 _ _ hKM;clear hKM;rw[show W0.heap.size=w.heap.size+1+1 from by omega] at HF;rw[HW0.o] at HF cM fM;go_enter Tryz.func27,Tryz.ntmps27;go_wp2;go_ret;exact⟨rfl,HF.o⟩
theorem z12 (B:Nat)(X:List Nat)(j:Jn)(xh xb xn rn:Int)(xt rt:ByteArray)(L M n:Nat)(f:Int→Option ByteArray)(w:World)(hJ:JAt w B X j)(h3:w.heap[L]?=some (.cells #[.map (some M)] 56 (0,0)))(hM:MapF zly w M n f)(hwf:(Lit.int .i64 xb).wf=true)(hf:f xb=none):
  Calls Tryz.prog 27 #[.pointer (some ⟨B,0,none⟩),.agg #[.int .i64 9,.int .i64 xh,.int .i64 xb,.int .i64 xn,.string xt],.agg #[.int .i64 0,.int .i64 rn,.string rt],.pointer (some ⟨L,0,none⟩)] w fun e w'=>e=.returned (.bool true)∧RdPost B X j L M n (f) w w':=by
 have hl3:L<w.heap.size:=(Array.getElem?_eq_some_iff.1 h3).1;have hlM:M<w.heap.size:=hM.lt;have HJ:=zaa hJ;have H3:=zaa h3;have HM:=zaa hM;clear hJ h3 hM;obtain⟨W0,hW0⟩:∃W0,W0=(w.alloc (.cells #[.int .i64 9,.int .i64 xh,.int .i64 xb,.int .i64 xn,.string xt] 23)).alloc (.cells #[.int .i64 0,.int .i64 rn,.string rt] 31):=⟨_,rfl⟩;have HB0:Hid (Below w.heap.size w W0):=by rw[hW0];exact zad (below1 _ _) (below1 _ _)
 have hz1:(w.alloc (.cells #[.int .i64 9,.int .i64 xh,.int .i64 xb,.int .i64 xn,.string xt] 23)).heap.size=w.heap.size+1:=by simp
 have KA:W0.heap[w.heap.size]?=some (.cells #[.int .i64 9,.int .i64 xh,.int .i64 xb,.int .i64 xn,.string xt] 23 (0,0)):=by rw[hW0];exact zac (below1 _ _) (by omega) (heap_alloc_new _ _)
 have KR:W0.heap[w.heap.size+1]?=some (.cells #[.int .i64 0,.int .i64 rn,.string rt] 31 (0,0)):=by rw[hW0,←hz1];exact heap_alloc_new _ _
 have K3:W0.heap[L]?=some (.cells #[.map (some M)] 56 (0,0)):=zac HB0.o hl3 H3.o;have hs0:W0.heap.size=w.heap.size+2:=by rw[hW0];simp
 obtain⟨⟨z0,z1,z2,z3,z4⟩,_⟩:=zfx KA;obtain⟨⟨y0,y1,y2⟩,_⟩:=za9 KR;have d3:W0.cell? ⟨L,0,none⟩=some (.map (some M)):=(cell_of_row W0 _ 0 _ _ _ K3).trans rfl;have g3:=frozen_of_row W0 _ 0 _ _ K3;have hLW:L<W0.heap.size:=by omega
 have hPW:w.heap.size<W0.heap.size:=by omega
 have hMW:M<W0.heap.size:=by omega
 have dw:w.cell? ⟨L,0,none⟩=some (.map (some M)):=(cell_of_row w _ 0 _ _ _ H3.o).trans rfl;have gw:=frozen_of_row w _ 0 _ _ H3.o;clear K3 KA KR;have HW0:=zaa hW0;clear hW0 hz1;have hlk:=MapS.lookNone (HM.o.below HB0.o) xb hwf hf;rw[HW0.o] at hlk;have HF:=zaa (RdPost.keep HJ.o H3.o HM.o HB0.o);rw[HW0.o] at HF;go_enter Tryz.func27,Tryz.ntmps27;go_wp2;go_ret;exact⟨rfl,HF.o⟩
theorem z13 (B:Nat)(X:List Nat)(j:Jn)(xh xb xn rn:Int)(xt rt:ByteArray)(L M n:Nat)(f:Int→Option ByteArray)(w:World)(hJ:JAt w B X j)(h3:w.heap[L]?=some (.cells #[.map (some M)] 56 (0,0)))(hM:MapF zly w M n f)(hwf:(Lit.int .i64 xb).wf=true)(hf:f xb=some rt):
  Calls Tryz.prog 27 #[.pointer (some ⟨B,0,none⟩),.agg #[.int .i64 9,.int .i64 xh,.int .i64 xb,.int .i64 xn,.string xt],.agg #[.int .i64 0,.int .i64 rn,.string rt],.pointer (some ⟨L,0,none⟩)] w fun e w'=>e=.returned (.bool true)∧RdPost B X j L M n (f) w w':=by
 have hl3:L<w.heap.size:=(Array.getElem?_eq_some_iff.1 h3).1;have hlM:M<w.heap.size:=hM.lt;have HJ:=zaa hJ;have H3:=zaa h3;have HM:=zaa hM;clear hJ h3 hM;obtain⟨W0,hW0⟩:∃W0,W0=(w.alloc (.cells #[.int .i64 9,.int .i64 xh,.int .i64 xb,.int .i64 xn,.string xt] 23)).alloc (.cells #[.int .i64 0,.int .i64 rn,.string rt] 31):=⟨_,rfl⟩;have HB0:Hid (Below w.heap.size w W0):=by rw[hW0];exact zad (below1 _ _) (below1 _ _)
 have hz1:(w.alloc (.cells #[.int .i64 9,.int .i64 xh,.int .i64 xb,.int .i64 xn,.string xt] 23)).heap.size=w.heap.size+1:=by simp
 have KA:W0.heap[w.heap.size]?=some (.cells #[.int .i64 9,.int .i64 xh,.int .i64 xb,.int .i64 xn,.string xt] 23 (0,0)):=by rw[hW0];exact zac (below1 _ _) (by omega) (heap_alloc_new _ _)
 have KR:W0.heap[w.heap.size+1]?=some (.cells #[.int .i64 0,.int .i64 rn,.string rt] 31 (0,0)):=by rw[hW0,←hz1];exact heap_alloc_new _ _
 have K3:W0.heap[L]?=some (.cells #[.map (some M)] 56 (0,0)):=zac HB0.o hl3 H3.o;have hs0:W0.heap.size=w.heap.size+2:=by rw[hW0];simp
 obtain⟨⟨z0,z1,z2,z3,z4⟩,_⟩:=zfx KA;obtain⟨⟨y0,y1,y2⟩,_⟩:=za9 KR;have d3:W0.cell? ⟨L,0,none⟩=some (.map (some M)):=(cell_of_row W0 _ 0 _ _ _ K3).trans rfl;have g3:=frozen_of_row W0 _ 0 _ _ K3;have hLW:L<W0.heap.size:=by omega
 have hPW:w.heap.size<W0.heap.size:=by omega
 have hMW:M<W0.heap.size:=by omega
 have dw:w.cell? ⟨L,0,none⟩=some (.map (some M)):=(cell_of_row w _ 0 _ _ _ H3.o).trans rfl;have gw:=frozen_of_row w _ 0 _ _ H3.o;clear K3 KA KR;have HW0:=zaa hW0;clear hW0 hz1;have hlk:=MapS.lookSome (HM.o.below HB0.o) xb hwf hf;rw[HW0.o] at hlk;have HF:=zaa (RdPost.keep HJ.o H3.o HM.o HB0.o);rw[HW0.o] at HF;go_enter Tryz.func27,Tryz.ntmps27;go_wp2;go_ret;exact⟨rfl,HF.o⟩
theorem z3c (B:Nat)(X:List Nat)(j:Jn)(xh xb xn rn:Int)(xt rt:ByteArray)(xk:Int)(k2:xk≠2)(k3:xk≠3)(k4:xk≠4)(k10:xk≠10)(k9:xk≠9)(L M n:Nat)(f:Int→Option ByteArray)(w:World)(hJ:JAt w B X j)(h3:w.heap[L]?=some (.cells #[.map (some M)] 56 (0,0)))(hM:MapF zly w M n f):
  Calls Tryz.prog 27 #[.pointer (some ⟨B,0,none⟩),.agg #[.int .i64 xk,.int .i64 xh,.int .i64 xb,.int .i64 xn,.string xt],.agg #[.int .i64 0,.int .i64 rn,.string rt],.pointer (some ⟨L,0,none⟩)] w fun e w'=>e=.returned (.bool true)∧RdPost B X j L M n (f) w w':=by
 have hl3:L<w.heap.size:=(Array.getElem?_eq_some_iff.1 h3).1;have hlM:M<w.heap.size:=hM.lt;have HJ:=zaa hJ;have H3:=zaa h3;have HM:=zaa hM;clear hJ h3 hM;obtain⟨W0,hW0⟩:∃W0,W0=(w.alloc (.cells #[.int .i64 xk,.int .i64 xh,.int .i64 xb,.int .i64 xn,.string xt] 23)).alloc (.cells #[.int .i64 0,.int .i64 rn,.string rt] 31):=⟨_,rfl⟩;have HB0:Hid (Below w.heap.size w W0):=by rw[hW0];exact zad (below1 _ _) (below1 _ _)
 have hz1:(w.alloc (.cells #[.int .i64 xk,.int .i64 xh,.int .i64 xb,.int .i64 xn,.string xt] 23)).heap.size=w.heap.size+1:=by simp
 have KA:W0.heap[w.heap.size]?=some (.cells #[.int .i64 xk,.int .i64 xh,.int .i64 xb,.int .i64 xn,.string xt] 23 (0,0)):=by rw[hW0];exact zac (below1 _ _) (by omega) (heap_alloc_new _ _)
 have KR:W0.heap[w.heap.size+1]?=some (.cells #[.int .i64 0,.int .i64 rn,.string rt] 31 (0,0)):=by rw[hW0,←hz1];exact heap_alloc_new _ _
 have K3:W0.heap[L]?=some (.cells #[.map (some M)] 56 (0,0)):=zac HB0.o hl3 H3.o;have hs0:W0.heap.size=w.heap.size+2:=by rw[hW0];simp
 obtain⟨⟨z0,z1,z2,z3,z4⟩,_⟩:=zfx KA;obtain⟨⟨y0,y1,y2⟩,_⟩:=za9 KR;have d3:W0.cell? ⟨L,0,none⟩=some (.map (some M)):=(cell_of_row W0 _ 0 _ _ _ K3).trans rfl;have g3:=frozen_of_row W0 _ 0 _ _ K3;have hLW:L<W0.heap.size:=by omega
 have hPW:w.heap.size<W0.heap.size:=by omega
 have hMW:M<W0.heap.size:=by omega
 have dw:w.cell? ⟨L,0,none⟩=some (.map (some M)):=(cell_of_row w _ 0 _ _ _ H3.o).trans rfl;have gw:=frozen_of_row w _ 0 _ _ H3.o;clear K3 KA KR;have HW0:=zaa hW0;clear hW0 hz1;have HF:=zaa (RdPost.keep HJ.o H3.o HM.o HB0.o);rw[HW0.o] at HF;have b2:(xk==2)=false:=by simpa using k2
 have b3:(xk==3)=false:=by simpa using k3
 have b4:(xk==4)=false:=by simpa using k4
 have b10:(xk==10)=false:=by simpa using k10
 have b9:(xk==9)=false:=by simpa using k9
 clear k2 k3 k4 k10 k9;go_enter Tryz.func27,Tryz.ntmps27;go_wp2;go_ret;exact⟨rfl,HF.o⟩
theorem z3d (B:Nat)(X:List Nat)(j:Jn)(xh xb xn rn:Int)(xt rt:ByteArray)(xk rc:Int)(hrc:rc≠0)(L M n:Nat)(f:Int→Option ByteArray)(w:World)(hJ:JAt w B X j)(h3:w.heap[L]?=some (.cells #[.map (some M)] 56 (0,0)))(hM:MapF zly w M n f):
  Calls Tryz.prog 27 #[.pointer (some ⟨B,0,none⟩),.agg #[.int .i64 xk,.int .i64 xh,.int .i64 xb,.int .i64 xn,.string xt],.agg #[.int .i64 rc,.int .i64 rn,.string rt],.pointer (some ⟨L,0,none⟩)] w fun e w'=>e=.returned (.bool true)∧RdPost B X j L M n (f) w w':=by
 have hl3:L<w.heap.size:=(Array.getElem?_eq_some_iff.1 h3).1;have hlM:M<w.heap.size:=hM.lt;have HJ:=zaa hJ;have H3:=zaa h3;have HM:=zaa hM;clear hJ h3 hM;obtain⟨W0,hW0⟩:∃W0,W0=(w.alloc (.cells #[.int .i64 xk,.int .i64 xh,.int .i64 xb,.int .i64 xn,.string xt] 23)).alloc (.cells #[.int .i64 rc,.int .i64 rn,.string rt] 31):=⟨_,rfl⟩;have HB0:Hid (Below w.heap.size w W0):=by rw[hW0];exact zad (below1 _ _) (below1 _ _)
 have hz1:(w.alloc (.cells #[.int .i64 xk,.int .i64 xh,.int .i64 xb,.int .i64 xn,.string xt] 23)).heap.size=w.heap.size+1:=by simp
 have KA:W0.heap[w.heap.size]?=some (.cells #[.int .i64 xk,.int .i64 xh,.int .i64 xb,.int .i64 xn,.string xt] 23 (0,0)):=by rw[hW0];exact zac (below1 _ _) (by omega) (heap_alloc_new _ _)
 have KR:W0.heap[w.heap.size+1]?=some (.cells #[.int .i64 rc,.int .i64 rn,.string rt] 31 (0,0)):=by rw[hW0,←hz1];exact heap_alloc_new _ _
 have K3:W0.heap[L]?=some (.cells #[.map (some M)] 56 (0,0)):=zac HB0.o hl3 H3.o;have hs0:W0.heap.size=w.heap.size+2:=by rw[hW0];simp
 obtain⟨⟨z0,z1,z2,z3,z4⟩,_⟩:=zfx KA;obtain⟨⟨y0,y1,y2⟩,_⟩:=za9 KR;have d3:W0.cell? ⟨L,0,none⟩=some (.map (some M)):=(cell_of_row W0 _ 0 _ _ _ K3).trans rfl;have g3:=frozen_of_row W0 _ 0 _ _ K3;have hLW:L<W0.heap.size:=by omega
 have hPW:w.heap.size<W0.heap.size:=by omega
 have hMW:M<W0.heap.size:=by omega
 have dw:w.cell? ⟨L,0,none⟩=some (.map (some M)):=(cell_of_row w _ 0 _ _ _ H3.o).trans rfl;have gw:=frozen_of_row w _ 0 _ _ H3.o;clear K3 KA KR;have HW0:=zaa hW0;clear hW0 hz1;have HF:=zaa (RdPost.keep HJ.o H3.o HM.o HB0.o);rw[HW0.o] at HF;have hc2:(rc !=0)=true:=by simpa using hrc
 clear hrc;go_enter Tryz.func27,Tryz.ntmps27;go_wp2;go_ret;exact⟨rfl,HF.o⟩
theorem zo0 (B:Nat)(X:List Nat)(j:Jn)(x:Ac)(r:Rp)(L M n:Nat)(f:Int→Option ByteArray)(w:World)(hJ:JAt w B X j)(h3:w.heap[L]?=some (.cells #[.map (some M)] 56 (0,0)))(hM:MapF zly w M n f)(hLX:L∈X)(hLB:L≠B)(hnm:n<maxLen)(hxt:x.text.size≤maxLen)
  (hxb:r.code=0→(x.kind=2∨x.kind=3∨x.kind=4∨x.kind=9)→0≤x.b∧x.b≤11) (hrd:r.code=0→x.kind=9→∀s,f x.b=some s→r.text=s):
  Calls Tryz.prog 27 #[.pointer (some ⟨B,0,none⟩),.agg #[.int .i64 x.kind,.int .i64 x.h,.int .i64 x.b,.int .i64 x.n,.string x.text],.agg #[.int .i64 r.code,.int .i64 r.n,.string r.text],.pointer (some ⟨L,0,none⟩)] w fun e w'=>e=.returned (.bool true)∧RdPost B X j L M n (znf f x r) w w':=by
 obtain⟨xk,xh,xb,xn,xt⟩:=x;obtain⟨rc,rn,rt⟩:=r;simp only at hxt hxb hrd⊢;by_cases hc:rc=0
 ·subst hc
  have wf:(xk=2∨xk=3∨xk=4∨xk=9)→(Lit.int .i64 xb).wf=true:=fun hk=>by
   have:=hxb rfl hk;exact wfI (by omega) (by omega)
  by_cases k2:xk=2
  ·subst k2;exact z29 B X j xh xb xn rn xt rt L M n f w hJ h3 hM hnm hxt (wf (by simp))
  by_cases k3:xk=3
  ·subst k3;exact z3a B X j xh xb xn rn xt rt L M n f w hJ h3 hM hnm hxt (wf (by simp))
  by_cases k4:xk=4
  ·subst k4;exact z3b B X j xh xb xn rn xt rt L M n f w hJ h3 hM (wf (by simp))
  have e0:znf f ⟨xk,xh,xb,xn,xt⟩ ⟨0,rn,rt⟩=if xk=10 then(fun _=>none) else f:=by
   rw[znf,if_pos rfl,if_neg (by simp;omega),if_neg (by simpa using k4)]
  by_cases k10:xk=10
  ·subst k10;exact z11 B X j xh xb xn rn xt rt L M n f w hJ h3 hM hLX hLB
  rw[e0,if_neg k10];by_cases k9:xk=9
  ·subst k9
   cases hf:f xb with
   |none=>exact z12 B X j xh xb xn rn xt rt L M n f w hJ h3 hM (wf (by simp)) hf
   |some s=>
    have hs:=hrd rfl rfl s hf;subst hs;exact z13 B X j xh xb xn rn xt rt L M n f w hJ h3 hM (wf (by simp)) hf
  ·exact z3c B X j xh xb xn rn xt rt xk k2 k3 k4 k10 k9 L M n f w hJ h3 hM
 ·rw[znf,if_neg hc]
  exact z3d B X j xh xb xn rn xt rt xk rc hc L M n f w hJ h3 hM
theorem zj9 (L:Nat)(o:Oper)(ρ:Operand→Value)(w:World)(x y z:Value)(ts:Array TypeId)(ho:o.op=Op.call {callee:=.value (.tmp 28),args:=#[.tmp 29,.tmp 33,.tmp 34],argTypes:=ts})(h1:ρ (.tmp 28)=.func (.func 27) #[] #[.pointer (some ⟨L,0,none⟩)])(h2:ρ (.tmp 29)=x)(h3:ρ (.tmp 33)=y)(h4:ρ (.tmp 34)=z):
  (execOp ρ o).run Tryz.prog w=.ok (.enter 27 #[x,y,z,.pointer (some ⟨L,0,none⟩)]) w:=by
 simp only[execOp,ho]
 go_simp
theorem z14 {j:Jn}(h:PJ j)(a:Ac)(hc:(doJ j a).2.code=0)(hk:a.kind=2∨a.kind=3∨a.kind=4∨a.kind=9):0≤a.b∧a.b≤11:=by
 obtain⟨D,h1,h2,h3⟩:=h;obtain⟨D',_,_,_,e⟩:=z4h h1 a h2 h3
 cases e with
 |calm a1 a2 a3 a4 a5 a6=>
  obtain⟨n2,n3,n4,_⟩:=a4 hc;have h9:a.kind=9:=((hk.resolve_left n2).resolve_left n3).resolve_left n4;obtain⟨b,hb,hab,_⟩:=a6 hc h9;rw[hab];exact⟨Int.natCast_nonneg b,by clear a1 a3 a4 a5 a6;omega⟩
 |write b hb hab=>omega
 |fill b hb hab=>omega
 |revoke b hb hab=>omega
 |commit k=>omega
 |through k=>omega
 |home k=>omega
 |on k=>omega
 |crash k=>omega
def rdAc (b:Int):Ac:=⟨9,0,b,0,⟨#[]⟩⟩
theorem zwv (a:Option Addr)(c:Nat)(l:List Ac)(w:World)(hA:SegA w a l)(hlen:l.length≤maxLen)(hok:∀y∈l,OkA y):
  Calls Tryz.prog 7 #[.slice a l.length c] w fun e w'=>e=.returned (.bool true)∧Below w.heap.size w w':=by
 have HA:=zaa hA;have HOK:=zaa hok;have HL:=zaa hlen;clear hA hok hlen;have hmk:=fun w:World=>run_makeMap (P:=Tryz.prog) 56 w;obtain⟨W0,hW0⟩:∃W0,W0=(w.alloc (.map #[] 0)).alloc (.cells #[.map (some w.heap.size)] 56):=⟨_,rfl⟩;have HB0:Hid (Below w.heap.size w W0):=by rw[hW0];exact zad (below1 _ _) (below1 _ _)
 have hz1:(w.alloc (.map #[] 0)).heap.size=w.heap.size+1:=by simp
 have K3:Hid (W0.heap[w.heap.size+1]?=some (.cells #[.map (some w.heap.size)] 56 (0,0))):=by rw[hW0,←hz1];exact heap_alloc_new _ _
 have KM:Hid (MapF zly W0 w.heap.size 0 (fun _=>none)):=by rw[hW0];exact(MapF.made w).below (below1 _ _)
 have hs0:W0.heap.size=w.heap.size+2:=by rw[hW0];simp
 have HW0:=zaa hW0;clear hW0 hz1;go_enter Tryz.func7,Tryz.ntmps7;go_wp2_with fail;rw[←HW0.o];clear HW0
 refine(zz3 _ 27 (fun x y z=>#[x,y,z,.pointer (some ⟨w.heap.size+1,0,none⟩)]) (zj9 _) a c l W0 [w.heap.size+1,w.heap.size] (HA.o.hideW HB0.o (by simp)) HL.o HOK.o (by simp;omega)
  (fun B k W=>∃M n,W.heap[w.heap.size+1]?=some (.cells #[.map (some M)] 56 (0,0))∧MapF zly W M n (tOf l k)∧n≤k∧(M=w.heap.size∨(W0.heap.size≤M∧M≠B))) ?s0 ?sb ?look).mono ?fin
 case s0=>
  intro W B hB hW hJ;exact⟨w.heap.size,0,zac hW (by omega) K3.o,KM.o.below hW,Nat.le_refl _,.inl rfl⟩
 case sb=>
  rintro k W W' B ⟨M,n,h1,h2,h3,h4⟩ hB hs hb;refine⟨M,n,(hb.block _ (by omega) (by simp;omega)).trans h1,h2.but hb (by simp;omega),h3,h4⟩
 case look=>
  rintro k W B hk hB ⟨M,n,h1,h2,h3,h4⟩ hJ hX;have hkl:k<l.length:=by unfold played at hk;omega
  have hk150:k<150:=by unfold played at hk;omega
  obtain⟨D,hR⟩:=z40 l k (by omega);have hd:=(hR.do (l.getD k ac0)).2;have hbl:=z14 (zz1 l k) (l.getD k ac0);have hok:OkA (l.getD k ac0):=HOK.o _ (by rw[List.getD,List.getElem?_eq_getElem hkl];exact List.getElem_mem hkl);have hBl:=hX B (by simp);refine(zo0 B _ (jOf l (k+1)) (l.getD k ac0) (rOf l k) _ M n (tOf l k) W hJ h1 h2 (by simp) (by omega) (by unfold maxLen;omega) hok.text hbl hd).mono ?_;rintro e W' ⟨rfl,M',n',g1,g2,g3,g4,g5,g6⟩;refine⟨rfl,⟨M',n',g1,g2,by omega,?_⟩,g5,⟨g6.os,g6.tape,g6.output,g6.size,fun q hq hn=>g6.block q (by omega) ?_⟩,g6.size⟩
  ·rcases g4 with rfl|g4
   ·exact h4
   ·have:=hJ.lt
    right;omega
  ·simp only[List.mem_cons,List.not_mem_nil,or_false,not_or] at hn⊢
   refine⟨hn.1,?_⟩;rcases h4 with rfl|h4
   ·exact hn.2
   ·omega
 case fin=>
  rintro e w1 ⟨B,rfl,hB,⟨M,n,h1,h2,_,h4⟩,hJ,hbb⟩;obtain⟨D0,hR0⟩:=z40 l (played l) (by unfold played;omega);have hacts:=z1z l (played l) (by unfold played;omega) (by unfold played;omega);obtain⟨jn,hjn⟩:∃jn,jn=jOf l (played l):=⟨_,rfl⟩;obtain⟨T,hT⟩:∃T,T=tOf l (played l):=⟨_,rfl⟩;rw[←hjn] at hJ hR0 hacts;rw[←hT] at h2 hR0;have HBF:Hid (Below w.heap.size w w1):=HB0.o.trans ⟨hbb.os,hbb.tape,hbb.output,hbb.size,fun q hq=>hbb.block q (by omega) (by simp;omega)⟩;have hs1:W0.heap.size≤w1.heap.size:=hbb.size;have H3:=zaa h1;have HM:=zaa h2;have HJ:=zaa hJ;have HR:=zaa hR0;have hBl:B<w1.heap.size:=hJ.lt;have hMl:M<w1.heap.size:=h2.lt;have hMB:M≠B:=by omega
  clear hjn hT h1 h2 hJ hR0 hbb K3 KM HB0 HA HOK HL;have hp:played l≤150:=by unfold played;omega
  go_wp2_with fail;refine(zz4 B _ jn w1 HJ.o).mono ?_;rintro e w2 ⟨rfl,hb2⟩;have HB2:=zaa (zad HBF.o hb2);have H3b:=zaa (zac hb2 (by omega) H3.o);have HMb:=zaa (HM.o.below hb2);have HJb:=zaa (HJ.o.below hb2);have hs2:w1.heap.size≤w2.heap.size:=hb2.size;clear hb2 HBF H3 HM HJ
  cases hd:jn.down with
  |true=>
   go_wp2;go_ret;exact⟨rfl,HB2.o.alloc (by omega) _⟩
  |false=>
   have HR2:Hid (∃D,RdI jn D T):=⟨_,HR.o⟩;have HDN:=zaa hd;have HAC:=zaa hacts;clear HR hd hacts;go_wp2_with fail
   go_loopw [9] (fun i wr=>∃k:Nat,k≤12∧i=.int .i64 k∧Hid (∃j D,JAt wr B [B,w.heap.size+1,w.heap.size] j∧RdI j D T∧j.down=false∧j.acts=(played l:Int)+k)∧Hid (Below w.heap.size w wr)∧Hid (wr.heap[w.heap.size+1]?=some (.cells #[.map (some M)] 56 (0,0)))∧Hid (MapF zly wr M n T)∧w2.heap.size≤wr.heap.size) (fun i _=>12 - (intOf i).toNat)
   case atStart=>
    have hb2:=below1 w2 (.cells #[.int .i64 jn.rh,.int .i64 jn.ru] 26);obtain⟨D,hR⟩:=HR2.o;exact⟨0,Nat.zero_le _,rfl,⟨jn,D,HJb.o.below hb2,hR,HDN.o,by rw[HAC.o];simp⟩,zad HB2.o hb2,zac hb2 (by omega) H3b.o,HMb.o.below hb2,hb2.size⟩
   case round=>
    obtain⟨k,hk,rfl,HJr,HBr,H3r,HMr,hsr⟩:=hrel;clear HB2 H3b HMb HJb HR2 HDN HAC;obtain⟨j,D,hJ,hR,hd,hac⟩:=HJr.o;have HJ:=zaa hJ;have HR:=zaa hR;have HD:=zaa hd;have HA:=zaa hac;clear HJr hJ hR hd hac;by_cases hk12:k<12
    ·have hk12':(k:Int)<12:=by omega
     go_wp2_with fail;refine(zjf B _ j wr HJ.o (by simp;omega) (show PJ j from⟨D,HR.o.md,HR.o.a0,HR.o.a1⟩).ready (rdAc k) (show(0:Int)≤9223372036854775807 by decide) (show(⟨#[]⟩:ByteArray).size≤maxLen by decide)).mono ?_;rintro e w3 ⟨rfl,hJ3,hB3⟩;have hR3:=(HR.o.do (rdAc k)).1
     have hT3:znf T (rdAc k) (doJ j (rdAc k)).2=T:=by
      unfold znf rdAc;simp
     rw[hT3] at hR3;have hac3:=zz2 (show PJ j from⟨D,HR.o.md,HR.o.a0,HR.o.a1⟩) (rdAc k) (by have:=HA.o;omega)
     have hdn3:(doJ j (rdAc k)).1.down=false:=by
      rw[doJ,if_neg (by have:=HA.o;omega),zil,if_neg (by simp[rdAc]),if_neg (by simp[rdAc]),if_neg (by simp[rdAc]),if_neg (by simp[rdAc]),if_neg (by show¬j.down=true;rw[HD.o];decide)];exact HD.o
     have hrd:∀s,T k=some s→(doJ j (rdAc k)).2.code=0∧(doJ j (rdAc k)).2.text=s∧(doJ j (rdAc k)).2.n≠0:=fun s hs=>HR.o.read HD.o (by have:=HA.o;omega) hk12 hs (rdAc k) rfl rfl;generalize (doJ j (rdAc k)).1=j3 at *;generalize (doJ j (rdAc k)).2=r at *
     have HN:Hid (∀W,Below w3.heap.size w3 W→(∃j D,JAt W B [B,w.heap.size+1,w.heap.size] j∧RdI j D T∧j.down=false∧j.acts=(played l:Int)+((k+1:Nat):Int))∧Below w.heap.size w W∧W.heap[w.heap.size+1]?=some (.cells #[.map (some M)] 56 (0,0))∧MapF zly W M n T∧w2.heap.size≤W.heap.size):=by
      intro W hW;obtain⟨D3,hR3⟩:=hR3;have hsz:=hB3.size;have hL3:w3.heap[w.heap.size+1]?=some (.cells #[.map (some M)] 56 (0,0)):=(hB3.block _ (by omega) (by simp;omega)).trans H3r.o;refine⟨⟨j3,D3,hJ3.below hW,hR3,hdn3,by rw[hac3,HA.o];omega⟩,?_,zac hW (by omega) hL3,(HMr.o.but hB3 (by simp;omega)).below hW,by have:=hW.size;omega⟩;exact zad (HBr.o.trans ⟨hB3.os,hB3.tape,hB3.output,hB3.size,fun q hq=>hB3.block q (by omega) (by simp;omega)⟩) hW
     have h3c:=(hB3.block (w.heap.size+1) (by omega) (by simp;omega)).trans H3r.o;have hMc:=HMr.o.but hB3 (X:=[B]) (by simp;omega);have hs3:wr.heap.size≤w3.heap.size:=hB3.size;have dw:w3.cell? ⟨w.heap.size+1,0,none⟩=some (.map (some M)):=(cell_of_row w3 _ 0 _ _ _ h3c).trans rfl;have HMc:=zaa hMc;have hl3:w.heap.size+1<w3.heap.size:=by omega
     have hwf:(Lit.int .i64 (k:Int)).wf=true:=wfI (by omega) (by omega);clear h3c hMc hJ3 hB3 hR3 hT3 hac3 hdn3 HJ HR HD HA HBr H3r HMr;obtain⟨rc,rn,rt⟩:=r;rw[show vRp ⟨rc,rn,rt⟩=.agg #[.int .i64 rc,.int .i64 rn,.string rt] from rfl]
     cases hf:T k with
     |none=>
      have hlk:=MapS.lookNone (HMc.o.below (below1 w3 (.cells #[.int .i64 rc,.int .i64 rn,.string rt] 31))) k hwf hf;have HE:=zaa (HN.o _ (below1 w3 (.cells #[.int .i64 rc,.int .i64 rn,.string rt] 31)));clear HN hrd HMc;go_wp2
      go_roundw
      case rel=>
       obtain⟨e1,e2,e3,e4,e5⟩:=HE.o;exact⟨k+1,by omega,by go_num,e1,e2,e3,e4,e5⟩
      case measure=>first|(simp[intOf];omega)|simp[intOf]
     |some s=>
      obtain⟨hc,ht,hn⟩:=hrd s hf;simp only at hc ht hn;subst hc;subst ht;have hn':(rn==0)=false:=by simpa using hn
      have hlk:=MapS.lookSome (HMc.o.below (below1 w3 (.cells #[.int .i64 0,.int .i64 rn,.string rt] 31))) k hwf hf;have HE:=zaa (HN.o _ (below1 w3 (.cells #[.int .i64 0,.int .i64 rn,.string rt] 31)));clear HN hrd HMc hn;go_wp2
      go_roundw
      case rel=>
       obtain⟨e1,e2,e3,e4,e5⟩:=HE.o;exact⟨k+1,by omega,by go_num,e1,e2,e3,e4,e5⟩
      case measure=>first|(simp[intOf];omega)|simp[intOf]
    ·have hk12':¬(k:Int)<12:=by omega
     go_wp2;go_ret;exact⟨rfl,HBr.o⟩
end Go.Proofs.YtjnpndfpajjihacGreat

