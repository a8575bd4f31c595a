/-
  
-/
import Derived.Test.YtjnpndfpajjihacGreatGrTopSpace48
import Derived.Test.YtjnpndfpajjihacGreatXTellsP
import Derived.Test.YtjnpndfpajjihacGreatGrTopSpace32
import Derived.Test.YtjnpndfpajjihacGreatJRing
import Derived.Test.YtjnpndfpajjihacGreatJRunning
set_option maxRecDepth 100000
set_option maxHeartbeats 40000000
namespace Go.Proofs.YtjnpndfpajjihacGreat
open Go.RowKit
theorem z1o:goodM (superMk 0 1)=0:=by kernel_rfl
def z09:Dk:=⟨encT (superMk 0 1)::List.replicate 36 (fitT ⟨#[]⟩),[]⟩
theorem z2f:zzi=zem z09 0 1:=rfl
def zlj (bs:Nat)(D:Nat)(g:Nat)(c:Nat)(s:ByteArray):Nat→Value→World→Prop
 |0,v,_=>v=.pointer (some ⟨D,0,none⟩)
 |1,v,_=>v=.slice (some ⟨g,0,none⟩) 37 c
 |2,v,_=>v=.agg #[.int .i64 1,.int .i64 1,.int .i64 0,.slice none 0 0,.slice none 0 0]
 |3,v,_=>v=.tuple #[.string s,.int .i64 0]
 |4,v,_=>v=.tuple #[.string s,.int .i64 0]
 |5,v,_=>v=.string s
 |6,v,_=>v=.int .i64 0
 |7,v,_=>v=.pointer (some ⟨g,0,none⟩)
 |8,_,w=>w.ownsRow bs 9 1 (.slice (some ⟨g,0,none⟩) 37 c) 37 (cellsS (s::List.replicate 36 (fitT ⟨#[]⟩)))
 |_,_,_=>True
theorem zqo {bs:Nat}{D:Nat}{g:Nat}{c:Nat}{s:ByteArray}{w w':World}(hb:Below w.heap.size w w'){i:Nat}:∀kk uu,kk≠i→zlj bs D g c s kk uu w→zlj bs D g c s kk uu w':=by
 intro kk uu _ h
 match kk,h with
 |0,h|1,h|2,h|3,h|4,h|5,h|6,h|7,h=>exact h
 |8,h=>exact zae h hb
 |_+9,_=>exact trivial
theorem zv5 {bs:Nat}{D:Nat}{g:Nat}{c:Nat}{s:ByteArray}{w w':World}:∀kk x,kk≠8→zlj bs D g c s kk x w→zlj bs D g c s kk x w':=by
 intro kk x hk h
 match kk,h with
 |0,h|1,h|2,h|3,h|4,h|5,h|6,h|7,h=>exact h
 |8,_=>exact absurd rfl hk
 |_+9,_=>exact trivial
def newR (w:World)(D g c:Nat)(w':World):Prop:=Below w.heap.size w w'∧w'.heap[D]?=some (.cells #[.slice (some ⟨g,0,none⟩) 37 c,.slice none 0 0] 46 (0,0))∧∃t,w'.ownsRow w.heap.size 9 1 (.slice (some ⟨g,0,none⟩) 37 c) 37 (cellsS (t::List.replicate 36 (fitT ⟨#[]⟩)))
theorem newR.below {w:World}{D g c:Nat}{w' w2:World}(h:newR w D g c w')(hb:Below w'.heap.size w' w2):newR w D g c w2:=⟨zad h.1 hb,zac hb (Array.getElem?_eq_some_iff.1 h.2.1).1 h.2.1,h.2.2.imp fun _ ho=>zae ho hb⟩
theorem ztm (w:World):
  Calls Tryz.prog 41 #[] w fun e w'=>∃B,e=.returned (.pointer (some ⟨B,0,none⟩))∧w.heap.size≤B∧(∀X:List Nat,(∀x∈X,x<w.heap.size)→JAt w' B (B::X) zzi)∧Below w.heap.size w w':=by
 obtain⟨s,hs⟩:∃s,s=encT (superMk 0 1):=⟨_,rfl⟩
 have HS:=zaa hs
 clear hs
 go_enter Tryz.func41,Tryz.ntmps41
 go_wp2_with fail
 refine(z2e _).mono ?_
 rintro e w1 ⟨g,c,rfl,hown,hb1⟩
 have hgl:=hown.lt g rfl
 have hg1:w.heap.size≤g:=hgl.1
 have hg2:g<w1.heap.size:=hgl.2
 go_wp2
 rename_i KK hKK
 obtain⟨W1,hW1⟩:∃W1,W1=w1.alloc (.cells #[.slice (some ⟨g,0,none⟩) 37 c,.slice none 0 0] 46):=⟨_,rfl⟩
 have hb11:Below w1.heap.size w1 W1:=by rw[hW1];exact below1 _ _
 have HOW:=zaa (zae hown hb11)
 have HB1:=zaa (zad hb1 hb11)
 have KD:Hid (W1.heap[w1.heap.size]?=some (.cells #[.slice (some ⟨g,0,none⟩) 37 c,.slice none 0 0] 46 (0,0))):=by rw[hW1];exact heap_alloc_new _ _
 have hs1:W1.heap.size=w1.heap.size+1:=by rw[hW1];simp
 have hs01:w.heap.size≤w1.heap.size:=hb1.size
 rw[←hW1]
 clear hW1 hb11 hown hb1 hgl
 have HR1:Hid (newR w w1.heap.size g c W1):=⟨HB1.o,KD.o,fitT ⟨#[]⟩,HOW.o⟩
 have TAIL:∀(g0 g2 g3 g4 g5 g6 g7 g8 g9 g10 g11 g12 g13:Value) (W:World),W.ownsRow w.heap.size 9 1 (.slice (some ⟨g,0,none⟩) 37 c) 37 (cellsS (s::List.replicate 36 (fitT ⟨#[]⟩)))→Below w.heap.size w W→W.heap[w1.heap.size]?=some (.cells #[.slice (some ⟨g,0,none⟩) 37 c,.slice none 0 0] 46 (0,0))→KK ⟨#[g0,.pointer (some ⟨w1.heap.size,0,none⟩),g2,g3,g4,g5,g6,g7,g8,g9,g10,g11,g12,g13],[]⟩ W:=by
  intro g0 g2 g3 g4 g5 g6 g7 g8 g9 g10 g11 g12 g13 W3 hst hb3 hd3
  apply hKK
  clear hKK
  have HST:=zaa hst
  have HB3:=zaa hb3
  have KD3:=zaa hd3
  obtain⟨⟨y0,y1⟩,_⟩:=zhb KD3.o
  clear hst hb3 hd3
  go_wp2_with fail
  refine(begun_any z09 (some ⟨g,0,none⟩) c none 0 0 1 W3 (by decide+kernel)).mono ?_
  rintro e w4 ⟨rfl,hb4⟩
  have HST4:=zaa (zae HST.o hb4)
  have HB4:=zaa (zad HB3.o hb4)
  have hs4:W3.heap.size≤w4.heap.size:=hb4.size
  clear y0 y1 hb4
  obtain⟨CS,hCS⟩:∃CS,CS=zbj (zem z09 0 1) (some ⟨g,0,none⟩) c none 0 none 0 none 0 none 0 none 0 none 0 none 0 none 0 none 0 none 0:=⟨_,rfl⟩
  rw[←hCS]
  have HCS:=zaa hCS
  have HIN:Hid ((Tryz.prog.info? 93).map (·.size)=some CS.size):=by rw[Hid,HCS.o];exact z01 _ _ _ _ _ _ _ _ _ _ _ _ _ _ _ _ _ _ _ _ _ _ _
  have HON:Hid (CS.all (·.oneCell')=true):=by rw[Hid,HCS.o];exact zg6 _ _ _ _ _ _ _ _ _ _ _ _ _ _ _ _ _ _ _ _ _ _ _
  have HSZ:Hid (57=CS.size):=by rw[Hid,HCS.o];kernel_rfl
  clear hCS
  dsimp only
  repeat (first|(refine wpList_store_rowTo rfl _ _ _ rfl rfl w4.heap.size CS rfl rfl _ _ (heap_alloc_new _ _) HIN.o HSZ.o HON.o ?_)|go_step)
  refine bodyPost_ret (results_tmp rfl _ _ _) rfl ⟨w4.heap.size,rfl,HB4.o.size,fun X hX=>?_,?_⟩
  ·rw[HCS.o,z2f]
   refine JAt.putAll (by simp) (heap_alloc_new w4 _) (some ⟨g,0,none⟩) c none 0 none 0 none 0 none 0 none 0 none 0 none 0 none 0 none 0 none 0 ⟨?_,zpy _ _,zpy _ _,.inl rfl,.inl rfl,.inl rfl,z00 _,Nat.le_refl _,Nat.le_refl _,Nat.le_refl _⟩
   have hg4:g<w4.heap.size:=(HST4.o.lt g rfl).2
   obtain⟨a2,c2,hv,hS,_⟩:=SegS.of_owns (zae HST4.o (below1 w4 _))
   simp only[Value.slice.injEq] at hv
   obtain⟨rfl,_,rfl⟩:=hv
   rw[HS.o] at hS
   refine⟨some ⟨g,0,none⟩,c,none,0,rfl,?_,.inl rfl,by decide+kernel,by decide+kernel⟩
   rcases hS with h0|⟨b,off,he,hlt,hc⟩
   ·cases h0
   ·cases he
    refine .inr ⟨g,0,rfl,by rw[zbe];exact hlt,fun i hi=>zbt ?_ (hc i hi)⟩
    simp only[List.mem_cons,not_or]
    exact⟨by omega,fun hx=>by have:=hX g hx;omega⟩
  ·exact((ButL.of_below (X:=[]) (HB4.o.alloc HB4.o.size _)).setRow (.inr HB4.o.size) CS).below
 have HTAIL:=zaa TAIL
 clear TAIL hKK
 refine(show∀A0:Act,A0=_→Code.wp Tryz.prog _ _ A0 _ from fun A0 hA0=>?_) _ rfl
 have hsz:A0.tmps.size=14:=by rw[hA0];rfl
 have hdf:A0.defers=[]:=by rw[hA0]
 have v1:A0.eval (.tmp 1)=.pointer (some ⟨w1.heap.size,0,none⟩):=by rw[hA0];rfl
 clear hA0
 refine zcl (fun w'=>newR w w1.heap.size g c w') [5,6,7,8,4,9,10,11,11] (zlj w.heap.size w1.heap.size g c s) (by kernel_rfl) (by kernel_rfl) (by kernel_rfl) (HR1.o.below (Below.refl _ _).drew) ⟨?_,?_,?_,?_,?_,?_,?_,?_,?_,trivial⟩ ?_
 ·intro a w' hF hR hp
  have z1:=(hF.other 1 rfl).trans v1
  exact zah _ rfl rfl (by revert z1;generalize a.eval=ρ;intro z1;simp only[execOp];go_simp) hF hsz hR rfl
 ·intro a w' hF hR hp
  have p5:a.eval (.tmp 5)=.pointer (some ⟨w1.heap.size,0,none⟩):=hp ⟨0,.data⟩ (by simp) rfl
  have c0:w'.cell? ⟨w1.heap.size,0,none⟩=some (.slice (some ⟨g,0,none⟩) 37 c):=(zhb hR.2.1).1.1
  exact zah _ rfl rfl (by revert p5;generalize a.eval=ρ;intro p5;simp only[execOp];go_simp) hF hsz hR rfl
 ·intro a w' hF hR hp
  exact zah _ rfl rfl (by have pc0:=Act.eval_const a (.int .i64 1);revert pc0;generalize a.eval=ρ;intro pc0;simp only[execOp];go_simp) hF hsz hR rfl
 ·intro a w' hF hR hp
  have p7:a.eval (.tmp 7)=.agg #[.int .i64 1,.int .i64 1,.int .i64 0,.slice none 0 0,.slice none 0 0]:=hp ⟨2,.data⟩ (by simp) rfl
  refine zbh 70 #[.agg #[.int .i64 1,.int .i64 1,.int .i64 0,.slice none 0 0,.slice none 0 0]] rfl rfl (by have pf:=Act.eval_func a 70;revert p7 pf;generalize a.eval=ρ;intro p7 pf;simp only[execOp];go_simp) _ (stampEncode_any _ (superMk 0 1) _ ⟨none,0,none,0,rfl,.inl rfl,.inl rfl,Nat.zero_le _,Nat.zero_le _⟩) ?_
  rintro e w2 ⟨rfl,hb2⟩
  refine⟨_,rfl,_,rfl,hR.below hb2,?_,zqo hb2⟩
  show zlj _ _ _ _ _ _ ((a.put (some 8) _).eval (.tmp 8)) w2
  rw[zan hF hsz (by decide)]
  rw[HS.o,z1o]
  exact rfl
 ·intro a w' hF hR hp
  have p8:a.eval (.tmp 8)=.tuple #[.string s,.int .i64 0]:=hp ⟨3,.data⟩ (by simp) rfl
  exact zah _ rfl rfl (by revert p8;generalize a.eval=ρ;intro p8;simp only[execOp];go_simp) hF hsz hR rfl
 ·intro a w' hF hR hp
  have p4:a.eval (.tmp 4)=.tuple #[.string s,.int .i64 0]:=hp ⟨4,.data⟩ (by simp) rfl
  exact zah _ rfl rfl (by revert p4;generalize a.eval=ρ;intro p4;simp only[execOp];go_simp) hF hsz hR rfl
 ·intro a w' hF hR hp
  have p4:a.eval (.tmp 4)=.tuple #[.string s,.int .i64 0]:=hp ⟨4,.data⟩ (by simp) rfl
  exact zah _ rfl rfl (by revert p4;generalize a.eval=ρ;intro p4;simp only[execOp];go_simp) hF hsz hR rfl
 ·intro a w' hF hR hp
  have p6:a.eval (.tmp 6)=.slice (some ⟨g,0,none⟩) 37 c:=hp ⟨1,.data⟩ (by simp) rfl
  exact zah _ rfl rfl (by have pc0:=Act.eval_const a (.int .i64 0);revert p6 pc0;generalize a.eval=ρ;intro p6 pc0;simp only[execOp];go_simp) hF hsz hR rfl
 ·intro a w' hF hR hp
  have p9:a.eval (.tmp 9)=.string s:=hp ⟨5,.data⟩ (by simp) rfl
  have p11:a.eval (.tmp 11)=.pointer (some ⟨g,0,none⟩):=hp ⟨7,.data⟩ (by simp) rfl
  obtain⟨hRb,hRd,t,hRo⟩:=hR
  have hcW:w'.cell? ⟨g,0,none⟩=some (.string t):=by rw[hRo.cellAt 0 (by decide)];rfl
  have hfW:w'.frozen? ⟨g,0,none⟩=false:=hRo.frozenAt 0
  have hst:=(hRo.stored 0 (.string s)).1
  have hst2:(w'.setCell ⟨g,0,none⟩ (.string s)).ownsRow w.heap.size 9 1 (.slice (some ⟨g,0,none⟩) 37 c) 37 (cellsS (s::List.replicate 36 (fitT ⟨#[]⟩))):=hst
  refine zcg rfl rfl (w':=w'.setCell ⟨g,0,none⟩ (.string s)) (by revert p9 p11;generalize a.eval=ρ;intro p9 p11;simp only[execOp];go_simp) ⟨_,rfl,⟨hRb.setCell (p:=⟨g,0,none⟩) hg1 _,(Below.heap_setCell _ _ _ _ (by simp only;omega)).trans hRd,s,hst2⟩,?_,zv5⟩
  show zlj _ _ _ _ _ _ _ _
  exact hst2
 ·intro a W hF hR hp
  have hst:W.ownsRow w.heap.size 9 1 (.slice (some ⟨g,0,none⟩) 37 c) 37 (cellsS (s::List.replicate 36 (fitT ⟨#[]⟩))):=hp 8 (by decide)
  have hsa:a.tmps.size=14:=hF.size.trans hsz
  have f1:a.eval (.tmp 1)=.pointer (some ⟨w1.heap.size,0,none⟩):=(hF.other 1 rfl).trans v1
  have hlit:a=⟨#[_,_,_,_,_,_,_,_,_,_,_,_,_,_],[]⟩:=zb5 a 14 hsa (hF.defers.trans hdf)
  dsimp only at hlit
  rw[f1] at hlit
  show KK a _
  exact(congrArg (fun x=>KK x _) hlit).mpr (HTAIL.o (a.eval (.tmp 0)) (a.eval (.tmp 2)) (a.eval (.tmp 3)) (a.eval (.tmp 4)) (a.eval (.tmp 5)) (a.eval (.tmp 6)) (a.eval (.tmp 7)) (a.eval (.tmp 8)) (a.eval (.tmp 9)) (a.eval (.tmp 10)) (a.eval (.tmp 11)) (a.eval (.tmp 12)) (a.eval (.tmp 13)) W hst hR.1 hR.2.1)
theorem Move.acts {j:Jn}{a:Ac}{j':Jn}{r:Rp}(m:Move j a j' r):j'.acts=j.acts:=by
 cases m with
 |last hk s hs he=>
  rw[zbv]
  split
  ·rfl
  split
  ·rfl
  split
  ·rfl
  ·rfl
 |_=>rfl
theorem z3g {j:Jn}{D:Dk}(h:Md j D)(a:Ac)(h0:0≤j.acts)(h1:j.acts≤400):
  (400≤j.acts∧doJ j a=(j,zaq 11))∨(j.acts<400∧(doJ j a).1.acts=j.acts+1∧∃D',Md (doJ j a).1 D'∧Trans {j with acts:=j.acts+1} D a (doJ j a).1 (doJ j a).2 D'):=by
 by_cases hf:400≤j.acts
 ·exact .inl ⟨hf,by rw[doJ,if_pos hf]⟩
 ·have e:doJ j a=zi2 {j with acts:=j.acts+1} a:=by rw[doJ,if_neg hf]
  have m:=zxn {j with acts:=j.acts+1} a
  rw[e]
  refine .inr ⟨by omega,m.acts,(h.bump (x:=j.acts+1) (by omega)).move m (fun hk hs=>?_)⟩
  show j.now.seq≤j.acts+1
  cases h with
  |idle p hs hz hD ht hq=>exact p.seq
  |commit P U k p hw hk hs hD ht he hse hrh hru hq hN=>exact p.seq
  |check k p hw hz hk hs hD ht hq=>exact p.seq
  |off l N P U p hs hf hD ht=>rw[p.now];show(0:Int)≤_;omega
  |back U k p hw hk hs hD ht=>rw[p.now];show(0:Int)≤_;omega
theorem zzb:Tells z09 [] 1 0 0:=by
 have hg:zav z09=true:=by kernel_rfl
 refine zpp hg rfl (by kernel_rfl) z1o (fun n h1 h2=>?_)
 have hr:zai z09 n=fitT ⟨#[]⟩:=by
  rw[z09,zf5 hg (by omega)]
  obtain⟨m,rfl⟩:∃m,n=m+1:=⟨n - 1,by omega⟩
  rw[List.getD_cons_succ,List.getD,List.getElem?_replicate,if_pos (by omega)]
  rfl
 rw[hr]
 intro he
 rw[zza] at he
 cases he
theorem z3h:Md zzi z09:=.idle ⟨rfl,zn0 (by decide) (by decide),by decide,rfl,rfl,fun hb=>by cases hb⟩ rfl rfl rfl zzb rfl
theorem Md.ready {j:Jn}{D:Dk}(h:Md j D)(h0:0≤j.acts)(h1:j.acts≤400):Ready j:=by
 have wrp:∀x:Int, -10≤x→x≤1000→IntKind.i64.wrap x=x:=fun x _ _=>by rw[IntKind.wrap_i64];omega
 have pw:∀{l:List Tx} {N P U:Int},Pow j→j.done.length≤24→j.now.seq≤j.last+2→j.last+1≤j.now.seq→0≤j.last→0≤j.ru→j.ru≤24→Ready j:=by
  intro _ _ _ _ p hd hq hq2 hl hu0 hu1
  have hs:=zar p.good
  have hsq:=p.seq
  refine⟨by omega,by rw[p.fL];exact Nat.zero_le _,by rw[p.fN];exact wrp _ (by omega) (by omega),wrp _ (by omega) (by omega),wrp _ (by omega) (by omega),by omega,by omega,(fun hd2=>by rw[p.up] at hd2;cases hd2),hu0,hu1,h0,h1⟩
 have len:∀{N P U:Int},Tells D (j.done.map zdw) N P U→j.done.length≤24:=by
  intro N P U ht
  have h5:=zng D
  rw[ht.tL,List.length_map] at h5
  exact h5
 have dn:∀{N:Int},Dn j N→j.fL.length≤24→ -1≤j.fN→j.fN≤402→(j.steps=[]→∀t∈fndL j.disk,Few t)→Ready j:=by
  intro N p hf hf0 hf1 hfew
  have h5:=p.lo
  have h6:=p.seq
  have h7:=p.last0
  refine⟨by rw[p.done];exact Nat.zero_le _,by unfold maxLen;omega,wrp _ (by omega) (by omega),by rw[p.now];exact wrp _ (by decide) (by decide),wrp _ (by omega) (by omega),by rw[p.now];decide,by rw[p.now];decide,fun _=>hfew,by rw[p.ru];exact Int.le_refl _,by rw[p.ru];decide,h0,h1⟩
 cases h with
 |idle p hs hz hD ht hq=>have:=ht.range;exact pw (l:=[]) (N:=0) (P:=0) (U:=0) p (len ht) (by omega) (by omega) (by omega) (by omega) (by omega)
 |commit P U k p hw hk hs hD ht he hse hrh hru hq hN=>
  have:=ht.range
  obtain⟨_,hg,_,hU0,hUn⟩:=zbo he
  have hn:=zeb j.sealed (zar hg).1 (zar hg).2.2
  have hUU:zb0 P U j.sealed=U+needN j.sealed.info.length j.sealed.rev.length:=by
   have h5:=he
   unfold sealE at h5
   split at h5
   ·cases h5
   ·rw[zb0,if_pos he,takeU,if_pos h5]
  exact pw (l:=[]) (N:=0) (P:=0) (U:=0) p (len ht) (by omega) (by omega) (by omega) (by omega) (by omega)
 |check k p hw hz hk hs hD ht hq=>have:=ht.range;exact pw (l:=[]) (N:=0) (P:=0) (U:=0) p (len ht) (by omega) (by omega) (by omega) (by omega) (by omega)
 |off l N P U p hs hf hD ht=>
  refine dn p (by rw[hf.1];exact Nat.zero_le _) (by omega) (by omega) (fun _ t ht2=>z0l (ht.goods t ?_))
  rwa [hD,ht.tL] at ht2
 |back U k p hw hk hs hD ht=>
  have h5:=ht.range
  have h6:=p.seq
  refine dn p (by have h7:=zng D;rwa [ht.tL] at h7) (by omega) (by omega) (fun hs2=>?_)
  rw[hs2] at hs
  have:=congrArg List.length hs
  rw[List.length_drop] at this
  simp at this
  omega
def PJ (j:Jn):Prop:=∃D,Md j D∧0≤j.acts∧j.acts≤400
theorem PJ.ready {j:Jn}(h:PJ j):Ready j:=by
 obtain⟨D,h1,h2,h3⟩:=h
 exact h1.ready h2 h3
theorem PJ.do {j:Jn}(h:PJ j)(a:Ac):PJ (doJ j a).1:=by
 obtain⟨D,h1,h2,h3⟩:=h
 rcases z3g h1 a h2 h3 with⟨h4,h5⟩|⟨h4,h5,D',h6,_⟩
 ·rw[h5];exact⟨D,h1,h2,h3⟩
 ·exact⟨D',h6,by omega,by omega⟩
theorem PJ.new:PJ zzi:=⟨z09,z3h,by decide,by decide⟩
def al1:Jn:=(doJ zzi ⟨1,0,0,2,⟨#[]⟩⟩).1
def al2:Jn:=(doJ al1 ⟨2,0,3,0,⟨#[120]⟩⟩).1
def al3:Jn:=(doJ al2 ⟨9,0,3,0,⟨#[]⟩⟩).1
theorem z3i:(doJ zzi ⟨1,0,0,2,⟨#[]⟩⟩).2.code=0:=by kernel_rfl
theorem z3j:(doJ al1 ⟨2,0,3,0,⟨#[120]⟩⟩).2.code=0:=by kernel_rfl
theorem z1p:(doJ al2 ⟨9,0,3,0,⟨#[]⟩⟩).2.n=1∧(doJ al2 ⟨9,0,3,0,⟨#[]⟩⟩).2.text=fitT ⟨#[120]⟩:=⟨by kernel_rfl,by kernel_rfl⟩
theorem z3k:(doJ al3 ⟨6,0,0,0,⟨#[]⟩⟩).2.code=9:=by kernel_rfl
def ztn (R1:Nat)(R2:Nat)(R3:Nat)(R4:Nat)(z:ByteArray):Nat→Value→World→Prop
 |0,v,_=>v=.pointer (some ⟨R1,0,none⟩)
 |1,v,_=>v=.int .i64 0
 |2,v,_=>v=.bool true
 |3,v,_=>v=.bool true
 |4,v,_=>v=.pointer (some ⟨R2,0,none⟩)
 |5,v,_=>v=.int .i64 0
 |6,v,_=>v=.bool true
 |7,v,_=>v=.bool true
 |8,v,_=>v=.bool true
 |9,v,_=>v=.pointer (some ⟨R3,2,none⟩)
 |10,v,_=>v=.string z
 |11,v,_=>v=.string z
 |12,v,_=>v=.bool true
 |13,v,_=>v=.bool true
 |14,v,_=>v=.bool true
 |15,v,_=>v=.pointer (some ⟨R3,1,none⟩)
 |16,v,_=>v=.int .i64 1
 |17,v,_=>v=.bool true
 |18,v,_=>v=.bool true
 |19,v,_=>v=.bool true
 |20,v,_=>v=.pointer (some ⟨R4,0,none⟩)
 |21,v,_=>v=.int .i64 9
 |22,v,_=>v=.bool true
 |23,v,_=>v=.bool true
 |24,v,_=>v=.bool true
 |_,_,_=>True
theorem zqp {R1:Nat}{R2:Nat}{R3:Nat}{R4:Nat}{z:ByteArray}{w w':World}(_hb:Below w.heap.size w w'){i:Nat}:∀kk uu,kk≠i→ztn R1 R2 R3 R4 z kk uu w→ztn R1 R2 R3 R4 z kk uu w':=by
 intro kk uu _ h
 match kk,h with
 |0,h|1,h|2,h|3,h|4,h|5,h|6,h|7,h|8,h|9,h|10,h|11,h|12,h|13,h|14,h|15,h|16,h|17,h|18,h|19,h|20,h|21,h|22,h|23,h|24,h=>exact h
 |_+25,_=>exact trivial
theorem zzc (w:World):Calls Tryz.prog 39 #[] w fun e w'=>e=.returned (.bool true)∧Below w.heap.size w w':=by
 obtain⟨z,hz⟩:∃z,z=fitT ⟨#[120]⟩:=⟨_,rfl⟩
 have HZ:=zaa hz
 clear hz
 go_enter Tryz.func39,Tryz.ntmps39
 go_wp2_with fail
 refine(ztm _).mono ?_
 rintro e w1 ⟨B,rfl,hB0,hJ,hbn⟩
 have HJ0:=zaa (hJ [] (by simp))
 have hBl:B<w1.heap.size:=HJ0.o.lt
 have HBW0:=zaa hbn
 have hs0:w.heap.size≤w1.heap.size:=hbn.size
 have HP0:=zaa PJ.new
 have HF0:Hid (∀P,P=doJ zzi ⟨1,0,0,2,⟨#[]⟩⟩→P.2.code=0∧∀j1,j1=P.1→∀P,P=doJ j1 ⟨2,0,3,0,⟨#[120]⟩⟩→P.2.code=0∧∀j2,j2=P.1→∀P,P=doJ j2 ⟨9,0,3,0,⟨#[]⟩⟩→P.2.n=1∧P.2.text=z∧∀j3,j3=P.1→∀P,P=doJ j3 ⟨6,0,0,0,⟨#[]⟩⟩→P.2.code=9∧True):=by
  rintro P rfl
  refine⟨z3i,?_⟩
  rintro j1 rfl P rfl
  refine⟨z3j,?_⟩
  rintro j2 rfl P rfl
  refine⟨z1p.1,z1p.2.trans HZ.o.symm,?_⟩
  rintro j3 rfl P rfl
  exact⟨z3k,trivial⟩
 clear hJ hbn
 obtain⟨j0,hj0⟩:∃j0,j0=zzi:=⟨_,rfl⟩
 rw[←hj0] at HJ0 HP0 HF0
 clear hj0
 go_wp2_with fail
 refine(zli B [B] j0 w1 HJ0.o (fun x hx=>by rw[List.mem_singleton.1 hx];omega) HP0.o.ready ⟨1,0,0,2,⟨#[]⟩⟩ (by decide) (by decide)).mono ?_
 rintro e w0b ⟨rfl,hJ,hB⟩
 obtain⟨P,hP⟩:∃P,P=doJ j0 ⟨1,0,0,2,⟨#[]⟩⟩:=⟨_,rfl⟩
 have HP1:Hid (PJ P.1):=by rw[hP];exact HP0.o.do _
 have HQ0:=zaa (HF0.o P hP)
 rw[←hP] at hJ⊢
 have hvr:vRp P.2=.agg #[.int .i64 0,.int .i64 P.2.n,.string P.2.text]:=by
  show Value.agg #[.int .i64 P.2.code,.int .i64 P.2.n,.string P.2.text]=_
  rw[HQ0.o.1]
 rw[hvr]
 obtain⟨j1,hj1⟩:∃x,x=P.1:=⟨_,rfl⟩
 rw[←hj1] at HP1 hJ
 have HF1:=zaa (HQ0.o.2 j1 hj1)
 clear hj1 hvr
 generalize P.2.n=n1 at *
 generalize P.2.text=t1 at *
 generalize P.2.code=c1 at *
 clear hP
 have hbs:w1.heap.size≤w0b.heap.size:=hB.size
 have HBB0:Hid (Below w.heap.size w w0b):=by
  have hx:=HBW0.o
  exact⟨hB.os.trans hx.os,hB.tape.trans hx.tape,hB.output.trans hx.output,Nat.le_trans hx.size hB.size,fun q hq=>(hB.block q (by have:=hx.size;omega) (by simp;omega)).trans (hx.block q hq)⟩
 go_wp2_with fail
 obtain⟨W1,hW⟩:∃W,W=w0b.alloc (.cells #[.int .i64 0,.int .i64 n1,.string t1] 31):=⟨_,rfl⟩
 rw[←hW]
 have hbn:Below w0b.heap.size w0b W1:=by rw[hW];exact below1 _ _
 have HJ1:=zaa (hJ.below hbn)
 have HBW1:=zaa (zad HBB0.o hbn)
 have hsz1:W1.heap.size=w0b.heap.size+1:=by rw[hW];simp
 have KR0:Hid (W1.heap[w0b.heap.size]?=some (.cells #[.int .i64 0,.int .i64 n1,.string t1] 31 (0,0))):=by rw[hW];exact heap_alloc_new _ _
 clear hW hbn hJ hB HBB0 HBW0
 refine(zli B [B] j1 W1 HJ1.o (fun x hx=>by rw[List.mem_singleton.1 hx];omega) HP1.o.ready ⟨2,0,3,0,⟨#[120]⟩⟩ (by decide) (by decide)).mono ?_
 rintro e w1b ⟨rfl,hJ,hB⟩
 obtain⟨P,hP⟩:∃P,P=doJ j1 ⟨2,0,3,0,⟨#[120]⟩⟩:=⟨_,rfl⟩
 have HP2:Hid (PJ P.1):=by rw[hP];exact HP1.o.do _
 have HQ1:=zaa (HF1.o P hP)
 rw[←hP] at hJ⊢
 have hvr:vRp P.2=.agg #[.int .i64 0,.int .i64 P.2.n,.string P.2.text]:=by
  show Value.agg #[.int .i64 P.2.code,.int .i64 P.2.n,.string P.2.text]=_
  rw[HQ1.o.1]
 rw[hvr]
 obtain⟨j2,hj2⟩:∃x,x=P.1:=⟨_,rfl⟩
 rw[←hj2] at HP2 hJ
 have HF2:=zaa (HQ1.o.2 j2 hj2)
 clear hj2 hvr
 generalize P.2.n=n2 at *
 generalize P.2.text=t2 at *
 generalize P.2.code=c2 at *
 clear hP
 have hbs:W1.heap.size≤w1b.heap.size:=hB.size
 have KR0b:=zaa ((hB.block _ (by omega) (by simp;omega)).trans KR0.o)
 clear KR0
 have KR0:=KR0b
 clear KR0b
 have HBB1:Hid (Below w.heap.size w w1b):=by
  have hx:=HBW1.o
  exact⟨hB.os.trans hx.os,hB.tape.trans hx.tape,hB.output.trans hx.output,Nat.le_trans hx.size hB.size,fun q hq=>(hB.block q (by have:=hx.size;omega) (by simp;omega)).trans (hx.block q hq)⟩
 go_wp2_with fail
 obtain⟨W2,hW⟩:∃W,W=w1b.alloc (.cells #[.int .i64 0,.int .i64 n2,.string t2] 31):=⟨_,rfl⟩
 rw[←hW]
 have hbn:Below w1b.heap.size w1b W2:=by rw[hW];exact below1 _ _
 have HJ2:=zaa (hJ.below hbn)
 have HBW2:=zaa (zad HBB1.o hbn)
 have hsz2:W2.heap.size=w1b.heap.size+1:=by rw[hW];simp
 have KR1:Hid (W2.heap[w1b.heap.size]?=some (.cells #[.int .i64 0,.int .i64 n2,.string t2] 31 (0,0))):=by rw[hW];exact heap_alloc_new _ _
 have KR0b:=zaa (zac hbn (by omega) KR0.o)
 clear KR0
 have KR0:=KR0b
 clear KR0b
 clear hW hbn hJ hB HBB1 HBW1
 refine(zli B [B] j2 W2 HJ2.o (fun x hx=>by rw[List.mem_singleton.1 hx];omega) HP2.o.ready ⟨9,0,3,0,⟨#[]⟩⟩ (by decide) (by decide)).mono ?_
 rintro e w2b ⟨rfl,hJ,hB⟩
 obtain⟨P,hP⟩:∃P,P=doJ j2 ⟨9,0,3,0,⟨#[]⟩⟩:=⟨_,rfl⟩
 have HP3:Hid (PJ P.1):=by rw[hP];exact HP2.o.do _
 have HQ2:=zaa (HF2.o P hP)
 rw[←hP] at hJ⊢
 have hvr:vRp P.2=.agg #[.int .i64 P.2.code,.int .i64 1,.string z]:=by
  show Value.agg #[.int .i64 P.2.code,.int .i64 P.2.n,.string P.2.text]=_
  rw[HQ2.o.1,HQ2.o.2.1]
 rw[hvr]
 obtain⟨j3,hj3⟩:∃x,x=P.1:=⟨_,rfl⟩
 rw[←hj3] at HP3 hJ
 have HF3:=zaa (HQ2.o.2.2 j3 hj3)
 clear hj3 hvr
 generalize P.2.n=n3 at *
 generalize P.2.text=t3 at *
 generalize P.2.code=c3 at *
 clear hP
 have hbs:W2.heap.size≤w2b.heap.size:=hB.size
 have KR0b:=zaa ((hB.block _ (by omega) (by simp;omega)).trans KR0.o)
 clear KR0
 have KR0:=KR0b
 clear KR0b
 have KR1b:=zaa ((hB.block _ (by omega) (by simp;omega)).trans KR1.o)
 clear KR1
 have KR1:=KR1b
 clear KR1b
 have HBB2:Hid (Below w.heap.size w w2b):=by
  have hx:=HBW2.o
  exact⟨hB.os.trans hx.os,hB.tape.trans hx.tape,hB.output.trans hx.output,Nat.le_trans hx.size hB.size,fun q hq=>(hB.block q (by have:=hx.size;omega) (by simp;omega)).trans (hx.block q hq)⟩
 go_wp2_with fail
 obtain⟨W3,hW⟩:∃W,W=w2b.alloc (.cells #[.int .i64 c3,.int .i64 1,.string z] 31):=⟨_,rfl⟩
 rw[←hW]
 have hbn:Below w2b.heap.size w2b W3:=by rw[hW];exact below1 _ _
 have HJ3:=zaa (hJ.below hbn)
 have HBW3:=zaa (zad HBB2.o hbn)
 have hsz3:W3.heap.size=w2b.heap.size+1:=by rw[hW];simp
 have KR2:Hid (W3.heap[w2b.heap.size]?=some (.cells #[.int .i64 c3,.int .i64 1,.string z] 31 (0,0))):=by rw[hW];exact heap_alloc_new _ _
 have KR0b:=zaa (zac hbn (by omega) KR0.o)
 clear KR0
 have KR0:=KR0b
 clear KR0b
 have KR1b:=zaa (zac hbn (by omega) KR1.o)
 clear KR1
 have KR1:=KR1b
 clear KR1b
 clear hW hbn hJ hB HBB2 HBW2
 refine(zli B [B] j3 W3 HJ3.o (fun x hx=>by rw[List.mem_singleton.1 hx];omega) HP3.o.ready ⟨6,0,0,0,⟨#[]⟩⟩ (by decide) (by decide)).mono ?_
 rintro e w3b ⟨rfl,hJ,hB⟩
 obtain⟨P,hP⟩:∃P,P=doJ j3 ⟨6,0,0,0,⟨#[]⟩⟩:=⟨_,rfl⟩
 have HP4:Hid (PJ P.1):=by rw[hP];exact HP3.o.do _
 have HQ3:=zaa (HF3.o P hP)
 rw[←hP] at hJ⊢
 have hvr:vRp P.2=.agg #[.int .i64 9,.int .i64 P.2.n,.string P.2.text]:=by
  show Value.agg #[.int .i64 P.2.code,.int .i64 P.2.n,.string P.2.text]=_
  rw[HQ3.o.1]
 rw[hvr]
 obtain⟨j4,hj4⟩:∃x,x=P.1:=⟨_,rfl⟩
 rw[←hj4] at HP4 hJ
 clear hj4 hvr
 generalize P.2.n=n4 at *
 generalize P.2.text=t4 at *
 generalize P.2.code=c4 at *
 clear hP
 have hbs:W3.heap.size≤w3b.heap.size:=hB.size
 have KR0b:=zaa ((hB.block _ (by omega) (by simp;omega)).trans KR0.o)
 clear KR0
 have KR0:=KR0b
 clear KR0b
 have KR1b:=zaa ((hB.block _ (by omega) (by simp;omega)).trans KR1.o)
 clear KR1
 have KR1:=KR1b
 clear KR1b
 have KR2b:=zaa ((hB.block _ (by omega) (by simp;omega)).trans KR2.o)
 clear KR2
 have KR2:=KR2b
 clear KR2b
 have HBB3:Hid (Below w.heap.size w w3b):=by
  have hx:=HBW3.o
  exact⟨hB.os.trans hx.os,hB.tape.trans hx.tape,hB.output.trans hx.output,Nat.le_trans hx.size hB.size,fun q hq=>(hB.block q (by have:=hx.size;omega) (by simp;omega)).trans (hx.block q hq)⟩
 go_wp2
 rename_i KK hKK
 obtain⟨W4,hW⟩:∃W,W=w3b.alloc (.cells #[.int .i64 9,.int .i64 n4,.string t4] 31):=⟨_,rfl⟩
 rw[←hW]
 have hbn:Below w3b.heap.size w3b W4:=by rw[hW];exact below1 _ _
 have HJ4:=zaa (hJ.below hbn)
 have HBW4:=zaa (zad HBB3.o hbn)
 have hsz4:W4.heap.size=w3b.heap.size+1:=by rw[hW];simp
 have KR3:Hid (W4.heap[w3b.heap.size]?=some (.cells #[.int .i64 9,.int .i64 n4,.string t4] 31 (0,0))):=by rw[hW];exact heap_alloc_new _ _
 have KR0b:=zaa (zac hbn (by omega) KR0.o)
 clear KR0
 have KR0:=KR0b
 clear KR0b
 have KR1b:=zaa (zac hbn (by omega) KR1.o)
 clear KR1
 have KR1:=KR1b
 clear KR1b
 have KR2b:=zaa (zac hbn (by omega) KR2.o)
 clear KR2
 have KR2:=KR2b
 clear KR2b
 clear hW hbn hJ hB HBB3 HBW3
 obtain⟨R1,hR1⟩:∃x,x=w0b.heap.size:=⟨_,rfl⟩
 obtain⟨R2,hR2⟩:∃x,x=w1b.heap.size:=⟨_,rfl⟩
 obtain⟨R3,hR3⟩:∃x,x=w2b.heap.size:=⟨_,rfl⟩
 obtain⟨R4,hR4⟩:∃x,x=w3b.heap.size:=⟨_,rfl⟩
 obtain⟨W,hW⟩:∃x,x=W4:=⟨_,rfl⟩
 rw[←hR1] at KR0
 rw[←hR2] at KR1
 rw[←hR3] at KR2
 rw[←hR4] at KR3
 rw[←hW] at KR0 KR1 KR2 KR3 HBW4
 rw[←hR1,←hR2,←hR3,←hR4,←hW]
 have C00:Hid (W.cell? ⟨R1,0,none⟩=some (.int .i64 0)):=(cell_of_row W _ 0 _ _ _ KR0.o).trans rfl
 have C01:Hid (W.cell? ⟨R1,1,none⟩=some (.int .i64 n1)):=(cell_of_row W _ 1 _ _ _ KR0.o).trans rfl
 have C02:Hid (W.cell? ⟨R1,2,none⟩=some (.string t1)):=(cell_of_row W _ 2 _ _ _ KR0.o).trans rfl
 have C10:Hid (W.cell? ⟨R2,0,none⟩=some (.int .i64 0)):=(cell_of_row W _ 0 _ _ _ KR1.o).trans rfl
 have C11:Hid (W.cell? ⟨R2,1,none⟩=some (.int .i64 n2)):=(cell_of_row W _ 1 _ _ _ KR1.o).trans rfl
 have C12:Hid (W.cell? ⟨R2,2,none⟩=some (.string t2)):=(cell_of_row W _ 2 _ _ _ KR1.o).trans rfl
 have C20:Hid (W.cell? ⟨R3,0,none⟩=some (.int .i64 c3)):=(cell_of_row W _ 0 _ _ _ KR2.o).trans rfl
 have C21:Hid (W.cell? ⟨R3,1,none⟩=some (.int .i64 1)):=(cell_of_row W _ 1 _ _ _ KR2.o).trans rfl
 have C22:Hid (W.cell? ⟨R3,2,none⟩=some (.string z)):=(cell_of_row W _ 2 _ _ _ KR2.o).trans rfl
 have C30:Hid (W.cell? ⟨R4,0,none⟩=some (.int .i64 9)):=(cell_of_row W _ 0 _ _ _ KR3.o).trans rfl
 have C31:Hid (W.cell? ⟨R4,1,none⟩=some (.int .i64 n4)):=(cell_of_row W _ 1 _ _ _ KR3.o).trans rfl
 have C32:Hid (W.cell? ⟨R4,2,none⟩=some (.string t4)):=(cell_of_row W _ 2 _ _ _ KR3.o).trans rfl
 have hR1l:R1<W.heap.size:=(Array.getElem?_eq_some_iff.1 KR0.o).1
 have hR2l:R2<W.heap.size:=(Array.getElem?_eq_some_iff.1 KR1.o).1
 have hR3l:R3<W.heap.size:=(Array.getElem?_eq_some_iff.1 KR2.o).1
 have hR4l:R4<W.heap.size:=(Array.getElem?_eq_some_iff.1 KR3.o).1
 clear hR1 hR2 hR3 hR4 hW
 have hR1:=hR1l
 have hR2:=hR2l
 have hR3:=hR3l
 have hR4:=hR4l
 have TAIL:∀(g:Nat→Value) (W':World),Below W.heap.size W W'→KK ⟨#[.bool true,g 1,g 2,g 3,g 4,g 5,g 6,g 7,g 8,g 9,g 10,g 11,g 12,g 13,g 14,g 15,g 16,g 17,g 18,g 19,g 20,g 21,g 22,g 23,g 24,g 25,g 26,g 27,g 28,g 29,g 30,g 31,g 32,g 33,g 34,g 35,g 36,g 37,g 38,g 39,g 40,g 41,g 42,g 43,g 44],[]⟩ W':=by
  intro g W' hb
  apply hKK
  clear hKK
  go_wp2
  go_ret
  exact⟨rfl,zad HBW4.o hb⟩
 have HTAIL:=zaa TAIL
 clear TAIL hKK
 refine(show∀A0:Act,A0=_→Code.wp Tryz.prog _ _ A0 _ from fun A0 hA0=>?_) _ rfl
 have hsz:A0.tmps.size=45:=by rw[hA0];rfl
 have hdf:A0.defers=[]:=by rw[hA0]
 have v2:A0.eval (.tmp 2)=.pointer (some ⟨R1,0,none⟩):=by rw[hA0];rfl
 have v3:A0.eval (.tmp 3)=.pointer (some ⟨R2,0,none⟩):=by rw[hA0];rfl
 have v4:A0.eval (.tmp 4)=.pointer (some ⟨R3,0,none⟩):=by rw[hA0];rfl
 have v5:A0.eval (.tmp 5)=.pointer (some ⟨R4,0,none⟩):=by rw[hA0];rfl
 clear hA0
 refine zcl (fun w'=>Below W.heap.size W w') [21,22,23,24,25,26,27,28,29,30,31,32,33,34,35,36,37,38,39,40,41,42,43,44,0] (ztn R1 R2 R3 R4 z) (by kernel_rfl) (by kernel_rfl) (by kernel_rfl) ((Below.refl _ _).drew) ⟨?_,?_,?_,?_,?_,?_,?_,?_,?_,?_,?_,?_,?_,?_,?_,?_,?_,?_,?_,?_,?_,?_,?_,?_,?_,trivial⟩ ?_
 ·intro a w' hF hR hp
  have z2:=(hF.other 2 rfl).trans v2
  exact zah _ rfl rfl (by revert z2;generalize a.eval=ρ;intro z2;simp only[execOp];go_simp) hF hsz hR rfl
 ·intro a w' hF hR hp
  have p21:a.eval (.tmp 21)=.pointer (some ⟨R1,0,none⟩):=hp ⟨0,.data⟩ (by simp) rfl
  have c0:w'.cell? ⟨R1,0,none⟩=some (.int .i64 0):=zab hR hR1 C00.o
  exact zah _ rfl rfl (by revert p21;generalize a.eval=ρ;intro p21;simp only[execOp];go_simp) hF hsz hR rfl
 ·intro a w' hF hR hp
  have p22:a.eval (.tmp 22)=.int .i64 0:=hp ⟨1,.data⟩ (by simp) rfl
  exact zah _ rfl rfl (by have pc0:=Act.eval_const a (.int .i64 0);revert p22 pc0;generalize a.eval=ρ;intro p22 pc0;simp only[execOp];go_simp) hF hsz hR rfl
 ·intro a w' hF hR hp
  have p23:a.eval (.tmp 23)=.bool true:=hp ⟨2,.data⟩ (by simp) rfl
  exact zah _ rfl rfl (by revert p23;generalize a.eval=ρ;intro p23;simp only[execOp];go_simp) hF hsz hR rfl
 ·intro a w' hF hR hp
  have pg:a.eval (.tmp 24)=.bool true:=hp ⟨3,Ground.guard⟩ (by simp) rfl
  have z3:=(hF.other 3 rfl).trans v3
  exact zbx _ rfl (zal (b:=true) rfl rfl pg) (by revert z3;generalize a.eval=ρ;intro z3;simp only[execOp];go_simp) hF hsz hR rfl
 ·intro a w' hF hR hp
  have pg:a.eval (.tmp 24)=.bool true:=hp ⟨3,Ground.guard⟩ (by simp) rfl
  have p25:a.eval (.tmp 25)=.pointer (some ⟨R2,0,none⟩):=hp ⟨4,.data⟩ (by simp) rfl
  have c0:w'.cell? ⟨R2,0,none⟩=some (.int .i64 0):=zab hR hR2 C10.o
  exact zbx _ rfl (zal (b:=true) rfl rfl pg) (by revert p25;generalize a.eval=ρ;intro p25;simp only[execOp];go_simp) hF hsz hR rfl
 ·intro a w' hF hR hp
  have pg:a.eval (.tmp 24)=.bool true:=hp ⟨3,Ground.guard⟩ (by simp) rfl
  have p26:a.eval (.tmp 26)=.int .i64 0:=hp ⟨5,.data⟩ (by simp) rfl
  exact zbx _ rfl (zal (b:=true) rfl rfl pg) (by have pc0:=Act.eval_const a (.int .i64 0);revert p26 pc0;generalize a.eval=ρ;intro p26 pc0;simp only[execOp];go_simp) hF hsz hR rfl
 ·intro a w' hF hR hp
  have p24:a.eval (.tmp 24)=.bool true:=hp ⟨3,.data⟩ (by simp) rfl
  have p27:a.eval (.tmp 27)=.bool true:=hp ⟨6,.data⟩ (by simp) rfl
  exact zah _ rfl rfl (by revert p24 p27;generalize a.eval=ρ;intro p24 p27;simp only[execOp];go_simp) hF hsz hR rfl
 ·intro a w' hF hR hp
  have p28:a.eval (.tmp 28)=.bool true:=hp ⟨7,.data⟩ (by simp) rfl
  exact zah _ rfl rfl (by revert p28;generalize a.eval=ρ;intro p28;simp only[execOp];go_simp) hF hsz hR rfl
 ·intro a w' hF hR hp
  have pg:a.eval (.tmp 29)=.bool true:=hp ⟨8,Ground.guard⟩ (by simp) rfl
  have z4:=(hF.other 4 rfl).trans v4
  exact zbx _ rfl (zal (b:=true) rfl rfl pg) (by revert z4;generalize a.eval=ρ;intro z4;simp only[execOp];go_simp) hF hsz hR rfl
 ·intro a w' hF hR hp
  have pg:a.eval (.tmp 29)=.bool true:=hp ⟨8,Ground.guard⟩ (by simp) rfl
  have p30:a.eval (.tmp 30)=.pointer (some ⟨R3,2,none⟩):=hp ⟨9,.data⟩ (by simp) rfl
  have c0:w'.cell? ⟨R3,2,none⟩=some (.string z):=zab hR hR3 C22.o
  exact zbx _ rfl (zal (b:=true) rfl rfl pg) (by revert p30;generalize a.eval=ρ;intro p30;simp only[execOp];go_simp) hF hsz hR rfl
 ·intro a w' hF hR hp
  have pg:a.eval (.tmp 29)=.bool true:=hp ⟨8,Ground.guard⟩ (by simp) rfl
  refine zg5 25 #[.string ⟨#[120]⟩] rfl (zal (b:=true) rfl rfl pg) (by have pf:=Act.eval_func a 25;have pc0:=Act.eval_const a (.string ⟨#[120]⟩);revert pf pc0;generalize a.eval=ρ;intro pf pc0;simp only[execOp];go_simp) _ (fit_any ⟨#[120]⟩ _ (by decide)) ?_
  rintro e w2 ⟨rfl,hb2⟩
  refine⟨_,rfl,_,rfl,zad hR hb2,?_,zqp hb2⟩
  show ztn _ _ _ _ _ _ ((a.put (some 32) _).eval (.tmp 32)) w2
  rw[zan hF hsz (by decide)]
  rw[←HZ.o]
  exact rfl
 ·intro a w' hF hR hp
  have pg:a.eval (.tmp 29)=.bool true:=hp ⟨8,Ground.guard⟩ (by simp) rfl
  have p31:a.eval (.tmp 31)=.string z:=hp ⟨10,.data⟩ (by simp) rfl
  have p32:a.eval (.tmp 32)=.string z:=hp ⟨11,.data⟩ (by simp) rfl
  exact zbx _ rfl (zal (b:=true) rfl rfl pg) (by revert p31 p32;generalize a.eval=ρ;intro p31 p32;simp only[execOp];go_simp) hF hsz hR rfl
 ·intro a w' hF hR hp
  have p29:a.eval (.tmp 29)=.bool true:=hp ⟨8,.data⟩ (by simp) rfl
  have p33:a.eval (.tmp 33)=.bool true:=hp ⟨12,.data⟩ (by simp) rfl
  exact zah _ rfl rfl (by revert p29 p33;generalize a.eval=ρ;intro p29 p33;simp only[execOp];go_simp) hF hsz hR rfl
 ·intro a w' hF hR hp
  have p34:a.eval (.tmp 34)=.bool true:=hp ⟨13,.data⟩ (by simp) rfl
  exact zah _ rfl rfl (by revert p34;generalize a.eval=ρ;intro p34;simp only[execOp];go_simp) hF hsz hR rfl
 ·intro a w' hF hR hp
  have pg:a.eval (.tmp 35)=.bool true:=hp ⟨14,Ground.guard⟩ (by simp) rfl
  have z4:=(hF.other 4 rfl).trans v4
  exact zbx _ rfl (zal (b:=true) rfl rfl pg) (by revert z4;generalize a.eval=ρ;intro z4;simp only[execOp];go_simp) hF hsz hR rfl
 ·intro a w' hF hR hp
  have pg:a.eval (.tmp 35)=.bool true:=hp ⟨14,Ground.guard⟩ (by simp) rfl
  have p36:a.eval (.tmp 36)=.pointer (some ⟨R3,1,none⟩):=hp ⟨15,.data⟩ (by simp) rfl
  have c0:w'.cell? ⟨R3,1,none⟩=some (.int .i64 1):=zab hR hR3 C21.o
  exact zbx _ rfl (zal (b:=true) rfl rfl pg) (by revert p36;generalize a.eval=ρ;intro p36;simp only[execOp];go_simp) hF hsz hR rfl
 ·intro a w' hF hR hp
  have pg:a.eval (.tmp 35)=.bool true:=hp ⟨14,Ground.guard⟩ (by simp) rfl
  have p37:a.eval (.tmp 37)=.int .i64 1:=hp ⟨16,.data⟩ (by simp) rfl
  exact zbx _ rfl (zal (b:=true) rfl rfl pg) (by have pc0:=Act.eval_const a (.int .i64 1);revert p37 pc0;generalize a.eval=ρ;intro p37 pc0;simp only[execOp];go_simp) hF hsz hR rfl
 ·intro a w' hF hR hp
  have p35:a.eval (.tmp 35)=.bool true:=hp ⟨14,.data⟩ (by simp) rfl
  have p38:a.eval (.tmp 38)=.bool true:=hp ⟨17,.data⟩ (by simp) rfl
  exact zah _ rfl rfl (by revert p35 p38;generalize a.eval=ρ;intro p35 p38;simp only[execOp];go_simp) hF hsz hR rfl
 ·intro a w' hF hR hp
  have p39:a.eval (.tmp 39)=.bool true:=hp ⟨18,.data⟩ (by simp) rfl
  exact zah _ rfl rfl (by revert p39;generalize a.eval=ρ;intro p39;simp only[execOp];go_simp) hF hsz hR rfl
 ·intro a w' hF hR hp
  have pg:a.eval (.tmp 40)=.bool true:=hp ⟨19,Ground.guard⟩ (by simp) rfl
  have z5:=(hF.other 5 rfl).trans v5
  exact zbx _ rfl (zal (b:=true) rfl rfl pg) (by revert z5;generalize a.eval=ρ;intro z5;simp only[execOp];go_simp) hF hsz hR rfl
 ·intro a w' hF hR hp
  have pg:a.eval (.tmp 40)=.bool true:=hp ⟨19,Ground.guard⟩ (by simp) rfl
  have p41:a.eval (.tmp 41)=.pointer (some ⟨R4,0,none⟩):=hp ⟨20,.data⟩ (by simp) rfl
  have c0:w'.cell? ⟨R4,0,none⟩=some (.int .i64 9):=zab hR hR4 C30.o
  exact zbx _ rfl (zal (b:=true) rfl rfl pg) (by revert p41;generalize a.eval=ρ;intro p41;simp only[execOp];go_simp) hF hsz hR rfl
 ·intro a w' hF hR hp
  have pg:a.eval (.tmp 40)=.bool true:=hp ⟨19,Ground.guard⟩ (by simp) rfl
  have p42:a.eval (.tmp 42)=.int .i64 9:=hp ⟨21,.data⟩ (by simp) rfl
  exact zbx _ rfl (zal (b:=true) rfl rfl pg) (by have pc0:=Act.eval_const a (.int .i64 9);revert p42 pc0;generalize a.eval=ρ;intro p42 pc0;simp only[execOp];go_simp) hF hsz hR rfl
 ·intro a w' hF hR hp
  have p40:a.eval (.tmp 40)=.bool true:=hp ⟨19,.data⟩ (by simp) rfl
  have p43:a.eval (.tmp 43)=.bool true:=hp ⟨22,.data⟩ (by simp) rfl
  exact zah _ rfl rfl (by revert p40 p43;generalize a.eval=ρ;intro p40 p43;simp only[execOp];go_simp) hF hsz hR rfl
 ·intro a w' hF hR hp
  have p44:a.eval (.tmp 44)=.bool true:=hp ⟨23,.data⟩ (by simp) rfl
  exact zah _ rfl rfl (by revert p44;generalize a.eval=ρ;intro p44;simp only[execOp];go_simp) hF hsz hR rfl
 ·intro a W' hF hR hp
  have p0:a.eval (.tmp 0)=.bool true:=hp 24 (by decide)
  have hsa:a.tmps.size=45:=hF.size.trans hsz
  have hlit:a=⟨#[_,_,_,_,_,_,_,_,_,_,_,_,_,_,_,_,_,_,_,_,_,_,_,_,_,_,_,_,_,_,_,_,_,_,_,_,_,_,_,_,_,_,_,_,_],[]⟩:=zb5 a 45 hsa (hF.defers.trans hdf)
  dsimp only at hlit
  rw[p0] at hlit
  show KK a _
  exact(congrArg (fun x=>KK x _) hlit).mpr (HTAIL.o (fun k=>a.eval (.tmp k)) _ hR)
section
variable {j:Jn} {D:Dk}
theorem zof {h u:Int}(a:0≤h)(b:h≤23)(c:0≤u)(d:u≤24):zfe h u=true:=by simp[zfe];omega
theorem Md.ringR (h:Md j D):zfe j.rh j.ru=true:=by
 cases h with
 |idle p hs hz hD ht hq=>have:=ht.range;exact zof (by omega) (by omega) (by omega) (by omega)
 |commit P U k p hw hk hs hD ht he hse hrh hru hq hN=>
  have hr:=ht.range
  obtain⟨_,hg,_,hU0,hUn⟩:=zbo he
  have h5:=he
  unfold sealE at h5
  split at h5
  ·cases h5
  rename_i hc
  have hH:zb3 P U j.sealed=(P+needN j.sealed.info.length j.sealed.rev.length)%24:=by rw[zb3,if_pos he,takeH,if_pos h5]
  have hUU:zb0 P U j.sealed=U+needN j.sealed.info.length j.sealed.rev.length:=by rw[zb0,if_pos he,takeU,if_pos h5]
  have h24:U+needN j.sealed.info.length j.sealed.rev.length≤24:=by
   unfold takeE at h5
   split at h5
   ·cases h5
   split at h5
   ·cases h5
   ·omega
  have h0:0≤needN j.sealed.info.length j.sealed.rev.length:=by
   unfold takeE at h5
   split at h5
   ·cases h5
   ·omega
  rw[hrh,hru,hH,hUU]
  exact zof (by omega) (by omega) (by omega) (by omega)
 |check k p hw hz hk hs hD ht hq=>have:=ht.range;exact zof (by omega) (by omega) (by omega) (by omega)
 |off l N P U p hs hf hD ht=>rw[p.rh,p.ru];rfl
 |back U k p hw hk hs hD ht=>rw[p.rh,p.ru];rfl
theorem Md.behind (h:Md j D)(hu:j.down=false):j.last<j.now.seq:=by
 cases h with
 |idle p hs hz hD ht hq=>omega
 |commit P U k p hw hk hs hD ht he hse hrh hru hq hN=>omega
 |check k p hw hz hk hs hD ht hq=>omega
 |off l N P U p hs hf hD ht=>rw[p.off] at hu;cases hu
 |back U k p hw hk hs hD ht=>rw[p.off] at hu;cases hu
theorem Md.commit6 (h:Md j D):(zb9 j).2.code≠6∨j.down=true:=by
 by_cases hu:j.down=true
 ·exact .inr hu
 have hu':j.down=false:=by simpa using hu
 left
 have p:=h.pow hu'
 have hR:=h.ringR
 rw[zb9]
 split
 ·intro e;cases e
 rename_i h1
 split
 ·intro e;cases e
 rename_i h2
 split
 ·intro e;cases e
 split
 ·intro e;cases e
 rename_i h4
 intro e
 have e6:sealE j.rh j.ru j.now=6:=e
 have ho:zfl j.now=false:=by
  cases hb:zfl j.now with
  |false=>rfl
  |true=>exact absurd (.inr hb) h1
 have hn:=zx9 p.good
 have hm:=p.room (by rw[zjl,ho];simpa using h2)
 unfold sealE at e6
 rw[if_neg (by rw[hR,p.good,ho];simp),takeE] at e6
 split at e6
 ·cases e6
 split at e6
 ·omega
 ·cases e6
end
theorem z1a {j:Jn}(h:PJ j)(a:Ac)(hk:a.kind=6):(doJ j a).2.code≠6:=by
 obtain⟨D,h1,h2,h3⟩:=h
 rw[doJ]
 split
 ·intro e;cases e
 ·have hb:=h1.bump (x:=j.acts+1) (by omega)
  rw[zi2,if_neg (by omega),if_neg (by omega),if_neg (by omega),if_neg (by omega)]
  split
  ·intro e;cases e
  ·rename_i hd
   rw[zas,if_neg (by omega),if_neg (by omega),if_neg (by omega),if_neg (by omega),if_neg (by omega),if_pos hk]
   exact hb.commit6.resolve_right hd
theorem PJ.ringR {j:Jn}(h:PJ j):zfe j.rh j.ru=true:=by
 obtain⟨D,h1,h2,h3⟩:=h
 exact h1.ringR
theorem PJ.space {j:Jn}(h:PJ j)(hu:j.down=false):za2 j.now=true∧j.last<j.now.seq∧(zjl j.now=true→zc0 (askedN j.now)≤24 - j.ru):=by
 obtain⟨D,h1,h2,h3⟩:=h
 have p:=h1.pow hu
 exact⟨p.good,h1.behind hu,p.room⟩
def ac0:Ac:=⟨0,0,0,0,⟨#[]⟩⟩
def ActAt (w:World)(b o:Nat)(x:Ac):Prop:=
 w.cell? ⟨b,o,none⟩=some (.int .i64 x.kind)∧w.cell? ⟨b,o+1,none⟩=some (.int .i64 x.h)∧w.cell? ⟨b,o+2,none⟩=some (.int .i64 x.b)∧w.cell? ⟨b,o+3,none⟩=some (.int .i64 x.n)∧w.cell? ⟨b,o+4,none⟩=some (.string x.text)
def SegA (w:World)(a:Option Addr)(l:List Ac):Prop:=l=[]∨∃b off,a=some ⟨b,off,none⟩∧b<w.heap.size∧∀i,i<l.length→ActAt w b (off+i*5) (l.getD i ac0)
theorem ActAt.ext {w w':World}{b o:Nat}{x:Ac}(h:ActAt w b o x)(e:Ext w w'):ActAt w' b o x:=⟨e.cell _ _ _ h.1,e.cell _ _ _ h.2.1,e.cell _ _ _ h.2.2.1,e.cell _ _ _ h.2.2.2.1,e.cell _ _ _ h.2.2.2.2⟩
theorem SegA.ext {w w':World}{a:Option Addr}{l:List Ac}(h:SegA w a l)(e:Ext w w'):SegA w' a l:=by
 rcases h with h|⟨b,off,rfl,hlt,hc⟩
 ·exact .inl h
 ·exact .inr ⟨b,off,rfl,Nat.lt_of_lt_of_le hlt e.size,fun i hi=>(hc i hi).ext e⟩
structure OkA (x:Ac):Prop where
 n:x.n≤9223372036854775807
 text:x.text.size≤maxLen
def jOf (l:List Ac)(k:Nat):Jn:=(l.take k).foldl (fun j a=>(doJ j a).1) zzi
def rOf (l:List Ac)(k:Nat):Rp:=(doJ (jOf l k) (l.getD k ac0)).2
theorem z1b (l:List Ac):jOf l 0=zzi:=by rw[jOf,List.take_zero];rfl
theorem zto {l:List Ac}{k:Nat}(h:k<l.length):jOf l (k+1)=(doJ (jOf l k) (l.getD k ac0)).1:=by
 rw[jOf,List.take_add_one,List.getElem?_eq_getElem h,List.foldl_append,List.getD,List.getElem?_eq_getElem h]
 rfl
theorem zzd (l:List Ac)(k:Nat):PJ (jOf l k):=by
 unfold jOf
 generalize l.take k=q
 have:∀(q:List Ac) (j:Jn),PJ j→PJ (q.foldl (fun j a=>(doJ j a).1) j):=by
  intro q
  induction q with
  |nil=>intro j h;exact h
  |cons a q ih=>intro j h;exact ih _ (h.do a)
 exact this q _ PJ.new
def played (l:List Ac):Nat:=min l.length 150
def z3l (B:Nat)(b:Nat)(off:Nat)(k:Nat)(x:Ac)(r:Rp)(look:Value)(c:Nat)(l:List Ac):Nat→Value→World→Prop
 |0,v,_=>v=look
 |1,v,_=>v=.pointer (some ⟨B,0,none⟩)
 |2,v,_=>v=.slice (some ⟨b,off,none⟩) l.length c
 |3,v,_=>v=.int .i64 k
 |4,v,_=>v=.pointer (some ⟨b,off+k*5,none⟩)
 |5,v,_=>v=.agg #[.int .i64 x.kind,.int .i64 x.h,.int .i64 x.b,.int .i64 x.n,.string x.text]
 |6,v,_=>v=.agg #[.int .i64 r.code,.int .i64 r.n,.string r.text]
 |_,_,_=>True
theorem z1c (look:Value)(g:Nat)(lk:Value→Value→Value→Array Value)
  (hent:∀(o:Oper) (ρ:Operand→Value) (w:World) (x y z:Value) (ts:Array TypeId),o.op=Op.call {callee:=.value (.tmp 28),args:=#[.tmp 29,.tmp 33,.tmp 34],argTypes:=ts}→ρ (.tmp 28)=look→ρ (.tmp 29)=x→ρ (.tmp 33)=y→ρ (.tmp 34)=z→(execOp ρ o).run Tryz.prog w=.ok (.enter g (lk x y z)) w)
  (a:Option Addr) (c:Nat) (l:List Ac) (w:World) (LX:List Nat) (hA:SegA (zao w LX) a l) (hlen:l.length≤maxLen) (hok:∀x∈l,OkA x) (hLX:∀x∈LX,x<w.heap.size)
  (S:Nat→World→Prop) (hS0:S 0 w) (hSb:∀k W W' B,S k W→w.heap.size≤B→w.heap.size≤W.heap.size→ButL [B] W.heap.size W W'→S k W')
  (hL:∀k W B,k<played l→w.heap.size≤B→S k W→JAt W B (B::LX) (jOf l (k+1))→(∀x∈(B::LX),x<W.heap.size)→Calls Tryz.prog g (lk (.pointer (some ⟨B,0,none⟩)) (.agg #[.int .i64 (l.getD k ac0).kind,.int .i64 (l.getD k ac0).h,.int .i64 (l.getD k ac0).b,.int .i64 (l.getD k ac0).n,.string (l.getD k ac0).text]) (.agg #[.int .i64 (rOf l k).code,.int .i64 (rOf l k).n,.string (rOf l k).text])) W fun e W'=>e=.returned (.bool true)∧S (k+1) W'∧JAt W' B (B::LX) (jOf l (k+1))∧ButL LX w.heap.size W W'∧W.heap.size≤W'.heap.size):
  Calls Tryz.prog 21 #[.slice a l.length c,look] w fun e w'=>∃B,e=.returned (.tuple #[.pointer (some ⟨B,0,none⟩),.bool true])∧w.heap.size≤B∧S (played l) w'∧JAt w' B (B::LX) (jOf l (played l))∧ButL LX w.heap.size w w':=by
 have HA:=zaa hA
 have HOK:=zaa hok
 have HLX:=zaa hLX
 have HS0:=zaa hS0
 have HSB:=zaa hSb
 have HL:=zaa hL
 have HENT:=zaa hent
 clear hA hok hLX hS0 hSb hL hent
 unfold maxLen at hlen
 go_enter Tryz.func21,Tryz.ntmps21
 go_wp2_with fail
 refine(zzc _).mono ?_
 rintro e w1 ⟨rfl,hb1⟩
 have HB1:=zaa hb1
 clear hb1
 go_wp2_with fail
 refine(ztm _).mono ?_
 rintro e w2 ⟨B,rfl,hB0,hJ,hbn⟩
 have hs1:w.heap.size≤w1.heap.size:=HB1.o.size
 have HJ2:=zaa (hJ LX (fun x hx=>Nat.lt_of_lt_of_le (HLX.o x hx) hs1))
 have HB2:=zaa (zad HB1.o hbn)
 have hBw:w.heap.size≤B:=by omega
 have HS2:Hid (S 0 w2):=HSB.o 0 w w2 B HS0.o hBw (Nat.le_refl _) (ButL.of_below HB2.o)
 clear hJ hbn
 go_wp2
 go_loopw [7] (fun i wr=>∃k:Nat,k≤played l∧i=.int .i64 k∧Hid (S k wr)∧Hid (JAt wr B (B::LX) (jOf l k))∧Hid (ButL LX w.heap.size w wr)) (fun i _=>l.length - (intOf i).toNat)
 case atStart=>exact⟨0,Nat.zero_le _,rfl,HS2,by rw[z1b];exact HJ2,ButL.of_below HB2.o⟩
 case round=>
  obtain⟨k,hk,rfl,HSr,HJr,HBr⟩:=hrel
  clear HJ2 HB2 HS2 HB1
  have hpl:played l=min l.length 150:=rfl
  by_cases hkp:k<played l
  ·have hk1:k<l.length:=by omega
   have hk2:k<150:=by omega
   have i1:(k:Int)<(l.length:Int):=by omega
   have i2:(k:Int)<150:=by omega
   have i0:(0:Int)≤(k:Int):=by omega
   obtain⟨b,off,rfl,hb,hc⟩:=(HA.o.ext (Ext.butL HBr.o)).resolve_left (fun e=>by rw[e] at hk1;simp at hk1)
   obtain⟨x,hx⟩:∃x,x=l.getD k ac0:=⟨_,rfl⟩
   have hca:=hc k hk1
   rw[←hx] at hca
   obtain⟨hnL,e0⟩:=zbs hca.1
   have e1:=(zbs hca.2.1).2
   have e2:=(zbs hca.2.2.1).2
   have e3:=(zbs hca.2.2.2.1).2
   have e4:=(zbs hca.2.2.2.2).2
   have P00:=zaa e0
   have P10:=zaa e1
   have P20:=zaa e2
   have P30:=zaa e3
   have P40:=zaa e4
   have hbr:b<wr.heap.size:=by rw[zbe] at hb;exact hb
   have hbw:b<w.heap.size:=by
    rcases HA.o with e|⟨b2,off2,he,hb2,_⟩
    ·rw[e] at hk1;simp at hk1
    ·cases he;rw[zbe] at hb2;exact hb2
   have HX:=zaa hx
   have hxm:OkA x:=HOK.o x (by rw[hx,List.getD,List.getElem?_eq_getElem hk1];exact List.getElem_mem hk1)
   have HXM:=zaa hxm
   have hsr:w.heap.size≤wr.heap.size:=HBr.o.size
   clear hc hca hx hb hxm
   go_wp2_with fail
   refine(zli B (B::LX) (jOf l k) wr HJr.o (fun y hy=>?_) (zzd l k).ready x HXM.o.n HXM.o.text).mono ?_
   ·rcases List.mem_cons.1 hy with rfl|hy
    ·exact HJr.o.lt
    ·have:=HLX.o y hy;omega
   rintro e wq ⟨rfl,hJq,hBq⟩
   have hrE:(doJ (jOf l k) x).2=rOf l k:=by rw[rOf,HX.o]
   have hjE:(doJ (jOf l k) x).1=jOf l (k+1):=by rw[zto hk1,HX.o]
   rw[hjE] at hJq
   rw[hrE]
   obtain⟨r,hr⟩:∃r,r=rOf l k:=⟨_,rfl⟩
   rw[←hr]
   rw[show vRp r=.agg #[.int .i64 r.code,.int .i64 r.n,.string r.text] from rfl]
   have HRR:=zaa hr
   have hsq:wr.heap.size≤wq.heap.size:=hBq.size
   have hbq:wq.heap[b]?=wr.heap[b]?:=hBq.block b hbr (by simp;omega)
   have P01:=zaa ((World.cell?_of_block hbq).trans P00.o)
   have P11:=zaa ((World.cell?_of_block hbq).trans P10.o)
   have P21:=zaa ((World.cell?_of_block hbq).trans P20.o)
   have P31:=zaa ((World.cell?_of_block hbq).trans P30.o)
   have P41:=zaa ((World.cell?_of_block hbq).trans P40.o)
   have HSq:=zaa (HSB.o k wr wq B HSr.o hBw hsr hBq)
   have HBq2:Hid (ButL LX w.heap.size w wq):=HBr.o.trans hBq hsr (by simp;omega)
   clear hrE hjE hr hBq hbq e0 e1 e2 e3 e4
   go_wp2
   rename_i KK hKK
   obtain⟨W1,hW1⟩:∃W1,W1=wq.alloc (.cells #[.int .i64 r.code,.int .i64 r.n,.string r.text] 31):=⟨_,rfl⟩
   rw[←hW1]
   have hbW:Below wq.heap.size wq W1:=by rw[hW1];exact below1 _ _
   have KRb:W1.heap[wq.heap.size]?=some (.cells #[.int .i64 r.code,.int .i64 r.n,.string r.text] 31 (0,0)):=by rw[hW1];exact heap_alloc_new _ _
   have Q0:Hid (W1.cell? ⟨wq.heap.size,0,none⟩=some (.int .i64 r.code)):=(cell_of_row W1 _ 0 _ _ _ KRb).trans rfl
   have Q1:Hid (W1.cell? ⟨wq.heap.size,1,none⟩=some (.int .i64 r.n)):=(cell_of_row W1 _ 1 _ _ _ KRb).trans rfl
   have Q2:Hid (W1.cell? ⟨wq.heap.size,2,none⟩=some (.string r.text)):=(cell_of_row W1 _ 2 _ _ _ KRb).trans rfl
   have P0:=zaa (zab hbW (show b<wq.heap.size by omega) P01.o)
   have P1:=zaa (zab hbW (show b<wq.heap.size by omega) P11.o)
   have P2:=zaa (zab hbW (show b<wq.heap.size by omega) P21.o)
   have P3:=zaa (zab hbW (show b<wq.heap.size by omega) P31.o)
   have P4:=zaa (zab hbW (show b<wq.heap.size by omega) P41.o)
   have hs1:W1.heap.size=wq.heap.size+1:=by rw[hW1];simp
   have hRW:wq.heap.size<W1.heap.size:=by omega
   have hbW1:b<W1.heap.size:=by omega
   have HLK:Hid (∀W,Below W1.heap.size W1 W→Calls Tryz.prog g (lk (.pointer (some ⟨B,0,none⟩)) (.agg #[.int .i64 x.kind,.int .i64 x.h,.int .i64 x.b,.int .i64 x.n,.string x.text]) (.agg #[.int .i64 r.code,.int .i64 r.n,.string r.text])) W fun e W'=>e=.returned (.bool true)∧S (k+1) W'∧JAt W' B (B::LX) (jOf l (k+1))∧ButL LX w.heap.size w W'∧W.heap.size≤W'.heap.size):=by
    intro W hR
    have hbb:=zad hbW hR
    have h1:=HL.o k W B hkp hBw (HSB.o k wq W B HSq.o hBw (by omega) (ButL.of_below hbb)) (hJq.below hbb) (fun y hy=>by
     have h2:=hbb.size
     rcases List.mem_cons.1 hy with rfl|hy
     ·have:=hJq.lt;omega
     ·have:=HLX.o y hy;omega)
    rw[←HX.o,←HRR.o] at h1
    refine h1.mono ?_
    rintro e W' ⟨h3,h4,h5,h6,h7⟩
    exact⟨h3,h4,h5,(HBq2.o.trans (Y:=[]) (ButL.of_below hbb) (by omega) (by simp)).trans h6 (Nat.le_refl _) (by intro y hy;exact .inl hy),h7⟩
   have hbW:=hbW1
   have TAIL:∀(g:Nat→Value) (W':World),S (k+1) W'→JAt W' B (B::LX) (jOf l (k+1))→ButL LX w.heap.size w W'→True→KK ⟨#[.slice (some ⟨b,off,none⟩) l.length c,look,undef,undef,g 4,g 5,.pointer (some ⟨B,0,none⟩),.int .i64 (k:Int),g 8,.bool true,.bool false,.pointer (some ⟨B,0,none⟩),g 12,g 13,g 14,g 15,g 16,g 17,g 18,g 19,g 20,g 21,g 22,g 23,g 24,g 25,g 26,g 27,g 28,g 29,g 30,g 31,g 32,g 33,g 34,g 35,.bool false,g 37,undef],[]⟩ W':=by
    intro g W' hS' hJ' hB' _
    apply hKK
    clear hKK
    have HS':=zaa hS'
    have HJ':=zaa hJ'
    have HB':=zaa hB'
    clear hS' hJ' hB'
    go_wp2
    go_roundw
    case rel=>exact⟨k+1,by omega,by go_num,HS',HJ',HB'⟩
    case measure=>first|(simp[intOf];omega)|simp[intOf]
   have HTAIL:=zaa TAIL
   clear TAIL hKK
   refine(show∀A0:Act,A0=_→Code.wp Tryz.prog _ _ A0 _ from fun A0 hA0=>?_) _ rfl
   have hsz:A0.tmps.size=39:=by rw[hA0];rfl
   have hdf:A0.defers=[]:=by rw[hA0]
   have v0:A0.eval (.tmp 0)=.slice (some ⟨b,off,none⟩) l.length c:=by rw[hA0];rfl
   have v1:A0.eval (.tmp 1)=look:=by rw[hA0];rfl
   have v2:A0.eval (.tmp 2)=undef:=by rw[hA0];rfl
   have v3:A0.eval (.tmp 3)=undef:=by rw[hA0];rfl
   have v6:A0.eval (.tmp 6)=.pointer (some ⟨B,0,none⟩):=by rw[hA0];rfl
   have v7:A0.eval (.tmp 7)=.int .i64 (k:Int):=by rw[hA0];rfl
   have v9:A0.eval (.tmp 9)=.bool true:=by rw[hA0];rfl
   have v10:A0.eval (.tmp 10)=.bool false:=by rw[hA0];rfl
   have v11:A0.eval (.tmp 11)=.pointer (some ⟨B,0,none⟩):=by rw[hA0];rfl
   have v38:A0.eval (.tmp 38)=undef:=by rw[hA0];rfl
   have v8:A0.eval (.tmp 8)=.pointer (some ⟨wq.heap.size,0,none⟩):=by rw[hA0];rfl
   clear hA0
   refine za8 7 (fun w'=>Below W1.heap.size W1 w') [28,29,30,31,32,33,34] (z3l B b off k x r look c l) (by kernel_rfl) (by kernel_rfl) (by kernel_rfl) (by kernel_rfl) (by decide) ((Below.refl _ _).drew) ⟨?_,?_,?_,?_,?_,?_,?_,trivial⟩ ?_
   ·intro a w' hF hR hp
    have z1:=(hF.other 1 rfl).trans v1
    exact zah _ rfl rfl (by revert z1;generalize a.eval=ρ;intro z1;simp only[execOp];go_simp) hF hsz hR rfl
   ·intro a w' hF hR hp
    have z6:=(hF.other 6 rfl).trans v6
    exact zah _ rfl rfl (by revert z6;generalize a.eval=ρ;intro z6;simp only[execOp];go_simp) hF hsz hR rfl
   ·intro a w' hF hR hp
    have z0:=(hF.other 0 rfl).trans v0
    exact zah _ rfl rfl (by revert z0;generalize a.eval=ρ;intro z0;simp only[execOp];go_simp) hF hsz hR rfl
   ·intro a w' hF hR hp
    have z7:=(hF.other 7 rfl).trans v7
    exact zah _ rfl rfl (by revert z7;generalize a.eval=ρ;intro z7;simp only[execOp];go_simp) hF hsz hR rfl
   ·intro a w' hF hR hp
    have p30:a.eval (.tmp 30)=.slice (some ⟨b,off,none⟩) l.length c:=hp ⟨2,.data⟩ (by simp) rfl
    have p31:a.eval (.tmp 31)=.int .i64 k:=hp ⟨3,.data⟩ (by simp) rfl
    exact zah _ rfl rfl (by revert p30 p31;generalize a.eval=ρ;intro p30 p31;simp only[execOp];go_simp) hF hsz hR rfl
   ·intro a w' hF hR hp
    have p32:a.eval (.tmp 32)=.pointer (some ⟨b,off+k*5,none⟩):=hp ⟨4,.data⟩ (by simp) rfl
    have c0:w'.cell? ⟨b,off+k*5,none⟩=some (.int .i64 x.kind):=zab hR hbW (P0.o)
    have c1:w'.cell? ⟨b,off+k*5+1,none⟩=some (.int .i64 x.h):=zab hR hbW (P1.o)
    have c2:w'.cell? ⟨b,off+k*5+2,none⟩=some (.int .i64 x.b):=zab hR hbW (P2.o)
    have c3:w'.cell? ⟨b,off+k*5+3,none⟩=some (.int .i64 x.n):=zab hR hbW (P3.o)
    have c4:w'.cell? ⟨b,off+k*5+4,none⟩=some (.string x.text):=zab hR hbW (P4.o)
    exact zah _ rfl rfl (by revert p32;generalize a.eval=ρ;intro p32;simp only[execOp];go_simp) hF hsz hR rfl
   ·intro a w' hF hR hp
    have z8:=(hF.other 8 rfl).trans v8
    have c0:w'.cell? ⟨wq.heap.size,0,none⟩=some (.int .i64 r.code):=zab hR hRW (Q0.o)
    have c1:w'.cell? ⟨wq.heap.size,1,none⟩=some (.int .i64 r.n):=zab hR hRW (Q1.o)
    have c2:w'.cell? ⟨wq.heap.size,2,none⟩=some (.string r.text):=zab hR hRW (Q2.o)
    exact zah _ rfl rfl (by revert z8;generalize a.eval=ρ;intro z8;simp only[execOp];go_simp) hF hsz hR rfl
   ·intro aa W hF hR hp
    have p28:aa.eval (.tmp 28)=look:=hp 0 (by decide)
    have p29:aa.eval (.tmp 29)=.pointer (some ⟨B,0,none⟩):=hp 1 (by decide)
    have p33:aa.eval (.tmp 33)=.agg #[.int .i64 x.kind,.int .i64 x.h,.int .i64 x.b,.int .i64 x.n,.string x.text]:=hp 5 (by decide)
    have p34:aa.eval (.tmp 34)=.agg #[.int .i64 r.code,.int .i64 r.n,.string r.text]:=hp 6 (by decide)
    have hsa:aa.tmps.size=39:=hF.size.trans hsz
    show wpOps Tryz.prog _ _ [7,8] aa W
    rw[wpOps_cons]
    refine zbh g (lk (.pointer (some ⟨B,0,none⟩)) (.agg #[.int .i64 x.kind,.int .i64 x.h,.int .i64 x.b,.int .i64 x.n,.string x.text]) (.agg #[.int .i64 r.code,.int .i64 r.n,.string r.text])) rfl rfl (HENT.o _ aa.eval W _ _ _ _ rfl p28 p29 p33 p34) _ (HLK.o W hR) ?_
    rintro e w5 ⟨rfl,hS5,hJ5,hB5,_⟩
    refine⟨_,rfl,?_⟩
    obtain⟨b1,hb1⟩:∃b1,b1=aa.put (some 35) (.bool true):=⟨_,rfl⟩
    have s35:b1.eval (.tmp 35)=.bool true:=by rw[hb1];exact Act.eval_put_same _ _ _ (by rw[hsa];decide)
    have hs1:b1.tmps.size=39:=by rw[hb1,Act.size_put];exact hsa
    show wpOps Tryz.prog _ _ [8] (aa.put (some 35) (.bool true)) w5
    rw[←hb1,wpOps_cons]
    refine za1 (.bool false) rfl rfl (by revert s35;generalize b1.eval=ρ;intro s35;simp only[execOp];go_simp) ?_
    obtain⟨b2,hb2⟩:∃b2,b2=b1.put (some 36) (.bool false):=⟨_,rfl⟩
    have f36:b2.eval (.tmp 36)=.bool false:=by rw[hb2];exact Act.eval_put_same _ _ _ (by rw[hs1];decide)
    have f0:b2.eval (.tmp 0)=.slice (some ⟨b,off,none⟩) l.length c:=by rw[hb2,Act.eval_put_ne _ _ _ _ (by decide),hb1,Act.eval_put_ne _ _ _ _ (by decide)];exact(hF.other 0 rfl).trans v0
    have f1:b2.eval (.tmp 1)=look:=by rw[hb2,Act.eval_put_ne _ _ _ _ (by decide),hb1,Act.eval_put_ne _ _ _ _ (by decide)];exact(hF.other 1 rfl).trans v1
    have f2:b2.eval (.tmp 2)=undef:=by rw[hb2,Act.eval_put_ne _ _ _ _ (by decide),hb1,Act.eval_put_ne _ _ _ _ (by decide)];exact(hF.other 2 rfl).trans v2
    have f3:b2.eval (.tmp 3)=undef:=by rw[hb2,Act.eval_put_ne _ _ _ _ (by decide),hb1,Act.eval_put_ne _ _ _ _ (by decide)];exact(hF.other 3 rfl).trans v3
    have f6:b2.eval (.tmp 6)=.pointer (some ⟨B,0,none⟩):=by rw[hb2,Act.eval_put_ne _ _ _ _ (by decide),hb1,Act.eval_put_ne _ _ _ _ (by decide)];exact(hF.other 6 rfl).trans v6
    have f7:b2.eval (.tmp 7)=.int .i64 (k:Int):=by rw[hb2,Act.eval_put_ne _ _ _ _ (by decide),hb1,Act.eval_put_ne _ _ _ _ (by decide)];exact(hF.other 7 rfl).trans v7
    have f9:b2.eval (.tmp 9)=.bool true:=by rw[hb2,Act.eval_put_ne _ _ _ _ (by decide),hb1,Act.eval_put_ne _ _ _ _ (by decide)];exact(hF.other 9 rfl).trans v9
    have f10:b2.eval (.tmp 10)=.bool false:=by rw[hb2,Act.eval_put_ne _ _ _ _ (by decide),hb1,Act.eval_put_ne _ _ _ _ (by decide)];exact(hF.other 10 rfl).trans v10
    have f11:b2.eval (.tmp 11)=.pointer (some ⟨B,0,none⟩):=by rw[hb2,Act.eval_put_ne _ _ _ _ (by decide),hb1,Act.eval_put_ne _ _ _ _ (by decide)];exact(hF.other 11 rfl).trans v11
    have f38:b2.eval (.tmp 38)=undef:=by rw[hb2,Act.eval_put_ne _ _ _ _ (by decide),hb1,Act.eval_put_ne _ _ _ _ (by decide)];exact(hF.other 38 rfl).trans v38
    have hlit:b2=⟨#[_,_,_,_,_,_,_,_,_,_,_,_,_,_,_,_,_,_,_,_,_,_,_,_,_,_,_,_,_,_,_,_,_,_,_,_,_,_,_],[]⟩:=zb5 b2 39 (by rw[hb2,Act.size_put];exact hs1) (by rw[hb2,Act.defers_put',hb1,Act.defers_put'];exact hF.defers.trans hdf)
    dsimp only at hlit
    rw[f0,f1,f2,f3,f6,f7,f9,f10,f11,f36,f38] at hlit
    show KK (b1.put (some 36) (.bool false)) _
    rw[←hb2]
    exact(congrArg (fun y=>KK y _) hlit).mpr (HTAIL.o (fun k=>b2.eval (.tmp k)) _ hS5 hJ5 hB5 trivial)
  ·have hkn:k=played l:=by omega
   subst hkn
   have hfin:¬((played l:Int)<(l.length:Int))∨¬((played l:Int)<150):=by omega
   clear hpl
   rcases Classical.em ((played l:Int)<(l.length:Int)) with i1|i1
   ·have i2:¬((played l:Int)<150):=by omega
    clear hfin
    go_wp2
    refine bodyPost_ret (results_tmp2 rfl _ _ _) rfl ⟨B,rfl,hBw,HSr.o,HJr.o,HBr.o⟩
   ·clear hfin
    go_wp2
    refine bodyPost_ret (results_tmp2 rfl _ _ _) rfl ⟨B,rfl,hBw,HSr.o,HJr.o,HBr.o⟩
def zlk (T:Nat)(t:Tx)(j:Jn)(na:Option Addr)(nc:Nat)(nb:Option Addr)(nd:Nat)(ne:Option Addr)(nf:Nat):Nat→Value→World→Prop
 |0,v,_=>v=.agg #[.int .i64 t.seq,.slice na t.info.length nc,.slice nb t.data.length nd,.slice ne t.rev.length nf,.bool t.h0.on,.int .i64 t.h0.left,.bool t.h1.on,.int .i64 t.h1.left,.bool t.h2.on,.int .i64 t.h2.left]
 |1,v,_=>v=.bool true
 |2,v,_=>v=.bool true
 |3,v,_=>v=.pointer (some ⟨T,0,none⟩)
 |4,v,_=>v=.int .i64 t.seq
 |5,v,_=>v=.int .i64 j.last
 |6,v,_=>v=.bool true
 |7,v,_=>v=.bool true
 |8,v,_=>v=.bool true
 |9,v,_=>v=.bool true
 |10,v,_=>v=.bool false
 |11,v,_=>v=.bool false
 |12,v,_=>v=.agg #[.int .i64 t.seq,.slice na t.info.length nc,.slice nb t.data.length nd,.slice ne t.rev.length nf,.bool t.h0.on,.int .i64 t.h0.left,.bool t.h1.on,.int .i64 t.h1.left,.bool t.h2.on,.int .i64 t.h2.left]
 |13,v,_=>v=.int .i64 (askedN t)
 |14,v,_=>v=.int .i64 (zc0 (askedN t))
 |15,v,_=>v=.agg #[.int .i64 j.rh,.int .i64 j.ru]
 |16,v,_=>v=.int .i64 (24 - j.ru)
 |17,v,_=>v=.bool true
 |18,v,_=>v=.bool true
 |19,v,_=>v=.bool true
 |20,v,_=>v=.bool true
 |_,_,_=>True
theorem zgl {T:Nat}{t:Tx}{j:Jn}{na:Option Addr}{nc:Nat}{nb:Option Addr}{nd:Nat}{ne:Option Addr}{nf:Nat}{w w':World}(_hb:Below w.heap.size w w'){i:Nat}:∀kk uu,kk≠i→zlk T t j na nc nb nd ne nf kk uu w→zlk T t j na nc nb nd ne nf kk uu w':=by
 intro kk uu _ h
 match kk,h with
 |0,h|1,h|2,h|3,h|4,h|5,h|6,h|7,h|8,h|9,h|10,h|11,h|12,h|13,h|14,h|15,h|16,h|17,h|18,h|19,h|20,h=>exact h
 |_+21,_=>exact trivial
def ztp (T:Nat)(t:Tx)(j:Jn)(na:Option Addr)(nc:Nat)(nb:Option Addr)(nd:Nat)(ne:Option Addr)(nf:Nat):Nat→Value→World→Prop
 |0,v,_=>v=.agg #[.int .i64 t.seq,.slice na t.info.length nc,.slice nb t.data.length nd,.slice ne t.rev.length nf,.bool t.h0.on,.int .i64 t.h0.left,.bool t.h1.on,.int .i64 t.h1.left,.bool t.h2.on,.int .i64 t.h2.left]
 |1,v,_=>v=.bool true
 |2,v,_=>v=.bool true
 |3,v,_=>v=.pointer (some ⟨T,0,none⟩)
 |4,v,_=>v=.int .i64 t.seq
 |5,v,_=>v=.int .i64 j.last
 |6,v,_=>v=.bool true
 |7,v,_=>v=.bool true
 |8,v,_=>v=.bool true
 |9,v,_=>v=.bool false
 |10,v,_=>v=.bool true
 |11,v,_=>v=.bool true
 |12,_,_=>True
 |13,_,_=>True
 |14,_,_=>True
 |15,_,_=>True
 |16,_,_=>True
 |17,_,_=>True
 |18,v,_=>v=.bool true
 |19,v,_=>v=.bool true
 |20,v,_=>v=.bool true
 |_,_,_=>True
theorem zqr {T:Nat}{t:Tx}{j:Jn}{na:Option Addr}{nc:Nat}{nb:Option Addr}{nd:Nat}{ne:Option Addr}{nf:Nat}{w w':World}(_hb:Below w.heap.size w w'){i:Nat}:∀kk uu,kk≠i→ztp T t j na nc nb nd ne nf kk uu w→ztp T t j na nc nb nd ne nf kk uu w':=by
 intro kk uu _ h
 match kk,h with
 |0,h|1,h|2,h|3,h|4,h|5,h|6,h|7,h|8,h|9,h|10,h|11,h|12,h|13,h|14,h|15,h|16,h|17,h|18,h|19,h|20,h=>exact h
 |_+21,_=>exact trivial
theorem PJ.reachN {j:Jn}(h:PJ j):zv7 j.now∧j.now.rev.length≤12:=by
 have hR:=h.ready
 obtain⟨D,h1,_,_⟩:=h
 have hrv:j.now.rev.length≤12:=by
  by_cases hu:j.down=false
  ·exact(zar (h1.pow hu).good).2.2
  ·cases h1 with
   |idle p=>exact absurd p.up hu
   |commit P U k p=>exact absurd p.up hu
   |check k p=>exact absurd p.up hu
   |off l N P U p=>rw[p.now];exact Nat.zero_le _
   |back U k p=>rw[p.now];exact Nat.zero_le _
 exact⟨⟨by have:=hR.info;omega,by have:=hR.data;omega,by omega⟩,hrv⟩
theorem zog (B:Nat)(X:List Nat)(j:Jn)(x:Ac)(r:Rp)(w:World)(hJ:JAt w B X j)(hP:PJ j)(hk6:x.kind=6→r.code≠6):
  Calls Tryz.prog 28 #[.pointer (some ⟨B,0,none⟩),.agg #[.int .i64 x.kind,.int .i64 x.h,.int .i64 x.b,.int .i64 x.n,.string x.text],.agg #[.int .i64 r.code,.int .i64 r.n,.string r.text]] w fun e w'=>e=.returned (.bool true)∧Below w.heap.size w w':=by
 have HJ:=zaa hJ
 have HRE:=zaa hP.reachN
 have HSP:=zaa hP.space
 have HGR:=zaa hP.ringR
 have HRD:=zaa hP.ready
 clear hJ hP
 obtain⟨W0,hW0⟩:∃W0,W0=(w.alloc (.cells #[.int .i64 x.kind,.int .i64 x.h,.int .i64 x.b,.int .i64 x.n,.string x.text] 23)).alloc (.cells #[.int .i64 r.code,.int .i64 r.n,.string r.text] 31):=⟨_,rfl⟩
 have HB0:Hid (Below w.heap.size w W0):=by rw[hW0];exact zad (below1 _ _) (below1 _ _)
 have hz1:(w.alloc (.cells #[.int .i64 x.kind,.int .i64 x.h,.int .i64 x.b,.int .i64 x.n,.string x.text] 23)).heap.size=w.heap.size+1:=by simp
 have KA:Hid (W0.heap[w.heap.size]?=some (.cells #[.int .i64 x.kind,.int .i64 x.h,.int .i64 x.b,.int .i64 x.n,.string x.text] 23 (0,0))):=by rw[hW0];exact zac (below1 _ _) (by omega) (heap_alloc_new _ _)
 have KR:Hid (W0.heap[w.heap.size+1]?=some (.cells #[.int .i64 r.code,.int .i64 r.n,.string r.text] 31 (0,0))):=by rw[hW0,←hz1];exact heap_alloc_new _ _
 have hs0:W0.heap.size=w.heap.size+2:=by rw[hW0];simp
 have HW0:=zaa hW0
 clear hW0 hz1
 go_enter Tryz.func28,Tryz.ntmps28
 go_wp2_with fail
 rw[←HW0.o]
 clear HW0
 refine(zze B X j W0 (HJ.o.below HB0.o)).mono ?_
 rintro e w1 ⟨rfl,hb1'⟩
 have HB1:=zaa (zad HB0.o hb1')
 have KA1:=zaa (zac hb1' (by omega) KA.o)
 have KR1:=zaa (zac hb1' (by omega) KR.o)
 have hs1:W0.heap.size≤w1.heap.size:=hb1'.size
 clear hb1' KA KR HB0
 go_wp2_with fail
 obtain⟨R,hR⟩:∃R,R=w1.heap.size:=⟨_,rfl⟩
 obtain⟨W1,hW1⟩:∃W1,W1=w1.alloc (.cells #[.int .i64 j.rh,.int .i64 j.ru] 26):=⟨_,rfl⟩
 have hbW:Below w1.heap.size w1 W1:=by rw[hW1];exact below1 _ _
 have hsW:W1.heap.size=R+1:=by rw[hW1,hR];simp
 have KX:Hid (W1.heap[R]?=some (.cells #[.int .i64 j.rh,.int .i64 j.ru] 26 (0,0))):=by rw[hW1,hR];exact heap_alloc_new _ _
 rw[←hW1,←hR]
 have HB1b:=zaa (zad HB1.o hbW)
 have KA1b:=zaa (zac hbW (by omega) KA1.o)
 have KR1b:=zaa (zac hbW (by omega) KR1.o)
 have hRw:w.heap.size+2≤R:=by omega
 clear hW1 KA1 KR1 HB1 hR hs1 hs0
 refine(zqq B X j W1 (HJ.o.below HB1b.o) HRE.o.1).mono ?_
 rintro e w2 ⟨v,rfl,hT,hb2⟩
 obtain⟨t,ht⟩:∃t,t=j.now:=⟨_,rfl⟩
 have HR1:Hid (t.info.length*24≤140737488355328):=by rw[ht];exact HRD.o.info
 have HR2:Hid (t.data.length*24≤140737488355328):=by rw[ht];exact HRD.o.data
 rw[←ht] at hT HSP HRE
 clear ht
 have HT2:=zaa hT
 obtain⟨na,nc,nb,nd,ne,nf,rfl,_,_,_,_,_,_⟩:=hT
 have HB2:=zaa (zad HB1b.o hb2)
 have KA2:=zaa (zac hb2 (by omega) KA1b.o)
 have KR2:=zaa (zac hb2 (by omega) KR1b.o)
 have KX2:=zaa (zac hb2 (by omega) KX.o)
 have hs2:W1.heap.size≤w2.heap.size:=hb2.size
 have hRl:R<w2.heap.size:=by omega
 clear hb2 KA1b KR1b KX HB1b hbW hsW hs2
 have e0:=(cell_of_row w2 _ 0 _ _ _ KX2.o).trans rfl
 have e1:=(cell_of_row w2 _ 1 _ _ _ KX2.o).trans rfl
 go_wp2_with fail
 rename_i KK hKK K1 hK1 K0 hK0
 obtain⟨T,hTT⟩:∃T,T=w2.heap.size:=⟨_,rfl⟩
 obtain⟨W2,hW2⟩:∃W2,W2=w2.alloc (.cells #[.int .i64 t.seq,.slice na t.info.length nc,.slice nb t.data.length nd,.slice ne t.rev.length nf,.bool t.h0.on,.int .i64 t.h0.left,.bool t.h1.on,.int .i64 t.h1.left,.bool t.h2.on,.int .i64 t.h2.left] 40):=⟨_,rfl⟩
 have hbW:Below w2.heap.size w2 W2:=by rw[hW2];exact below1 _ _
 have KT:Hid (W2.heap[T]?=some (.cells #[.int .i64 t.seq,.slice na t.info.length nc,.slice nb t.data.length nd,.slice ne t.rev.length nf,.bool t.h0.on,.int .i64 t.h0.left,.bool t.h1.on,.int .i64 t.h1.left,.bool t.h2.on,.int .i64 t.h2.left] 40 (0,0))):=by rw[hW2,hTT];exact heap_alloc_new _ _
 have hsW:W2.heap.size=T+1:=by rw[hW2,hTT];simp
 rw[←hW2,←hTT]
 have HT3:=zaa (HT2.o.below hbW)
 have HB3:=zaa (zad HB2.o hbW)
 have KA3:=zaa (zac hbW (by omega) KA2.o)
 have KR3:=zaa (zac hbW (by omega) KR2.o)
 have KX3:=zaa (zac hbW (by omega) KX2.o)
 have hTl:T<W2.heap.size:=by omega
 have hRW:R<W2.heap.size:=by omega
 have hwW:w.heap.size+1<W2.heap.size:=by omega
 clear hW2 hTT hbW hsW HT2 HB2 KA2 KR2 KX2 e0 e1 hRl
 have TAIL:∀(g0 g1 g2 g3 g4 g5 g6 g11 g12 g13 g14 g15 g16 g17 g18 g19 g20 g21 g22 g23 g24 g25 g26 g27 g28 g29 g30 g31 g32 g33 g34 g35 g36 g37 g38 g39 g40 g41 g42 g43 g44 g45 g46 g47 g48 g49 g50 g51 g52 g53 g54 g55 g56 g57 g58 g59 g60 g61 g62 g63 g64 g65 g66 g67 g68 g69:Value) (W':World),Below W2.heap.size W2 W'→KK ⟨#[g0,g1,g2,g3,g4,g5,g6,.pointer (some ⟨R,0,none⟩),.int .i64 j.last,.bool j.down,.pointer (some ⟨T,0,none⟩),g11,g12,g13,g14,g15,g16,g17,g18,g19,g20,g21,g22,g23,g24,g25,g26,g27,g28,g29,g30,g31,g32,g33,g34,g35,g36,g37,g38,g39,g40,g41,g42,g43,g44,g45,g46,g47,g48,g49,g50,g51,g52,g53,g54,g55,g56,g57,g58,g59,g60,g61,g62,g63,g64,g65,g66,g67,g68,g69],[]⟩ W':=by
  intro g0 g1 g2 g3 g4 g5 g6 g11 g12 g13 g14 g15 g16 g17 g18 g19 g20 g21 g22 g23 g24 g25 g26 g27 g28 g29 g30 g31 g32 g33 g34 g35 g36 g37 g38 g39 g40 g41 g42 g43 g44 g45 g46 g47 g48 g49 g50 g51 g52 g53 g54 g55 g56 g57 g58 g59 g60 g61 g62 g63 g64 g65 g66 g67 g68 g69 W3 hb3
  apply hKK
  clear hKK hk6
  cases hd:j.down with
  |true=>
   go_wp2
   go_ret
   exact⟨rfl,zad HB3.o hb3⟩
  |false=>
   obtain⟨hgd,hlt2,hroom⟩:=HSP.o hd
   have HGD:=zaa hgd
   have HROOM:=zaa hroom
   clear hgd hroom hd
   have KT4:=zaa (zac hb3 hTl KT.o)
   have HT4:=zaa (HT3.o.below hb3)
   obtain⟨⟨t0,t1,t2,t3,t4,t5,t6,t7,t8,t9⟩,_⟩:=zaf KT4.o
   have hs3:W2.heap.size≤W3.heap.size:=hb3.size
   have hT3:T<W3.heap.size:=by omega
   go_wp2_with fail
   rename_i K8 hK8 K7 hK7
   have TAIL8:∀(b:Bool) (g0 g1 g2 g3 g4 g5 g6 g9 g12 g13 g14 g15 g16 g17 g18 g19 g20 g21 g22 g23 g24 g25 g26 g27 g28 g29 g30 g31 g32 g33 g34 g35 g36 g37 g38 g39 g40 g41 g42 g43 g44 g45 g46 g47 g48 g49 g50 g51 g52 g53 g54 g55 g56 g57 g58 g59 g60 g61 g62 g63 g64 g65 g66 g67 g68 g69:Value) (W:World),(b=true→zc0 (askedN t)≤24 - j.ru)→Below W3.heap.size W3 W→K8 ⟨#[g0,g1,g2,g3,g4,g5,g6,.pointer (some ⟨R,0,none⟩),.int .i64 j.last,g9,.pointer (some ⟨T,0,none⟩),.bool b,g12,g13,g14,g15,g16,g17,g18,g19,g20,g21,g22,g23,g24,g25,g26,g27,g28,g29,g30,g31,g32,g33,g34,g35,g36,g37,g38,g39,g40,g41,g42,g43,g44,g45,g46,g47,g48,g49,g50,g51,g52,g53,g54,g55,g56,g57,g58,g59,g60,g61,g62,g63,g64,g65,g66,g67,g68,g69],[]⟩ W:=by
    intro b g0 g1 g2 g3 g4 g5 g6 g9 g12 g13 g14 g15 g16 g17 g18 g19 g20 g21 g22 g23 g24 g25 g26 g27 g28 g29 g30 g31 g32 g33 g34 g35 g36 g37 g38 g39 g40 g41 g42 g43 g44 g45 g46 g47 g48 g49 g50 g51 g52 g53 g54 g55 g56 g57 g58 g59 g60 g61 g62 g63 g64 g65 g66 g67 g68 g69 W hbm hb4
    apply hK8
    clear hK8 hK7 hK0 hK1
    have HB5:=zaa (zad (zad HB3.o hb3) hb4)
    have KT5:=zaa (zac hb4 hT3 KT4.o)
    have KX5:=zaa (zac hb4 (by omega) (zac hb3 hRW KX3.o))
    have HTX:=zaa (HT4.o.below hb4)
    have hs4:W3.heap.size≤W.heap.size:=hb4.size
    have hTW:T<W.heap.size:=by omega
    have hRX:R<W.heap.size:=by omega
    have hu0:=HRD.o.used0
    have hu1:=HRD.o.used1
    have CT0:Hid (W.cell? ⟨T,0,none⟩=some (.int .i64 t.seq)):=(cell_of_row W _ 0 _ _ _ KT5.o).trans rfl
    have CT1:Hid (W.cell? ⟨T,1,none⟩=some (.slice na t.info.length nc)):=(cell_of_row W _ 1 _ _ _ KT5.o).trans rfl
    have CT2:Hid (W.cell? ⟨T,2,none⟩=some (.slice nb t.data.length nd)):=(cell_of_row W _ 2 _ _ _ KT5.o).trans rfl
    have CT3:Hid (W.cell? ⟨T,3,none⟩=some (.slice ne t.rev.length nf)):=(cell_of_row W _ 3 _ _ _ KT5.o).trans rfl
    have CT4:Hid (W.cell? ⟨T,4,none⟩=some (.bool t.h0.on)):=(cell_of_row W _ 4 _ _ _ KT5.o).trans rfl
    have CT5:Hid (W.cell? ⟨T,5,none⟩=some (.int .i64 t.h0.left)):=(cell_of_row W _ 5 _ _ _ KT5.o).trans rfl
    have CT6:Hid (W.cell? ⟨T,6,none⟩=some (.bool t.h1.on)):=(cell_of_row W _ 6 _ _ _ KT5.o).trans rfl
    have CT7:Hid (W.cell? ⟨T,7,none⟩=some (.int .i64 t.h1.left)):=(cell_of_row W _ 7 _ _ _ KT5.o).trans rfl
    have CT8:Hid (W.cell? ⟨T,8,none⟩=some (.bool t.h2.on)):=(cell_of_row W _ 8 _ _ _ KT5.o).trans rfl
    have CT9:Hid (W.cell? ⟨T,9,none⟩=some (.int .i64 t.h2.left)):=(cell_of_row W _ 9 _ _ _ KT5.o).trans rfl
    have CR0:Hid (W.cell? ⟨R,0,none⟩=some (.int .i64 j.rh)):=(cell_of_row W _ 0 _ _ _ KX5.o).trans rfl
    have CR1:Hid (W.cell? ⟨R,1,none⟩=some (.int .i64 j.ru)):=(cell_of_row W _ 1 _ _ _ KX5.o).trans rfl
    clear hb3 hb4 KT5 KX5 KT4 HT4 HB3 hT3 hs3 hs4 t0 t1 t2 t3 t4 t5 t6 t7 t8 t9
    cases b with
    |true=>
     have hroom:=hbm rfl
     clear hbm
     go_wp2
     rename_i K9 hK9
     have TAIL:∀(g:Nat→Value) (W':World),Below W.heap.size W W'→K9 ⟨#[g 0,g 1,g 2,g 3,g 4,g 5,.bool true,g 7,g 8,g 9,g 10,g 11,g 12,g 13,g 14,g 15,g 16,g 17,g 18,g 19,g 20,g 21,g 22,g 23,g 24,g 25,g 26,g 27,g 28,g 29,g 30,g 31,g 32,g 33,g 34,g 35,g 36,g 37,g 38,g 39,g 40,g 41,g 42,g 43,g 44,g 45,g 46,g 47,g 48,g 49,g 50,g 51,g 52,g 53,g 54,g 55,g 56,g 57,g 58,g 59,g 60,g 61,g 62,g 63,g 64,g 65,g 66,g 67,g 68,g 69],[]⟩ W':=by
      intro g W' hb
      apply hK9
      clear hK9
      go_wp2
      go_ret
      exact⟨rfl,zad HB5.o hb⟩
     have HTAIL:=zaa TAIL
     clear TAIL hK9
     refine(show∀A0:Act,A0=_→Code.wp Tryz.prog _ _ A0 _ from fun A0 hA0=>?_) _ rfl
     have hsz:A0.tmps.size=70:=by rw[hA0];rfl
     have hdf:A0.defers=[]:=by rw[hA0]
     have v7:A0.eval (.tmp 7)=.pointer (some ⟨R,0,none⟩):=by rw[hA0];rfl
     have v8:A0.eval (.tmp 8)=.int .i64 j.last:=by rw[hA0];rfl
     have v10:A0.eval (.tmp 10)=.pointer (some ⟨T,0,none⟩):=by rw[hA0];rfl
     have v11:A0.eval (.tmp 11)=.bool true:=by rw[hA0];rfl
     clear hA0
     refine zcl (fun w'=>Below W.heap.size W w') [50,51,52,53,54,55,56,57,58,59,60,61,62,63,64,65,66,67,68,69,6] (zlk T t j na nc nb nd ne nf) (by kernel_rfl) (by kernel_rfl) (by kernel_rfl) ((Below.refl _ _).drew) ⟨?_,?_,?_,?_,?_,?_,?_,?_,?_,?_,?_,?_,?_,?_,?_,?_,?_,?_,?_,?_,?_,trivial⟩ ?_
     ·intro a w' hF hR hp
      have z10:=(hF.other 10 rfl).trans v10
      have c0:w'.cell? ⟨T,0,none⟩=some (.int .i64 t.seq):=zab hR hTW CT0.o
      have c1:w'.cell? ⟨T,1,none⟩=some (.slice na t.info.length nc):=zab hR hTW CT1.o
      have c2:w'.cell? ⟨T,2,none⟩=some (.slice nb t.data.length nd):=zab hR hTW CT2.o
      have c3:w'.cell? ⟨T,3,none⟩=some (.slice ne t.rev.length nf):=zab hR hTW CT3.o
      have c4:w'.cell? ⟨T,4,none⟩=some (.bool t.h0.on):=zab hR hTW CT4.o
      have c5:w'.cell? ⟨T,5,none⟩=some (.int .i64 t.h0.left):=zab hR hTW CT5.o
      have c6:w'.cell? ⟨T,6,none⟩=some (.bool t.h1.on):=zab hR hTW CT6.o
      have c7:w'.cell? ⟨T,7,none⟩=some (.int .i64 t.h1.left):=zab hR hTW CT7.o
      have c8:w'.cell? ⟨T,8,none⟩=some (.bool t.h2.on):=zab hR hTW CT8.o
      have c9:w'.cell? ⟨T,9,none⟩=some (.int .i64 t.h2.left):=zab hR hTW CT9.o
      exact zah _ rfl rfl (by revert z10;generalize a.eval=ρ;intro z10;simp only[execOp];go_simp) hF hsz hR rfl
     ·intro a w' hF hR hp
      have p50:a.eval (.tmp 50)=.agg #[.int .i64 t.seq,.slice na t.info.length nc,.slice nb t.data.length nd,.slice ne t.rev.length nf,.bool t.h0.on,.int .i64 t.h0.left,.bool t.h1.on,.int .i64 t.h1.left,.bool t.h2.on,.int .i64 t.h2.left]:=hp ⟨0,.data⟩ (by simp) rfl
      refine zbh 31 #[.agg #[.int .i64 t.seq,.slice na t.info.length nc,.slice nb t.data.length nd,.slice ne t.rev.length nf,.bool t.h0.on,.int .i64 t.h0.left,.bool t.h1.on,.int .i64 t.h1.left,.bool t.h2.on,.int .i64 t.h2.left]] rfl rfl (by have pf:=Act.eval_func a 31;revert p50 pf;generalize a.eval=ρ;intro p50 pf;simp only[execOp];go_simp) _ (tGood_any _ t w' (HTX.o.below hR) HR1.o HR2.o) ?_
      rintro e w2 ⟨rfl,hb2⟩
      refine⟨_,rfl,_,rfl,zad hR hb2,?_,zgl hb2⟩
      show zlk _ _ _ _ _ _ _ _ _ _ ((a.put (some 51) _).eval (.tmp 51)) w2
      rw[zan hF hsz (by decide)]
      rw[HGD.o]
      exact rfl
     ·intro a w' hF hR hp
      have p51:a.eval (.tmp 51)=.bool true:=hp ⟨1,.data⟩ (by simp) rfl
      exact zah _ rfl rfl (by revert p51;generalize a.eval=ρ;intro p51;simp only[execOp];go_simp) hF hsz hR rfl
     ·intro a w' hF hR hp
      have pg:a.eval (.tmp 52)=.bool true:=hp ⟨2,Ground.guard⟩ (by simp) rfl
      have z10:=(hF.other 10 rfl).trans v10
      exact zbx _ rfl (zal (b:=true) rfl rfl pg) (by revert z10;generalize a.eval=ρ;intro z10;simp only[execOp];go_simp) hF hsz hR rfl
     ·intro a w' hF hR hp
      have pg:a.eval (.tmp 52)=.bool true:=hp ⟨2,Ground.guard⟩ (by simp) rfl
      have p53:a.eval (.tmp 53)=.pointer (some ⟨T,0,none⟩):=hp ⟨3,.data⟩ (by simp) rfl
      have c0:w'.cell? ⟨T,0,none⟩=some (.int .i64 t.seq):=zab hR hTW CT0.o
      exact zbx _ rfl (zal (b:=true) rfl rfl pg) (by revert p53;generalize a.eval=ρ;intro p53;simp only[execOp];go_simp) hF hsz hR rfl
     ·intro a w' hF hR hp
      have pg:a.eval (.tmp 52)=.bool true:=hp ⟨2,Ground.guard⟩ (by simp) rfl
      have z8:=(hF.other 8 rfl).trans v8
      exact zbx _ rfl (zal (b:=true) rfl rfl pg) (by revert z8;generalize a.eval=ρ;intro z8;simp only[execOp];go_simp) hF hsz hR rfl
     ·intro a w' hF hR hp
      have pg:a.eval (.tmp 52)=.bool true:=hp ⟨2,Ground.guard⟩ (by simp) rfl
      have p54:a.eval (.tmp 54)=.int .i64 t.seq:=hp ⟨4,.data⟩ (by simp) rfl
      have p55:a.eval (.tmp 55)=.int .i64 j.last:=hp ⟨5,.data⟩ (by simp) rfl
      exact zbx _ rfl (zal (b:=true) rfl rfl pg) (by revert p54 p55;generalize a.eval=ρ;intro p54 p55;simp only[execOp];go_simp) hF hsz hR rfl
     ·intro a w' hF hR hp
      have p52:a.eval (.tmp 52)=.bool true:=hp ⟨2,.data⟩ (by simp) rfl
      have p56:a.eval (.tmp 56)=.bool true:=hp ⟨6,.data⟩ (by simp) rfl
      exact zah _ rfl rfl (by revert p52 p56;generalize a.eval=ρ;intro p52 p56;simp only[execOp];go_simp) hF hsz hR rfl
     ·intro a w' hF hR hp
      have p57:a.eval (.tmp 57)=.bool true:=hp ⟨7,.data⟩ (by simp) rfl
      exact zah _ rfl rfl (by revert p57;generalize a.eval=ρ;intro p57;simp only[execOp];go_simp) hF hsz hR rfl
     ·intro a w' hF hR hp
      have pg:a.eval (.tmp 58)=.bool true:=hp ⟨8,Ground.guard⟩ (by simp) rfl
      have z11:=(hF.other 11 rfl).trans v11
      exact zbx _ rfl (zal (b:=true) rfl rfl pg) (by revert z11;generalize a.eval=ρ;intro z11;simp only[execOp];go_simp) hF hsz hR rfl
     ·intro a w' hF hR hp
      have pg:a.eval (.tmp 58)=.bool true:=hp ⟨8,Ground.guard⟩ (by simp) rfl
      have p59:a.eval (.tmp 59)=.bool true:=hp ⟨9,.data⟩ (by simp) rfl
      exact zbx _ rfl (zal (b:=true) rfl rfl pg) (by revert p59;generalize a.eval=ρ;intro p59;simp only[execOp];go_simp) hF hsz hR rfl
     ·intro a w' hF hR hp
      have pg:a.eval (.tmp 58)=.bool true:=hp ⟨8,Ground.guard⟩ (by simp) rfl
      have p60:a.eval (.tmp 60)=.bool false:=hp ⟨10,.data⟩ (by simp) rfl
      exact zbx _ rfl (zal (b:=true) rfl rfl pg) (by revert p60;generalize a.eval=ρ;intro p60;simp only[execOp];go_simp) hF hsz hR rfl
     ·intro a w' hF hR hp
      have pg:a.eval (.tmp 61)=.bool false:=hp ⟨11,Ground.guard⟩ (by simp) rfl
      have z10:=(hF.other 10 rfl).trans v10
      have c0:w'.cell? ⟨T,0,none⟩=some (.int .i64 t.seq):=zab hR hTW CT0.o
      have c1:w'.cell? ⟨T,1,none⟩=some (.slice na t.info.length nc):=zab hR hTW CT1.o
      have c2:w'.cell? ⟨T,2,none⟩=some (.slice nb t.data.length nd):=zab hR hTW CT2.o
      have c3:w'.cell? ⟨T,3,none⟩=some (.slice ne t.rev.length nf):=zab hR hTW CT3.o
      have c4:w'.cell? ⟨T,4,none⟩=some (.bool t.h0.on):=zab hR hTW CT4.o
      have c5:w'.cell? ⟨T,5,none⟩=some (.int .i64 t.h0.left):=zab hR hTW CT5.o
      have c6:w'.cell? ⟨T,6,none⟩=some (.bool t.h1.on):=zab hR hTW CT6.o
      have c7:w'.cell? ⟨T,7,none⟩=some (.int .i64 t.h1.left):=zab hR hTW CT7.o
      have c8:w'.cell? ⟨T,8,none⟩=some (.bool t.h2.on):=zab hR hTW CT8.o
      have c9:w'.cell? ⟨T,9,none⟩=some (.int .i64 t.h2.left):=zab hR hTW CT9.o
      exact zbx _ rfl (zal (b:=false) rfl rfl pg) (by revert z10;generalize a.eval=ρ;intro z10;simp only[execOp];go_simp) hF hsz hR rfl
     ·intro a w' hF hR hp
      have pg:a.eval (.tmp 61)=.bool false:=hp ⟨11,Ground.guard⟩ (by simp) rfl
      have p62:a.eval (.tmp 62)=.agg #[.int .i64 t.seq,.slice na t.info.length nc,.slice nb t.data.length nd,.slice ne t.rev.length nf,.bool t.h0.on,.int .i64 t.h0.left,.bool t.h1.on,.int .i64 t.h1.left,.bool t.h2.on,.int .i64 t.h2.left]:=hp ⟨12,.data⟩ (by simp) rfl
      refine zg5 33 #[.agg #[.int .i64 t.seq,.slice na t.info.length nc,.slice nb t.data.length nd,.slice ne t.rev.length nf,.bool t.h0.on,.int .i64 t.h0.left,.bool t.h1.on,.int .i64 t.h1.left,.bool t.h2.on,.int .i64 t.h2.left]] rfl (zal (b:=false) rfl rfl pg) (by have pf:=Act.eval_func a 33;revert p62 pf;generalize a.eval=ρ;intro p62 pf;simp only[execOp];go_simp) _ (tAsked_any _ t w' (HTX.o.below hR)) ?_
      rintro e w2 ⟨rfl,hb2⟩
      refine⟨_,rfl,_,rfl,zad hR hb2,?_,zgl hb2⟩
      show zlk _ _ _ _ _ _ _ _ _ _ ((a.put (some 63) _).eval (.tmp 63)) w2
      rw[zan hF hsz (by decide)]
      exact rfl
     ·intro a w' hF hR hp
      have pg:a.eval (.tmp 61)=.bool false:=hp ⟨11,Ground.guard⟩ (by simp) rfl
      have p63:a.eval (.tmp 63)=.int .i64 (askedN t):=hp ⟨13,.data⟩ (by simp) rfl
      refine zg5 32 #[.int .i64 (askedN t)] rfl (zal (b:=false) rfl rfl pg) (by have pf:=Act.eval_func a 32;revert p63 pf;generalize a.eval=ρ;intro p63 pf;simp only[execOp];go_simp) _ (ringMost_any (askedN t) w') ?_
      rintro e w2 ⟨rfl,rfl⟩
      refine⟨_,rfl,_,rfl,hR,?_,fun _ _ _ h=>h⟩
      show zlk _ _ _ _ _ _ _ _ _ _ ((a.put (some 64) _).eval (.tmp 64)) w'
      rw[zan hF hsz (by decide)]
      exact rfl
     ·intro a w' hF hR hp
      have pg:a.eval (.tmp 61)=.bool false:=hp ⟨11,Ground.guard⟩ (by simp) rfl
      have z7:=(hF.other 7 rfl).trans v7
      have c0:w'.cell? ⟨R,0,none⟩=some (.int .i64 j.rh):=zab hR hRX CR0.o
      have c1:w'.cell? ⟨R,1,none⟩=some (.int .i64 j.ru):=zab hR hRX CR1.o
      exact zbx _ rfl (zal (b:=false) rfl rfl pg) (by revert z7;generalize a.eval=ρ;intro z7;simp only[execOp];go_simp) hF hsz hR rfl
     ·intro a w' hF hR hp
      have pg:a.eval (.tmp 61)=.bool false:=hp ⟨11,Ground.guard⟩ (by simp) rfl
      have p65:a.eval (.tmp 65)=.agg #[.int .i64 j.rh,.int .i64 j.ru]:=hp ⟨15,.data⟩ (by simp) rfl
      refine zg5 34 #[.agg #[.int .i64 j.rh,.int .i64 j.ru]] rfl (zal (b:=false) rfl rfl pg) (by have pf:=Act.eval_func a 34;revert p65 pf;generalize a.eval=ρ;intro p65 pf;simp only[execOp];go_simp) _ (ringFree_any j.rh j.ru w' hu0 hu1) ?_
      rintro e w2 ⟨rfl,hb2⟩
      refine⟨_,rfl,_,rfl,zad hR hb2,?_,zgl hb2⟩
      show zlk _ _ _ _ _ _ _ _ _ _ ((a.put (some 66) _).eval (.tmp 66)) w2
      rw[zan hF hsz (by decide)]
      exact rfl
     ·intro a w' hF hR hp
      have pg:a.eval (.tmp 61)=.bool false:=hp ⟨11,Ground.guard⟩ (by simp) rfl
      have p64:a.eval (.tmp 64)=.int .i64 (zc0 (askedN t)):=hp ⟨14,.data⟩ (by simp) rfl
      have p66:a.eval (.tmp 66)=.int .i64 (24 - j.ru):=hp ⟨16,.data⟩ (by simp) rfl
      exact zbx _ rfl (zal (b:=false) rfl rfl pg) (by revert p64 p66;generalize a.eval=ρ;intro p64 p66;simp only[execOp];go_simp) hF hsz hR rfl
     ·intro a w' hF hR hp
      have pg:a.eval (.tmp 58)=.bool true:=hp ⟨8,Ground.guard⟩ (by simp) rfl
      have p61:a.eval (.tmp 61)=.bool false:=hp ⟨11,.data⟩ (by simp) rfl
      have p67:a.eval (.tmp 67)=.bool true:=hp ⟨17,.data⟩ (by simp) rfl
      exact zbx _ rfl (zal (b:=true) rfl rfl pg) (by revert p61 p67;generalize a.eval=ρ;intro p61 p67;simp only[execOp];go_simp) hF hsz hR rfl
     ·intro a w' hF hR hp
      have p58:a.eval (.tmp 58)=.bool true:=hp ⟨8,.data⟩ (by simp) rfl
      have p68:a.eval (.tmp 68)=.bool true:=hp ⟨18,.data⟩ (by simp) rfl
      exact zah _ rfl rfl (by revert p58 p68;generalize a.eval=ρ;intro p58 p68;simp only[execOp];go_simp) hF hsz hR rfl
     ·intro a w' hF hR hp
      have p69:a.eval (.tmp 69)=.bool true:=hp ⟨19,.data⟩ (by simp) rfl
      exact zah _ rfl rfl (by revert p69;generalize a.eval=ρ;intro p69;simp only[execOp];go_simp) hF hsz hR rfl
     ·intro a W' hF hR hp
      have p6:a.eval (.tmp 6)=.bool true:=hp 20 (by decide)
      have hsa:a.tmps.size=70:=hF.size.trans hsz
      have hlit:a=⟨#[_,_,_,_,_,_,_,_,_,_,_,_,_,_,_,_,_,_,_,_,_,_,_,_,_,_,_,_,_,_,_,_,_,_,_,_,_,_,_,_,_,_,_,_,_,_,_,_,_,_,_,_,_,_,_,_,_,_,_,_,_,_,_,_,_,_,_,_,_,_],[]⟩:=zb5 a 70 hsa (hF.defers.trans hdf)
      dsimp only at hlit
      rw[p6] at hlit
      show K9 a _
      exact(congrArg (fun x=>K9 x _) hlit).mpr (HTAIL.o (fun k=>a.eval (.tmp k)) _ hR)
    |false=>
     clear hbm
     go_wp2
     rename_i K9 hK9
     have TAIL:∀(g:Nat→Value) (W':World),Below W.heap.size W W'→K9 ⟨#[g 0,g 1,g 2,g 3,g 4,g 5,.bool true,g 7,g 8,g 9,g 10,g 11,g 12,g 13,g 14,g 15,g 16,g 17,g 18,g 19,g 20,g 21,g 22,g 23,g 24,g 25,g 26,g 27,g 28,g 29,g 30,g 31,g 32,g 33,g 34,g 35,g 36,g 37,g 38,g 39,g 40,g 41,g 42,g 43,g 44,g 45,g 46,g 47,g 48,g 49,g 50,g 51,g 52,g 53,g 54,g 55,g 56,g 57,g 58,g 59,g 60,g 61,g 62,g 63,g 64,g 65,g 66,g 67,g 68,g 69],[]⟩ W':=by
      intro g W' hb
      apply hK9
      clear hK9
      go_wp2
      go_ret
      exact⟨rfl,zad HB5.o hb⟩
     have HTAIL:=zaa TAIL
     clear TAIL hK9
     refine(show∀A0:Act,A0=_→Code.wp Tryz.prog _ _ A0 _ from fun A0 hA0=>?_) _ rfl
     have hsz:A0.tmps.size=70:=by rw[hA0];rfl
     have hdf:A0.defers=[]:=by rw[hA0]
     have v7:A0.eval (.tmp 7)=.pointer (some ⟨R,0,none⟩):=by rw[hA0];rfl
     have v8:A0.eval (.tmp 8)=.int .i64 j.last:=by rw[hA0];rfl
     have v10:A0.eval (.tmp 10)=.pointer (some ⟨T,0,none⟩):=by rw[hA0];rfl
     have v11:A0.eval (.tmp 11)=.bool false:=by rw[hA0];rfl
     clear hA0
     refine zcl (fun w'=>Below W.heap.size W w') [50,51,52,53,54,55,56,57,58,59,60,61,62,63,64,65,66,67,68,69,6] (ztp T t j na nc nb nd ne nf) (by kernel_rfl) (by kernel_rfl) (by kernel_rfl) ((Below.refl _ _).drew) ⟨?_,?_,?_,?_,?_,?_,?_,?_,?_,?_,?_,?_,?_,?_,?_,?_,?_,?_,?_,?_,?_,trivial⟩ ?_
     ·intro a w' hF hR hp
      have z10:=(hF.other 10 rfl).trans v10
      have c0:w'.cell? ⟨T,0,none⟩=some (.int .i64 t.seq):=zab hR hTW CT0.o
      have c1:w'.cell? ⟨T,1,none⟩=some (.slice na t.info.length nc):=zab hR hTW CT1.o
      have c2:w'.cell? ⟨T,2,none⟩=some (.slice nb t.data.length nd):=zab hR hTW CT2.o
      have c3:w'.cell? ⟨T,3,none⟩=some (.slice ne t.rev.length nf):=zab hR hTW CT3.o
      have c4:w'.cell? ⟨T,4,none⟩=some (.bool t.h0.on):=zab hR hTW CT4.o
      have c5:w'.cell? ⟨T,5,none⟩=some (.int .i64 t.h0.left):=zab hR hTW CT5.o
      have c6:w'.cell? ⟨T,6,none⟩=some (.bool t.h1.on):=zab hR hTW CT6.o
      have c7:w'.cell? ⟨T,7,none⟩=some (.int .i64 t.h1.left):=zab hR hTW CT7.o
      have c8:w'.cell? ⟨T,8,none⟩=some (.bool t.h2.on):=zab hR hTW CT8.o
      have c9:w'.cell? ⟨T,9,none⟩=some (.int .i64 t.h2.left):=zab hR hTW CT9.o
      exact zah _ rfl rfl (by revert z10;generalize a.eval=ρ;intro z10;simp only[execOp];go_simp) hF hsz hR rfl
     ·intro a w' hF hR hp
      have p50:a.eval (.tmp 50)=.agg #[.int .i64 t.seq,.slice na t.info.length nc,.slice nb t.data.length nd,.slice ne t.rev.length nf,.bool t.h0.on,.int .i64 t.h0.left,.bool t.h1.on,.int .i64 t.h1.left,.bool t.h2.on,.int .i64 t.h2.left]:=hp ⟨0,.data⟩ (by simp) rfl
      refine zbh 31 #[.agg #[.int .i64 t.seq,.slice na t.info.length nc,.slice nb t.data.length nd,.slice ne t.rev.length nf,.bool t.h0.on,.int .i64 t.h0.left,.bool t.h1.on,.int .i64 t.h1.left,.bool t.h2.on,.int .i64 t.h2.left]] rfl rfl (by have pf:=Act.eval_func a 31;revert p50 pf;generalize a.eval=ρ;intro p50 pf;simp only[execOp];go_simp) _ (tGood_any _ t w' (HTX.o.below hR) HR1.o HR2.o) ?_
      rintro e w2 ⟨rfl,hb2⟩
      refine⟨_,rfl,_,rfl,zad hR hb2,?_,zqr hb2⟩
      show ztp _ _ _ _ _ _ _ _ _ _ ((a.put (some 51) _).eval (.tmp 51)) w2
      rw[zan hF hsz (by decide)]
      rw[HGD.o]
      exact rfl
     ·intro a w' hF hR hp
      have p51:a.eval (.tmp 51)=.bool true:=hp ⟨1,.data⟩ (by simp) rfl
      exact zah _ rfl rfl (by revert p51;generalize a.eval=ρ;intro p51;simp only[execOp];go_simp) hF hsz hR rfl
     ·intro a w' hF hR hp
      have pg:a.eval (.tmp 52)=.bool true:=hp ⟨2,Ground.guard⟩ (by simp) rfl
      have z10:=(hF.other 10 rfl).trans v10
      exact zbx _ rfl (zal (b:=true) rfl rfl pg) (by revert z10;generalize a.eval=ρ;intro z10;simp only[execOp];go_simp) hF hsz hR rfl
     ·intro a w' hF hR hp
      have pg:a.eval (.tmp 52)=.bool true:=hp ⟨2,Ground.guard⟩ (by simp) rfl
      have p53:a.eval (.tmp 53)=.pointer (some ⟨T,0,none⟩):=hp ⟨3,.data⟩ (by simp) rfl
      have c0:w'.cell? ⟨T,0,none⟩=some (.int .i64 t.seq):=zab hR hTW CT0.o
      exact zbx _ rfl (zal (b:=true) rfl rfl pg) (by revert p53;generalize a.eval=ρ;intro p53;simp only[execOp];go_simp) hF hsz hR rfl
     ·intro a w' hF hR hp
      have pg:a.eval (.tmp 52)=.bool true:=hp ⟨2,Ground.guard⟩ (by simp) rfl
      have z8:=(hF.other 8 rfl).trans v8
      exact zbx _ rfl (zal (b:=true) rfl rfl pg) (by revert z8;generalize a.eval=ρ;intro z8;simp only[execOp];go_simp) hF hsz hR rfl
     ·intro a w' hF hR hp
      have pg:a.eval (.tmp 52)=.bool true:=hp ⟨2,Ground.guard⟩ (by simp) rfl
      have p54:a.eval (.tmp 54)=.int .i64 t.seq:=hp ⟨4,.data⟩ (by simp) rfl
      have p55:a.eval (.tmp 55)=.int .i64 j.last:=hp ⟨5,.data⟩ (by simp) rfl
      exact zbx _ rfl (zal (b:=true) rfl rfl pg) (by revert p54 p55;generalize a.eval=ρ;intro p54 p55;simp only[execOp];go_simp) hF hsz hR rfl
     ·intro a w' hF hR hp
      have p52:a.eval (.tmp 52)=.bool true:=hp ⟨2,.data⟩ (by simp) rfl
      have p56:a.eval (.tmp 56)=.bool true:=hp ⟨6,.data⟩ (by simp) rfl
      exact zah _ rfl rfl (by revert p52 p56;generalize a.eval=ρ;intro p52 p56;simp only[execOp];go_simp) hF hsz hR rfl
     ·intro a w' hF hR hp
      have p57:a.eval (.tmp 57)=.bool true:=hp ⟨7,.data⟩ (by simp) rfl
      exact zah _ rfl rfl (by revert p57;generalize a.eval=ρ;intro p57;simp only[execOp];go_simp) hF hsz hR rfl
     ·intro a w' hF hR hp
      have pg:a.eval (.tmp 58)=.bool true:=hp ⟨8,Ground.guard⟩ (by simp) rfl
      have z11:=(hF.other 11 rfl).trans v11
      exact zbx _ rfl (zal (b:=true) rfl rfl pg) (by revert z11;generalize a.eval=ρ;intro z11;simp only[execOp];go_simp) hF hsz hR rfl
     ·intro a w' hF hR hp
      have pg:a.eval (.tmp 58)=.bool true:=hp ⟨8,Ground.guard⟩ (by simp) rfl
      have p59:a.eval (.tmp 59)=.bool false:=hp ⟨9,.data⟩ (by simp) rfl
      exact zbx _ rfl (zal (b:=true) rfl rfl pg) (by revert p59;generalize a.eval=ρ;intro p59;simp only[execOp];go_simp) hF hsz hR rfl
     ·intro a w' hF hR hp
      have pg:a.eval (.tmp 58)=.bool true:=hp ⟨8,Ground.guard⟩ (by simp) rfl
      have p60:a.eval (.tmp 60)=.bool true:=hp ⟨10,.data⟩ (by simp) rfl
      exact zbx _ rfl (zal (b:=true) rfl rfl pg) (by revert p60;generalize a.eval=ρ;intro p60;simp only[execOp];go_simp) hF hsz hR rfl
     ·intro a w' hF hR hp
      have pg:a.eval (.tmp 61)=.bool true:=hp ⟨11,Ground.guard⟩ (by simp) rfl
      refine zvb rfl rfl rfl pg ⟨_,rfl,hR,trivial,fun _ _ _ h=>h⟩
     ·intro a w' hF hR hp
      have pg:a.eval (.tmp 61)=.bool true:=hp ⟨11,Ground.guard⟩ (by simp) rfl
      refine zvb rfl rfl rfl pg ⟨_,rfl,hR,trivial,fun _ _ _ h=>h⟩
     ·intro a w' hF hR hp
      have pg:a.eval (.tmp 61)=.bool true:=hp ⟨11,Ground.guard⟩ (by simp) rfl
      refine zvb rfl rfl rfl pg ⟨_,rfl,hR,trivial,fun _ _ _ h=>h⟩
     ·intro a w' hF hR hp
      have pg:a.eval (.tmp 61)=.bool true:=hp ⟨11,Ground.guard⟩ (by simp) rfl
      refine zvb rfl rfl rfl pg ⟨_,rfl,hR,trivial,fun _ _ _ h=>h⟩
     ·intro a w' hF hR hp
      have pg:a.eval (.tmp 61)=.bool true:=hp ⟨11,Ground.guard⟩ (by simp) rfl
      refine zvb rfl rfl rfl pg ⟨_,rfl,hR,trivial,fun _ _ _ h=>h⟩
     ·intro a w' hF hR hp
      have pg:a.eval (.tmp 61)=.bool true:=hp ⟨11,Ground.guard⟩ (by simp) rfl
      refine zvb rfl rfl rfl pg ⟨_,rfl,hR,trivial,fun _ _ _ h=>h⟩
     ·intro a w' hF hR hp
      have pg:a.eval (.tmp 58)=.bool true:=hp ⟨8,Ground.guard⟩ (by simp) rfl
      have p61:a.eval (.tmp 61)=.bool true:=hp ⟨11,.data⟩ (by simp) rfl
      exact zbx _ rfl (zal (b:=true) rfl rfl pg) (by have pc0:=Act.eval_const a (.bool true);revert p61 pc0;generalize a.eval=ρ;intro p61 pc0;simp only[execOp];go_simp) hF hsz hR rfl
     ·intro a w' hF hR hp
      have p58:a.eval (.tmp 58)=.bool true:=hp ⟨8,.data⟩ (by simp) rfl
      have p68:a.eval (.tmp 68)=.bool true:=hp ⟨18,.data⟩ (by simp) rfl
      exact zah _ rfl rfl (by revert p58 p68;generalize a.eval=ρ;intro p58 p68;simp only[execOp];go_simp) hF hsz hR rfl
     ·intro a w' hF hR hp
      have p69:a.eval (.tmp 69)=.bool true:=hp ⟨19,.data⟩ (by simp) rfl
      exact zah _ rfl rfl (by revert p69;generalize a.eval=ρ;intro p69;simp only[execOp];go_simp) hF hsz hR rfl
     ·intro a W' hF hR hp
      have p6:a.eval (.tmp 6)=.bool true:=hp 20 (by decide)
      have hsa:a.tmps.size=70:=hF.size.trans hsz
      have hlit:a=⟨#[_,_,_,_,_,_,_,_,_,_,_,_,_,_,_,_,_,_,_,_,_,_,_,_,_,_,_,_,_,_,_,_,_,_,_,_,_,_,_,_,_,_,_,_,_,_,_,_,_,_,_,_,_,_,_,_,_,_,_,_,_,_,_,_,_,_,_,_,_,_],[]⟩:=zb5 a 70 hsa (hF.defers.trans hdf)
      dsimp only at hlit
      rw[p6] at hlit
      show K9 a _
      exact(congrArg (fun x=>K9 x _) hlit).mpr (HTAIL.o (fun k=>a.eval (.tmp k)) _ hR)
   have HTAIL8:=zaa TAIL8
   clear TAIL8 hK8
   refine(zkp _ t W3 HT4.o).mono ?_
   rintro e w4 ⟨rfl,hb4⟩
   have KT5:=zaa (zac hb4 hT3 KT4.o)
   have hs4:W3.heap.size≤w4.heap.size:=hb4.size
   have hT4:T<w4.heap.size:=by omega
   have HB5:=zaa hb4
   clear hb4 hb3 t0 t1 t2 t3 t4 t5 t6 t7 t8 t9
   obtain⟨⟨u0,u1,u2,u3,u4,u5,u6,u7,u8,u9⟩,_⟩:=zaf KT5.o
   cases ho:zfl t with
   |true=>
    have hrm:=HROOM.o (by rw[zjl,ho];rfl)
    have HRM:=zaa hrm
    clear hrm ho
    go_wp2_with fail
    exact HTAIL8.o true _ _ _ _ _ _ _ _ _ _ _ _ _ _ _ _ _ _ _ _ _ _ _ _ _ _ _ _ _ _ _ _ _ _ _ _ _ _ _ _ _ _ _ _ _ _ _ _ _ _ _ _ _ _ _ _ _ _ _ _ _ _ _ _ _ _ _ (fun _=>HRM.o) HB5.o
   |false=>
    have HR3:=HRE.o.2
    have hw1:IntKind.i64.wrap ((t.info.length:Int)+(t.data.length:Int))=(t.info.length:Int)+(t.data.length:Int):=by have:=HR1.o;have:=HR2.o;rw[IntKind.wrap_i64];omega
    have hw2:IntKind.i64.wrap ((t.info.length:Int)+(t.data.length:Int)+(t.rev.length:Int))=(t.info.length:Int)+(t.data.length:Int)+(t.rev.length:Int):=by have:=HR1.o;have:=HR2.o;rw[IntKind.wrap_i64];omega
    clear HR3
    by_cases he:zdv t=true
    ·have hn:¬(0:Int)<(t.info.length:Int)+(t.data.length:Int)+(t.rev.length:Int):=by
      simp only[zdv,Bool.and_eq_true,decide_eq_true_eq] at he
      omega
     clear he ho
     have hn2:decide ((0:Int)<(t.info.length:Int)+(t.data.length:Int)+(t.rev.length:Int))=false:=decide_eq_false hn
     go_wp2_with fail
     first|exact HTAIL8.o false _ _ _ _ _ _ _ _ _ _ _ _ _ _ _ _ _ _ _ _ _ _ _ _ _ _ _ _ _ _ _ _ _ _ _ _ _ _ _ _ _ _ _ _ _ _ _ _ _ _ _ _ _ _ _ _ _ _ _ _ _ _ _ _ _ _ _ (fun h=>by cases h) HB5.o|(rw[hn2];exact HTAIL8.o false _ _ _ _ _ _ _ _ _ _ _ _ _ _ _ _ _ _ _ _ _ _ _ _ _ _ _ _ _ _ _ _ _ _ _ _ _ _ _ _ _ _ _ _ _ _ _ _ _ _ _ _ _ _ _ _ _ _ _ _ _ _ _ _ _ _ _ (fun h=>by cases h) HB5.o)
    ·have hrm:=HROOM.o (by rw[zjl,ho];simpa using he)
     have HRM:=zaa hrm
     have hn:(0:Int)<(t.info.length:Int)+(t.data.length:Int)+(t.rev.length:Int):=by
      simp only[zdv,Bool.and_eq_true,decide_eq_true_eq] at he
      omega
     clear he ho hrm
     go_wp2_with fail
     exact HTAIL8.o true _ _ _ _ _ _ _ _ _ _ _ _ _ _ _ _ _ _ _ _ _ _ _ _ _ _ _ _ _ _ _ _ _ _ _ _ _ _ _ _ _ _ _ _ _ _ _ _ _ _ _ _ _ _ _ _ _ _ _ _ _ _ _ _ _ _ _ (fun _=>HRM.o) HB5.o
 have HTAIL:=zaa TAIL
 clear TAIL hKK
 refine(zf9 _ _ _).mono ?_
 rintro e w3 ⟨rfl,hb3⟩
 rw[HGR.o]
 have KA4:=zaa (zac hb3 (by omega) KA3.o)
 have KR4:=zaa (zac hb3 (by omega) KR3.o)
 have HB4:=zaa hb3
 have hs3:W2.heap.size≤w3.heap.size:=hb3.size
 have q0:w.heap.size<w3.heap.size:=by omega
 have q1:w.heap.size+1<w3.heap.size:=by omega
 clear hb3 KA3 KR3
 obtain⟨⟨z0,z1,z2,z3,z4⟩,_⟩:=zhv KA4.o
 obtain⟨⟨y0,y1,y2⟩,_⟩:=zbd KR4.o
 by_cases k6:x.kind=6
 ·have hc:(r.code==6)=false:=by simpa using hk6 k6
  rw[k6] at z0
  clear hk6 k6
  go_wp2_with fail
  exact HTAIL.o _ _ _ _ _ _ _ _ _ _ _ _ _ _ _ _ _ _ _ _ _ _ _ _ _ _ _ _ _ _ _ _ _ _ _ _ _ _ _ _ _ _ _ _ _ _ _ _ _ _ _ _ _ _ _ _ _ _ _ _ _ _ _ _ _ _ _ HB4.o
 ·have b6:(x.kind==6)=false:=by simpa using k6
  clear hk6 k6
  go_wp2_with fail
  exact HTAIL.o _ _ _ _ _ _ _ _ _ _ _ _ _ _ _ _ _ _ _ _ _ _ _ _ _ _ _ _ _ _ _ _ _ _ _ _ _ _ _ _ _ _ _ _ _ _ _ _ _ _ _ _ _ _ _ _ _ _ _ _ _ _ _ _ _ _ _ HB4.o
theorem SegA.hideN {w:World}{a:Option Addr}{l:List Ac}(h:SegA w a l){w':World}(hb:Below w.heap.size w w'):SegA (zao w' []) a l:=by
 rcases h with h0|⟨b,off,rfl,hlt,hc⟩
 ·exact .inl h0
 ·have hn:b∉([]:List Nat):=by simp
  refine .inr ⟨b,off,rfl,by rw[zbe];have:=hb.size;omega,fun i hi=>?_⟩
  obtain⟨g0,g1,g2,g3,g4⟩:=hc i hi
  exact⟨zbt hn (zab hb hlt g0),zbt hn (zab hb hlt g1),zbt hn (zab hb hlt g2),zbt hn (zab hb hlt g3),zbt hn (zab hb hlt g4)⟩
theorem zjw (o:Oper)(ρ:Operand→Value)(w:World)(x y z:Value)(ts:Array TypeId)(ho:o.op=Op.call {callee:=.value (.tmp 28),args:=#[.tmp 29,.tmp 33,.tmp 34],argTypes:=ts})(h1:ρ (.tmp 28)=.func (.func 28) #[] #[])(h2:ρ (.tmp 29)=x)(h3:ρ (.tmp 33)=y)(h4:ρ (.tmp 34)=z):
  (execOp ρ o).run Tryz.prog w=.ok (.enter 28 #[x,y,z]) w:=by
 simp only[execOp,ho]
 go_simp
theorem zv6 (a:Option Addr)(c:Nat)(l:List Ac)(w:World)(hA:SegA w a l)(hlen:l.length≤maxLen)(hok:∀y∈l,OkA y):
  Calls Tryz.prog 8 #[.slice a l.length c] w fun e w'=>e=.returned (.bool true)∧Below w.heap.size w w':=by
 have HA:=zaa hA
 have HOK:=zaa hok
 have HL:=zaa hlen
 clear hA hok hlen
 go_enter Tryz.func8,Tryz.ntmps8
 go_wp2_with fail
 refine(z1c _ 28 (fun x y z=>#[x,y,z]) zjw a c l w [] (HA.o.hideN (Below.refl _ _)) HL.o HOK.o (by simp) (fun _ W=>Below w.heap.size w W) (Below.refl _ _) ?sb ?look).mono ?fin
 case sb=>
  intro k W W' B h1 h2 h3 h4
  exact h1.trans ⟨h4.os,h4.tape,h4.output,h4.size,fun q hq=>h4.block q (by omega) (by simp;omega)⟩
 case look=>
  intro k W B hk hB hS hJ hX
  have hkl:k<l.length:=by unfold played at hk;omega
  have hc:=z1a (zzd l k) (l.getD k ac0)
  have hp:=(zzd l k).do (l.getD k ac0)
  rw[←zto hkl] at hp
  refine(zog B _ (jOf l (k+1)) (l.getD k ac0) (rOf l k) W hJ hp hc).mono ?_
  rintro e W' ⟨rfl,hb⟩
  have hs:=hS.size
  exact⟨rfl,zad hS hb,hJ.below hb,ButL.of_below ⟨hb.os,hb.tape,hb.output,hb.size,fun q hq=>hb.block q (by omega)⟩,hb.size⟩
 case fin=>
  rintro e w' ⟨B,rfl,hB,hbb,_,_⟩
  have HBF:=zaa hbb
  clear hbb
  go_wp2
  go_ret
  exact⟨rfl,HBF.o⟩
end Go.Proofs.YtjnpndfpajjihacGreat

