/-
  
-/
import Derived.Test.YtjnpndfpajjihacGreatGrTopSpace48
import Derived.Test.YtjnpndfpajjihacGreatXTellsP
import Derived.Test.YtjnpndfpajjihacGreatGrTopSpace32
import Derived.Test.YtjnpndfpajjihacGreatGrTopSpace2
set_option maxRecDepth 100000
set_option maxHeartbeats 40000000
namespace Go.Proofs.YtjnpndfpajjihacGreat
open Go.RowKit
theorem z1o:goodM (superMk 0 1)=0:=by kernel_rfl
def z09:Dk:=⟨encT (superMk 0 1)::List.replicate 36 (fitT ⟨#[]⟩),[]⟩
theorem z2f:zzi=zem z09 0 1:=rfl
def zlj (bs:Nat)(D:Nat)(g:Nat)(c:Nat)(s:ByteArray):Nat→Value→World→Prop
 |0,v,_=>v=.pointer (some ⟨D,0,none⟩)
 |1,v,_=>v=.slice (some ⟨g,0,none⟩) 37 c
 |2,v,_=>v=.agg #[.int .i64 1,.int .i64 1,.int .i64 0,.slice none 0 0,.slice none 0 0]
 |3,v,_=>v=.tuple #[.string s,.int .i64 0]
 |4,v,_=>v=.tuple #[.string s,.int .i64 0]
 |5,v,_=>v=.string s
 |6,v,_=>v=.int .i64 0
 |7,v,_=>v=.pointer (some ⟨g,0,none⟩)
 |8,_,w=>w.ownsRow bs 9 1 (.slice (some ⟨g,0,none⟩) 37 c) 37 (cellsS (s::List.replicate 36 (fitT ⟨#[]⟩)))
 |_,_,_=>True
theorem zqo {bs:Nat}{D:Nat}{g:Nat}{c:Nat}{s:ByteArray}{w w':World}(hb:Below w.heap.size w w'){i:Nat}:∀kk uu,kk≠i→zlj bs D g c s kk uu w→zlj bs D g c s kk uu w':=by
 intro kk uu _ h
 match kk,h with
 |0,h|1,h|2,h|3,h|4,h|5,h|6,h|7,h=>exact h
 |8,h=>exact zae h hb
 |_+9,_=>exact trivial
theorem zv5 {bs:Nat}{D:Nat}{g:Nat}{c:Nat}{s:ByteArray}{w w':World}:∀kk x,kk≠8→zlj bs D g c s kk x w→zlj bs D g c s kk x w':=by
 intro kk x hk h
 match kk,h with
 |0,h|1,h|2,h|3,h|4,h|5,h|6,h|7,h=>exact h
 |8,_=>exact absurd rfl hk
 |_+9,_=>exact trivial
def newR (w:World)(D g c:Nat)(w':World):Prop:=Below w.heap.size w w'∧w'.heap[D]?=some (.cells #[.slice (some ⟨g,0,none⟩) 37 c,.slice none 0 0] 46 (0,0))∧∃t,w'.ownsRow w.heap.size 9 1 (.slice (some ⟨g,0,none⟩) 37 c) 37 (cellsS (t::List.replicate 36 (fitT ⟨#[]⟩)))
theorem newR.below {w:World}{D g c:Nat}{w' w2:World}(h:newR w D g c w')(hb:Below w'.heap.size w' w2):newR w D g c w2:=⟨zad h.1 hb,zac hb (Array.getElem?_eq_some_iff.1 h.2.1).1 h.2.1,h.2.2.imp fun _ ho=>zae ho hb⟩
theorem ztm (w:World):
  Calls Tryz.prog 41 #[] w fun e w'=>∃B,e=.returned (.pointer (some ⟨B,0,none⟩))∧w.heap.size≤B∧(∀X:List Nat,(∀x∈X,x<w.heap.size)→JAt w' B (B::X) zzi)∧Below w.heap.size w w':=by
 obtain⟨s,hs⟩:∃s,s=encT (superMk 0 1):=⟨_,rfl⟩
 have HS:=zaa hs
 clear hs
 go_enter Tryz.func41,Tryz.ntmps41
 go_wp2_with fail
 refine(z2e _).mono ?_
 rintro e w1 ⟨g,c,rfl,hown,hb1⟩
 have hgl:=hown.lt g rfl
 have hg1:w.heap.size≤g:=hgl.1
 have hg2:g<w1.heap.size:=hgl.2
 go_wp2
 rename_i KK hKK
 obtain⟨W1,hW1⟩:∃W1,W1=w1.alloc (.cells #[.slice (some ⟨g,0,none⟩) 37 c,.slice none 0 0] 46):=⟨_,rfl⟩
 have hb11:Below w1.heap.size w1 W1:=by rw[hW1];exact below1 _ _
 have HOW:=zaa (zae hown hb11)
 have HB1:=zaa (zad hb1 hb11)
 have KD:Hid (W1.heap[w1.heap.size]?=some (.cells #[.slice (some ⟨g,0,none⟩) 37 c,.slice none 0 0] 46 (0,0))):=by rw[hW1];exact heap_alloc_new _ _
 have hs1:W1.heap.size=w1.heap.size+1:=by rw[hW1];simp
 have hs01:w.heap.size≤w1.heap.size:=hb1.size
 rw[←hW1]
 clear hW1 hb11 hown hb1 hgl
 have HR1:Hid (newR w w1.heap.size g c W1):=⟨HB1.o,KD.o,fitT ⟨#[]⟩,HOW.o⟩
 have TAIL:∀(g0 g2 g3 g4 g5 g6 g7 g8 g9 g10 g11 g12 g13:Value) (W:World),W.ownsRow w.heap.size 9 1 (.slice (some ⟨g,0,none⟩) 37 c) 37 (cellsS (s::List.replicate 36 (fitT ⟨#[]⟩)))→Below w.heap.size w W→W.heap[w1.heap.size]?=some (.cells #[.slice (some ⟨g,0,none⟩) 37 c,.slice none 0 0] 46 (0,0))→KK ⟨#[g0,.pointer (some ⟨w1.heap.size,0,none⟩),g2,g3,g4,g5,g6,g7,g8,g9,g10,g11,g12,g13],[]⟩ W:=by
  intro g0 g2 g3 g4 g5 g6 g7 g8 g9 g10 g11 g12 g13 W3 hst hb3 hd3
  apply hKK
  clear hKK
  have HST:=zaa hst
  have HB3:=zaa hb3
  have KD3:=zaa hd3
  obtain⟨⟨y0,y1⟩,_⟩:=zhb KD3.o
  clear hst hb3 hd3
  go_wp2_with fail
  refine(begun_any z09 (some ⟨g,0,none⟩) c none 0 0 1 W3 (by decide+kernel)).mono ?_
  rintro e w4 ⟨rfl,hb4⟩
  have HST4:=zaa (zae HST.o hb4)
  have HB4:=zaa (zad HB3.o hb4)
  have hs4:W3.heap.size≤w4.heap.size:=hb4.size
  clear y0 y1 hb4
  obtain⟨CS,hCS⟩:∃CS,CS=zbj (zem z09 0 1) (some ⟨g,0,none⟩) c none 0 none 0 none 0 none 0 none 0 none 0 none 0 none 0 none 0 none 0:=⟨_,rfl⟩
  rw[←hCS]
  have HCS:=zaa hCS
  have HIN:Hid ((Tryz.prog.info? 93).map (·.size)=some CS.size):=by rw[Hid,HCS.o];exact z01 _ _ _ _ _ _ _ _ _ _ _ _ _ _ _ _ _ _ _ _ _ _ _
  have HON:Hid (CS.all (·.oneCell')=true):=by rw[Hid,HCS.o];exact zg6 _ _ _ _ _ _ _ _ _ _ _ _ _ _ _ _ _ _ _ _ _ _ _
  have HSZ:Hid (57=CS.size):=by rw[Hid,HCS.o];kernel_rfl
  clear hCS
  dsimp only
  repeat (first|(refine wpList_store_rowTo rfl _ _ _ rfl rfl w4.heap.size CS rfl rfl _ _ (heap_alloc_new _ _) HIN.o HSZ.o HON.o ?_)|go_step)
  refine bodyPost_ret (results_tmp rfl _ _ _) rfl ⟨w4.heap.size,rfl,HB4.o.size,fun X hX=>?_,?_⟩
  ·rw[HCS.o,z2f]
   refine JAt.putAll (by simp) (heap_alloc_new w4 _) (some ⟨g,0,none⟩) c none 0 none 0 none 0 none 0 none 0 none 0 none 0 none 0 none 0 none 0 ⟨?_,zpy _ _,zpy _ _,.inl rfl,.inl rfl,.inl rfl,z00 _,Nat.le_refl _,Nat.le_refl _,Nat.le_refl _⟩
   have hg4:g<w4.heap.size:=(HST4.o.lt g rfl).2
   obtain⟨a2,c2,hv,hS,_⟩:=SegS.of_owns (zae HST4.o (below1 w4 _))
   simp only[Value.slice.injEq] at hv
   obtain⟨rfl,_,rfl⟩:=hv
   rw[HS.o] at hS
   refine⟨some ⟨g,0,none⟩,c,none,0,rfl,?_,.inl rfl,by decide+kernel,by decide+kernel⟩
   rcases hS with h0|⟨b,off,he,hlt,hc⟩
   ·cases h0
   ·cases he
    refine .inr ⟨g,0,rfl,by rw[zbe];exact hlt,fun i hi=>zbt ?_ (hc i hi)⟩
    simp only[List.mem_cons,not_or]
    exact⟨by omega,fun hx=>by have:=hX g hx;omega⟩
  ·exact((ButL.of_below (X:=[]) (HB4.o.alloc HB4.o.size _)).setRow (.inr HB4.o.size) CS).below
 have HTAIL:=zaa TAIL
 clear TAIL hKK
 refine(show∀A0:Act,A0=_→Code.wp Tryz.prog _ _ A0 _ from fun A0 hA0=>?_) _ rfl
 have hsz:A0.tmps.size=14:=by rw[hA0];rfl
 have hdf:A0.defers=[]:=by rw[hA0]
 have v1:A0.eval (.tmp 1)=.pointer (some ⟨w1.heap.size,0,none⟩):=by rw[hA0];rfl
 clear hA0
 refine zcl (fun w'=>newR w w1.heap.size g c w') [5,6,7,8,4,9,10,11,11] (zlj w.heap.size w1.heap.size g c s) (by kernel_rfl) (by kernel_rfl) (by kernel_rfl) (HR1.o.below (Below.refl _ _).drew) ⟨?_,?_,?_,?_,?_,?_,?_,?_,?_,trivial⟩ ?_
 ·intro a w' hF hR hp
  have z1:=(hF.other 1 rfl).trans v1
  exact zah _ rfl rfl (by revert z1;generalize a.eval=ρ;intro z1;simp only[execOp];go_simp) hF hsz hR rfl
 ·intro a w' hF hR hp
  have p5:a.eval (.tmp 5)=.pointer (some ⟨w1.heap.size,0,none⟩):=hp ⟨0,.data⟩ (by simp) rfl
  have c0:w'.cell? ⟨w1.heap.size,0,none⟩=some (.slice (some ⟨g,0,none⟩) 37 c):=(zhb hR.2.1).1.1
  exact zah _ rfl rfl (by revert p5;generalize a.eval=ρ;intro p5;simp only[execOp];go_simp) hF hsz hR rfl
 ·intro a w' hF hR hp
  exact zah _ rfl rfl (by have pc0:=Act.eval_const a (.int .i64 1);revert pc0;generalize a.eval=ρ;intro pc0;simp only[execOp];go_simp) hF hsz hR rfl
 ·intro a w' hF hR hp
  have p7:a.eval (.tmp 7)=.agg #[.int .i64 1,.int .i64 1,.int .i64 0,.slice none 0 0,.slice none 0 0]:=hp ⟨2,.data⟩ (by simp) rfl
  refine zbh 70 #[.agg #[.int .i64 1,.int .i64 1,.int .i64 0,.slice none 0 0,.slice none 0 0]] rfl rfl (by have pf:=Act.eval_func a 70;revert p7 pf;generalize a.eval=ρ;intro p7 pf;simp only[execOp];go_simp) _ (stampEncode_any _ (superMk 0 1) _ ⟨none,0,none,0,rfl,.inl rfl,.inl rfl,Nat.zero_le _,Nat.zero_le _⟩) ?_
  rintro e w2 ⟨rfl,hb2⟩
  refine⟨_,rfl,_,rfl,hR.below hb2,?_,zqo hb2⟩
  show zlj _ _ _ _ _ _ ((a.put (some 8) _).eval (.tmp 8)) w2
  rw[zan hF hsz (by decide)]
  rw[HS.o,z1o]
  exact rfl
 ·intro a w' hF hR hp
  have p8:a.eval (.tmp 8)=.tuple #[.string s,.int .i64 0]:=hp ⟨3,.data⟩ (by simp) rfl
  exact zah _ rfl rfl (by revert p8;generalize a.eval=ρ;intro p8;simp only[execOp];go_simp) hF hsz hR rfl
 ·intro a w' hF hR hp
  have p4:a.eval (.tmp 4)=.tuple #[.string s,.int .i64 0]:=hp ⟨4,.data⟩ (by simp) rfl
  exact zah _ rfl rfl (by revert p4;generalize a.eval=ρ;intro p4;simp only[execOp];go_simp) hF hsz hR rfl
 ·intro a w' hF hR hp
  have p4:a.eval (.tmp 4)=.tuple #[.string s,.int .i64 0]:=hp ⟨4,.data⟩ (by simp) rfl
  exact zah _ rfl rfl (by revert p4;generalize a.eval=ρ;intro p4;simp only[execOp];go_simp) hF hsz hR rfl
 ·intro a w' hF hR hp
  have p6:a.eval (.tmp 6)=.slice (some ⟨g,0,none⟩) 37 c:=hp ⟨1,.data⟩ (by simp) rfl
  exact zah _ rfl rfl (by have pc0:=Act.eval_const a (.int .i64 0);revert p6 pc0;generalize a.eval=ρ;intro p6 pc0;simp only[execOp];go_simp) hF hsz hR rfl
 ·intro a w' hF hR hp
  have p9:a.eval (.tmp 9)=.string s:=hp ⟨5,.data⟩ (by simp) rfl
  have p11:a.eval (.tmp 11)=.pointer (some ⟨g,0,none⟩):=hp ⟨7,.data⟩ (by simp) rfl
  obtain⟨hRb,hRd,t,hRo⟩:=hR
  have hcW:w'.cell? ⟨g,0,none⟩=some (.string t):=by rw[hRo.cellAt 0 (by decide)];rfl
  have hfW:w'.frozen? ⟨g,0,none⟩=false:=hRo.frozenAt 0
  have hst:=(hRo.stored 0 (.string s)).1
  have hst2:(w'.setCell ⟨g,0,none⟩ (.string s)).ownsRow w.heap.size 9 1 (.slice (some ⟨g,0,none⟩) 37 c) 37 (cellsS (s::List.replicate 36 (fitT ⟨#[]⟩))):=hst
  refine zcg rfl rfl (w':=w'.setCell ⟨g,0,none⟩ (.string s)) (by revert p9 p11;generalize a.eval=ρ;intro p9 p11;simp only[execOp];go_simp) ⟨_,rfl,⟨hRb.setCell (p:=⟨g,0,none⟩) hg1 _,(Below.heap_setCell _ _ _ _ (by simp only;omega)).trans hRd,s,hst2⟩,?_,zv5⟩
  show zlj _ _ _ _ _ _ _ _
  exact hst2
 ·intro a W hF hR hp
  have hst:W.ownsRow w.heap.size 9 1 (.slice (some ⟨g,0,none⟩) 37 c) 37 (cellsS (s::List.replicate 36 (fitT ⟨#[]⟩))):=hp 8 (by decide)
  have hsa:a.tmps.size=14:=hF.size.trans hsz
  have f1:a.eval (.tmp 1)=.pointer (some ⟨w1.heap.size,0,none⟩):=(hF.other 1 rfl).trans v1
  have hlit:a=⟨#[_,_,_,_,_,_,_,_,_,_,_,_,_,_],[]⟩:=zb5 a 14 hsa (hF.defers.trans hdf)
  dsimp only at hlit
  rw[f1] at hlit
  show KK a _
  exact(congrArg (fun x=>KK x _) hlit).mpr (HTAIL.o (a.eval (.tmp 0)) (a.eval (.tmp 2)) (a.eval (.tmp 3)) (a.eval (.tmp 4)) (a.eval (.tmp 5)) (a.eval (.tmp 6)) (a.eval (.tmp 7)) (a.eval (.tmp 8)) (a.eval (.tmp 9)) (a.eval (.tmp 10)) (a.eval (.tmp 11)) (a.eval (.tmp 12)) (a.eval (.tmp 13)) W hst hR.1 hR.2.1)
theorem Move.acts {j:Jn}{a:Ac}{j':Jn}{r:Rp}(m:Move j a j' r):j'.acts=j.acts:=by
 cases m with
 |last hk s hs he=>
  rw[zbv]
  split
  ·rfl
  split
  ·rfl
  split
  ·rfl
  ·rfl
 |_=>rfl
theorem z3g {j:Jn}{D:Dk}(h:Md j D)(a:Ac)(h0:0≤j.acts)(h1:j.acts≤400):
  (400≤j.acts∧doJ j a=(j,zaq 11))∨(j.acts<400∧(doJ j a).1.acts=j.acts+1∧∃D',Md (doJ j a).1 D'∧Trans {j with acts:=j.acts+1} D a (doJ j a).1 (doJ j a).2 D'):=by
 by_cases hf:400≤j.acts
 ·exact .inl ⟨hf,by rw[doJ,if_pos hf]⟩
 ·have e:doJ j a=zi2 {j with acts:=j.acts+1} a:=by rw[doJ,if_neg hf]
  have m:=zxn {j with acts:=j.acts+1} a
  rw[e]
  refine .inr ⟨by omega,m.acts,(h.bump (x:=j.acts+1) (by omega)).move m (fun hk hs=>?_)⟩
  show j.now.seq≤j.acts+1
  cases h with
  |idle p hs hz hD ht hq=>exact p.seq
  |commit P U k p hw hk hs hD ht he hse hrh hru hq hN=>exact p.seq
  |check k p hw hz hk hs hD ht hq=>exact p.seq
  |off l N P U p hs hf hD ht=>rw[p.now];show(0:Int)≤_;omega
  |back U k p hw hk hs hD ht=>rw[p.now];show(0:Int)≤_;omega
theorem zzb:Tells z09 [] 1 0 0:=by
 have hg:zav z09=true:=by kernel_rfl
 refine zpp hg rfl (by kernel_rfl) z1o (fun n h1 h2=>?_)
 have hr:zai z09 n=fitT ⟨#[]⟩:=by
  rw[z09,zf5 hg (by omega)]
  obtain⟨m,rfl⟩:∃m,n=m+1:=⟨n - 1,by omega⟩
  rw[List.getD_cons_succ,List.getD,List.getElem?_replicate,if_pos (by omega)]
  rfl
 rw[hr]
 intro he
 rw[zza] at he
 cases he
theorem z3h:Md zzi z09:=.idle ⟨rfl,zn0 (by decide) (by decide),by decide,rfl,rfl,fun hb=>by cases hb⟩ rfl rfl rfl zzb rfl
theorem Md.ready {j:Jn}{D:Dk}(h:Md j D)(h0:0≤j.acts)(h1:j.acts≤400):Ready j:=by
 have wrp:∀x:Int, -10≤x→x≤1000→IntKind.i64.wrap x=x:=fun x _ _=>by rw[IntKind.wrap_i64];omega
 have pw:∀{l:List Tx} {N P U:Int},Pow j→j.done.length≤24→j.now.seq≤j.last+2→j.last+1≤j.now.seq→0≤j.last→0≤j.ru→j.ru≤24→Ready j:=by
  intro _ _ _ _ p hd hq hq2 hl hu0 hu1
  have hs:=zar p.good
  have hsq:=p.seq
  refine⟨by omega,by rw[p.fL];exact Nat.zero_le _,by rw[p.fN];exact wrp _ (by omega) (by omega),wrp _ (by omega) (by omega),wrp _ (by omega) (by omega),by omega,by omega,(fun hd2=>by rw[p.up] at hd2;cases hd2),hu0,hu1,h0,h1⟩
 have len:∀{N P U:Int},Tells D (j.done.map zdw) N P U→j.done.length≤24:=by
  intro N P U ht
  have h5:=zng D
  rw[ht.tL,List.length_map] at h5
  exact h5
 have dn:∀{N:Int},Dn j N→j.fL.length≤24→ -1≤j.fN→j.fN≤402→(j.steps=[]→∀t∈fndL j.disk,Few t)→Ready j:=by
  intro N p hf hf0 hf1 hfew
  have h5:=p.lo
  have h6:=p.seq
  have h7:=p.last0
  refine⟨by rw[p.done];exact Nat.zero_le _,by unfold maxLen;omega,wrp _ (by omega) (by omega),by rw[p.now];exact wrp _ (by decide) (by decide),wrp _ (by omega) (by omega),by rw[p.now];decide,by rw[p.now];decide,fun _=>hfew,by rw[p.ru];exact Int.le_refl _,by rw[p.ru];decide,h0,h1⟩
 cases h with
 |idle p hs hz hD ht hq=>have:=ht.range;exact pw (l:=[]) (N:=0) (P:=0) (U:=0) p (len ht) (by omega) (by omega) (by omega) (by omega) (by omega)
 |commit P U k p hw hk hs hD ht he hse hrh hru hq hN=>
  have:=ht.range
  obtain⟨_,hg,_,hU0,hUn⟩:=zbo he
  have hn:=zeb j.sealed (zar hg).1 (zar hg).2.2
  have hUU:zb0 P U j.sealed=U+needN j.sealed.info.length j.sealed.rev.length:=by
   have h5:=he
   unfold sealE at h5
   split at h5
   ·cases h5
   ·rw[zb0,if_pos he,takeU,if_pos h5]
  exact pw (l:=[]) (N:=0) (P:=0) (U:=0) p (len ht) (by omega) (by omega) (by omega) (by omega) (by omega)
 |check k p hw hz hk hs hD ht hq=>have:=ht.range;exact pw (l:=[]) (N:=0) (P:=0) (U:=0) p (len ht) (by omega) (by omega) (by omega) (by omega) (by omega)
 |off l N P U p hs hf hD ht=>
  refine dn p (by rw[hf.1];exact Nat.zero_le _) (by omega) (by omega) (fun _ t ht2=>z0l (ht.goods t ?_))
  rwa [hD,ht.tL] at ht2
 |back U k p hw hk hs hD ht=>
  have h5:=ht.range
  have h6:=p.seq
  refine dn p (by have h7:=zng D;rwa [ht.tL] at h7) (by omega) (by omega) (fun hs2=>?_)
  rw[hs2] at hs
  have:=congrArg List.length hs
  rw[List.length_drop] at this
  simp at this
  omega
def PJ (j:Jn):Prop:=∃D,Md j D∧0≤j.acts∧j.acts≤400
theorem PJ.ready {j:Jn}(h:PJ j):Ready j:=by
 obtain⟨D,h1,h2,h3⟩:=h
 exact h1.ready h2 h3
theorem PJ.do {j:Jn}(h:PJ j)(a:Ac):PJ (doJ j a).1:=by
 obtain⟨D,h1,h2,h3⟩:=h
 rcases z3g h1 a h2 h3 with⟨h4,h5⟩|⟨h4,h5,D',h6,_⟩
 ·rw[h5];exact⟨D,h1,h2,h3⟩
 ·exact⟨D',h6,by omega,by omega⟩
theorem PJ.new:PJ zzi:=⟨z09,z3h,by decide,by decide⟩
def al1:Jn:=(doJ zzi ⟨1,0,0,2,⟨#[]⟩⟩).1
def al2:Jn:=(doJ al1 ⟨2,0,3,0,⟨#[120]⟩⟩).1
def al3:Jn:=(doJ al2 ⟨9,0,3,0,⟨#[]⟩⟩).1
theorem z3i:(doJ zzi ⟨1,0,0,2,⟨#[]⟩⟩).2.code=0:=by kernel_rfl
theorem z3j:(doJ al1 ⟨2,0,3,0,⟨#[120]⟩⟩).2.code=0:=by kernel_rfl
theorem z1p:(doJ al2 ⟨9,0,3,0,⟨#[]⟩⟩).2.n=1∧(doJ al2 ⟨9,0,3,0,⟨#[]⟩⟩).2.text=fitT ⟨#[120]⟩:=⟨by kernel_rfl,by kernel_rfl⟩
theorem z3k:(doJ al3 ⟨6,0,0,0,⟨#[]⟩⟩).2.code=9:=by kernel_rfl
def ztn (R1:Nat)(R2:Nat)(R3:Nat)(R4:Nat)(z:ByteArray):Nat→Value→World→Prop
 |0,v,_=>v=.pointer (some ⟨R1,0,none⟩)
 |1,v,_=>v=.int .i64 0
 |2,v,_=>v=.bool true
 |3,v,_=>v=.bool true
 |4,v,_=>v=.pointer (some ⟨R2,0,none⟩)
 |5,v,_=>v=.int .i64 0
 |6,v,_=>v=.bool true
 |7,v,_=>v=.bool true
 |8,v,_=>v=.bool true
 |9,v,_=>v=.pointer (some ⟨R3,2,none⟩)
 |10,v,_=>v=.string z
 |11,v,_=>v=.string z
 |12,v,_=>v=.bool true
 |13,v,_=>v=.bool true
 |14,v,_=>v=.bool true
 |15,v,_=>v=.pointer (some ⟨R3,1,none⟩)
 |16,v,_=>v=.int .i64 1
 |17,v,_=>v=.bool true
 |18,v,_=>v=.bool true
 |19,v,_=>v=.bool true
 |20,v,_=>v=.pointer (some ⟨R4,0,none⟩)
 |21,v,_=>v=.int .i64 9
 |22,v,_=>v=.bool true
 |23,v,_=>v=.bool true
 |24,v,_=>v=.bool true
 |_,_,_=>True
theorem zqp {R1:Nat}{R2:Nat}{R3:Nat}{R4:Nat}{z:ByteArray}{w w':World}(_hb:Below w.heap.size w w'){i:Nat}:∀kk uu,kk≠i→ztn R1 R2 R3 R4 z kk uu w→ztn R1 R2 R3 R4 z kk uu w':=by
 intro kk uu _ h
 match kk,h with
 |0,h|1,h|2,h|3,h|4,h|5,h|6,h|7,h|8,h|9,h|10,h|11,h|12,h|13,h|14,h|15,h|16,h|17,h|18,h|19,h|20,h|21,h|22,h|23,h|24,h=>exact h
 |_+25,_=>exact trivial
theorem zzc (w:World):Calls Tryz.prog 39 #[] w fun e w'=>e=.returned (.bool true)∧Below w.heap.size w w':=by
 obtain⟨z,hz⟩:∃z,z=fitT ⟨#[120]⟩:=⟨_,rfl⟩
 have HZ:=zaa hz
 clear hz
 go_enter Tryz.func39,Tryz.ntmps39
 go_wp2_with fail
 refine(ztm _).mono ?_
 rintro e w1 ⟨B,rfl,hB0,hJ,hbn⟩
 have HJ0:=zaa (hJ [] (by simp))
 have hBl:B<w1.heap.size:=HJ0.o.lt
 have HBW0:=zaa hbn
 have hs0:w.heap.size≤w1.heap.size:=hbn.size
 have HP0:=zaa PJ.new
 have HF0:Hid (∀P,P=doJ zzi ⟨1,0,0,2,⟨#[]⟩⟩→P.2.code=0∧∀j1,j1=P.1→∀P,P=doJ j1 ⟨2,0,3,0,⟨#[120]⟩⟩→P.2.code=0∧∀j2,j2=P.1→∀P,P=doJ j2 ⟨9,0,3,0,⟨#[]⟩⟩→P.2.n=1∧P.2.text=z∧∀j3,j3=P.1→∀P,P=doJ j3 ⟨6,0,0,0,⟨#[]⟩⟩→P.2.code=9∧True):=by
  rintro P rfl
  refine⟨z3i,?_⟩
  rintro j1 rfl P rfl
  refine⟨z3j,?_⟩
  rintro j2 rfl P rfl
  refine⟨z1p.1,z1p.2.trans HZ.o.symm,?_⟩
  rintro j3 rfl P rfl
  exact⟨z3k,trivial⟩
 clear hJ hbn
 obtain⟨j0,hj0⟩:∃j0,j0=zzi:=⟨_,rfl⟩
 rw[←hj0] at HJ0 HP0 HF0
 clear hj0
 go_wp2_with fail
 refine(zli B [B] j0 w1 HJ0.o (fun x hx=>by rw[List.mem_singleton.1 hx];omega) HP0.o.ready ⟨1,0,0,2,⟨#[]⟩⟩ (by decide) (by decide)).mono ?_
 rintro e w0b ⟨rfl,hJ,hB⟩
 obtain⟨P,hP⟩:∃P,P=doJ j0 ⟨1,0,0,2,⟨#[]⟩⟩:=⟨_,rfl⟩
 have HP1:Hid (PJ P.1):=by rw[hP];exact HP0.o.do _
 have HQ0:=zaa (HF0.o P hP)
 rw[←hP] at hJ⊢
 have hvr:vRp P.2=.agg #[.int .i64 0,.int .i64 P.2.n,.string P.2.text]:=by
  show Value.agg #[.int .i64 P.2.code,.int .i64 P.2.n,.string P.2.text]=_
  rw[HQ0.o.1]
 rw[hvr]
 obtain⟨j1,hj1⟩:∃x,x=P.1:=⟨_,rfl⟩
 rw[←hj1] at HP1 hJ
 have HF1:=zaa (HQ0.o.2 j1 hj1)
 clear hj1 hvr
 generalize P.2.n=n1 at *
 generalize P.2.text=t1 at *
 generalize P.2.code=c1 at *
 clear hP
 have hbs:w1.heap.size≤w0b.heap.size:=hB.size
 have HBB0:Hid (Below w.heap.size w w0b):=by
  have hx:=HBW0.o
  exact⟨hB.os.trans hx.os,hB.tape.trans hx.tape,hB.output.trans hx.output,Nat.le_trans hx.size hB.size,fun q hq=>(hB.block q (by have:=hx.size;omega) (by simp;omega)).trans (hx.block q hq)⟩
 go_wp2_with fail
 obtain⟨W1,hW⟩:∃W,W=w0b.alloc (.cells #[.int .i64 0,.int .i64 n1,.string t1] 31):=⟨_,rfl⟩
 rw[←hW]
 have hbn:Below w0b.heap.size w0b W1:=by rw[hW];exact below1 _ _
 have HJ1:=zaa (hJ.below hbn)
 have HBW1:=zaa (zad HBB0.o hbn)
 have hsz1:W1.heap.size=w0b.heap.size+1:=by rw[hW];simp
 have KR0:Hid (W1.heap[w0b.heap.size]?=some (.cells #[.int .i64 0,.int .i64 n1,.string t1] 31 (0,0))):=by rw[hW];exact heap_alloc_new _ _
 clear hW hbn hJ hB HBB0 HBW0
 refine(zli B [B] j1 W1 HJ1.o (fun x hx=>by rw[List.mem_singleton.1 hx];omega) HP1.o.ready ⟨2,0,3,0,⟨#[120]⟩⟩ (by decide) (by decide)).mono ?_
 rintro e w1b ⟨rfl,hJ,hB⟩
 obtain⟨P,hP⟩:∃P,P=doJ j1 ⟨2,0,3,0,⟨#[120]⟩⟩:=⟨_,rfl⟩
 have HP2:Hid (PJ P.1):=by rw[hP];exact HP1.o.do _
 have HQ1:=zaa (HF1.o P hP)
 rw[←hP] at hJ⊢
 have hvr:vRp P.2=.agg #[.int .i64 0,.int .i64 P.2.n,.string P.2.text]:=by
  show Value.agg #[.int .i64 P.2.code,.int .i64 P.2.n,.string P.2.text]=_
  rw[HQ1.o.1]
 rw[hvr]
 obtain⟨j2,hj2⟩:∃x,x=P.1:=⟨_,rfl⟩
 rw[←hj2] at HP2 hJ
 have HF2:=zaa (HQ1.o.2 j2 hj2)
 clear hj2 hvr
 generalize P.2.n=n2 at *
 generalize P.2.text=t2 at *
 generalize P.2.code=c2 at *
 clear hP
 have hbs:W1.heap.size≤w1b.heap.size:=hB.size
 have KR0b:=zaa ((hB.block _ (by omega) (by simp;omega)).trans KR0.o)
 clear KR0
 have KR0:=KR0b
 clear KR0b
 have HBB1:Hid (Below w.heap.size w w1b):=by
  have hx:=HBW1.o
  exact⟨hB.os.trans hx.os,hB.tape.trans hx.tape,hB.output.trans hx.output,Nat.le_trans hx.size hB.size,fun q hq=>(hB.block q (by have:=hx.size;omega) (by simp;omega)).trans (hx.block q hq)⟩
 go_wp2_with fail
 obtain⟨W2,hW⟩:∃W,W=w1b.alloc (.cells #[.int .i64 0,.int .i64 n2,.string t2] 31):=⟨_,rfl⟩
 rw[←hW]
 have hbn:Below w1b.heap.size w1b W2:=by rw[hW];exact below1 _ _
 have HJ2:=zaa (hJ.below hbn)
 have HBW2:=zaa (zad HBB1.o hbn)
 have hsz2:W2.heap.size=w1b.heap.size+1:=by rw[hW];simp
 have KR1:Hid (W2.heap[w1b.heap.size]?=some (.cells #[.int .i64 0,.int .i64 n2,.string t2] 31 (0,0))):=by rw[hW];exact heap_alloc_new _ _
 have KR0b:=zaa (zac hbn (by omega) KR0.o)
 clear KR0
 have KR0:=KR0b
 clear KR0b
 clear hW hbn hJ hB HBB1 HBW1
 refine(zli B [B] j2 W2 HJ2.o (fun x hx=>by rw[List.mem_singleton.1 hx];omega) HP2.o.ready ⟨9,0,3,0,⟨#[]⟩⟩ (by decide) (by decide)).mono ?_
 rintro e w2b ⟨rfl,hJ,hB⟩
 obtain⟨P,hP⟩:∃P,P=doJ j2 ⟨9,0,3,0,⟨#[]⟩⟩:=⟨_,rfl⟩
 have HP3:Hid (PJ P.1):=by rw[hP];exact HP2.o.do _
 have HQ2:=zaa (HF2.o P hP)
 rw[←hP] at hJ⊢
 have hvr:vRp P.2=.agg #[.int .i64 P.2.code,.int .i64 1,.string z]:=by
  show Value.agg #[.int .i64 P.2.code,.int .i64 P.2.n,.string P.2.text]=_
  rw[HQ2.o.1,HQ2.o.2.1]
 rw[hvr]
 obtain⟨j3,hj3⟩:∃x,x=P.1:=⟨_,rfl⟩
 rw[←hj3] at HP3 hJ
 have HF3:=zaa (HQ2.o.2.2 j3 hj3)
 clear hj3 hvr
 generalize P.2.n=n3 at *
 generalize P.2.text=t3 at *
 generalize P.2.code=c3 at *
 clear hP
 have hbs:W2.heap.size≤w2b.heap.size:=hB.size
 have KR0b:=zaa ((hB.block _ (by omega) (by simp;omega)).trans KR0.o)
 clear KR0
 have KR0:=KR0b
 clear KR0b
 have KR1b:=zaa ((hB.block _ (by omega) (by simp;omega)).trans KR1.o)
 clear KR1
 have KR1:=KR1b
 clear KR1b
 have HBB2:Hid (Below w.heap.size w w2b):=by
  have hx:=HBW2.o
  exact⟨hB.os.trans hx.os,hB.tape.trans hx.tape,hB.output.trans hx.output,Nat.le_trans hx.size hB.size,fun q hq=>(hB.block q (by have:=hx.size;omega) (by simp;omega)).trans (hx.block q hq)⟩
 go_wp2_with fail
 obtain⟨W3,hW⟩:∃W,W=w2b.alloc (.cells #[.int .i64 c3,.int .i64 1,.string z] 31):=⟨_,rfl⟩
 rw[←hW]
 have hbn:Below w2b.heap.size w2b W3:=by rw[hW];exact below1 _ _
 have HJ3:=zaa (hJ.below hbn)
 have HBW3:=zaa (zad HBB2.o hbn)
 have hsz3:W3.heap.size=w2b.heap.size+1:=by rw[hW];simp
 have KR2:Hid (W3.heap[w2b.heap.size]?=some (.cells #[.int .i64 c3,.int .i64 1,.string z] 31 (0,0))):=by rw[hW];exact heap_alloc_new _ _
 have KR0b:=zaa (zac hbn (by omega) KR0.o)
 clear KR0
 have KR0:=KR0b
 clear KR0b
 have KR1b:=zaa (zac hbn (by omega) KR1.o)
 clear KR1
 have KR1:=KR1b
 clear KR1b
 clear hW hbn hJ hB HBB2 HBW2
 refine(zli B [B] j3 W3 HJ3.o (fun x hx=>by rw[List.mem_singleton.1 hx];omega) HP3.o.ready ⟨6,0,0,0,⟨#[]⟩⟩ (by decide) (by decide)).mono ?_
 rintro e w3b ⟨rfl,hJ,hB⟩
 obtain⟨P,hP⟩:∃P,P=doJ j3 ⟨6,0,0,0,⟨#[]⟩⟩:=⟨_,rfl⟩
 have HP4:Hid (PJ P.1):=by rw[hP];exact HP3.o.do _
 have HQ3:=zaa (HF3.o P hP)
 rw[←hP] at hJ⊢
 have hvr:vRp P.2=.agg #[.int .i64 9,.int .i64 P.2.n,.string P.2.text]:=by
  show Value.agg #[.int .i64 P.2.code,.int .i64 P.2.n,.string P.2.text]=_
  rw[HQ3.o.1]
 rw[hvr]
 obtain⟨j4,hj4⟩:∃x,x=P.1:=⟨_,rfl⟩
 rw[←hj4] at HP4 hJ
 clear hj4 hvr
 generalize P.2.n=n4 at *
 generalize P.2.text=t4 at *
 generalize P.2.code=c4 at *
 clear hP
 have hbs:W3.heap.size≤w3b.heap.size:=hB.size
 have KR0b:=zaa ((hB.block _ (by omega) (by simp;omega)).trans KR0.o)
 clear KR0
 have KR0:=KR0b
 clear KR0b
 have KR1b:=zaa ((hB.block _ (by omega) (by simp;omega)).trans KR1.o)
 clear KR1
 have KR1:=KR1b
 clear KR1b
 have KR2b:=zaa ((hB.block _ (by omega) (by simp;omega)).trans KR2.o)
 clear KR2
 have KR2:=KR2b
 clear KR2b
 have HBB3:Hid (Below w.heap.size w w3b):=by
  have hx:=HBW3.o
  exact⟨hB.os.trans hx.os,hB.tape.trans hx.tape,hB.output.trans hx.output,Nat.le_trans hx.size hB.size,fun q hq=>(hB.block q (by have:=hx.size;omega) (by simp;omega)).trans (hx.block q hq)⟩
 go_wp2
 rename_i KK hKK
 obtain⟨W4,hW⟩:∃W,W=w3b.alloc (.cells #[.int .i64 9,.int .i64 n4,.string t4] 31):=⟨_,rfl⟩
 rw[←hW]
 have hbn:Below w3b.heap.size w3b W4:=by rw[hW];exact below1 _ _
 have HJ4:=zaa (hJ.below hbn)
 have HBW4:=zaa (zad HBB3.o hbn)
 have hsz4:W4.heap.size=w3b.heap.size+1:=by rw[hW];simp
 have KR3:Hid (W4.heap[w3b.heap.size]?=some (.cells #[.int .i64 9,.int .i64 n4,.string t4] 31 (0,0))):=by rw[hW];exact heap_alloc_new _ _
 have KR0b:=zaa (zac hbn (by omega) KR0.o)
 clear KR0
 have KR0:=KR0b
 clear KR0b
 have KR1b:=zaa (zac hbn (by omega) KR1.o)
 clear KR1
 have KR1:=KR1b
 clear KR1b
 have KR2b:=zaa (zac hbn (by omega) KR2.o)
 clear KR2
 have KR2:=KR2b
 clear KR2b
 clear hW hbn hJ hB HBB3 HBW3
 obtain⟨R1,hR1⟩:∃x,x=w0b.heap.size:=⟨_,rfl⟩
 obtain⟨R2,hR2⟩:∃x,x=w1b.heap.size:=⟨_,rfl⟩
 obtain⟨R3,hR3⟩:∃x,x=w2b.heap.size:=⟨_,rfl⟩
 obtain⟨R4,hR4⟩:∃x,x=w3b.heap.size:=⟨_,rfl⟩
 obtain⟨W,hW⟩:∃x,x=W4:=⟨_,rfl⟩
 rw[←hR1] at KR0
 rw[←hR2] at KR1
 rw[←hR3] at KR2
 rw[←hR4] at KR3
 rw[←hW] at KR0 KR1 KR2 KR3 HBW4
 rw[←hR1,←hR2,←hR3,←hR4,←hW]
 have C00:Hid (W.cell? ⟨R1,0,none⟩=some (.int .i64 0)):=(cell_of_row W _ 0 _ _ _ KR0.o).trans rfl
 have C01:Hid (W.cell? ⟨R1,1,none⟩=some (.int .i64 n1)):=(cell_of_row W _ 1 _ _ _ KR0.o).trans rfl
 have C02:Hid (W.cell? ⟨R1,2,none⟩=some (.string t1)):=(cell_of_row W _ 2 _ _ _ KR0.o).trans rfl
 have C10:Hid (W.cell? ⟨R2,0,none⟩=some (.int .i64 0)):=(cell_of_row W _ 0 _ _ _ KR1.o).trans rfl
 have C11:Hid (W.cell? ⟨R2,1,none⟩=some (.int .i64 n2)):=(cell_of_row W _ 1 _ _ _ KR1.o).trans rfl
 have C12:Hid (W.cell? ⟨R2,2,none⟩=some (.string t2)):=(cell_of_row W _ 2 _ _ _ KR1.o).trans rfl
 have C20:Hid (W.cell? ⟨R3,0,none⟩=some (.int .i64 c3)):=(cell_of_row W _ 0 _ _ _ KR2.o).trans rfl
 have C21:Hid (W.cell? ⟨R3,1,none⟩=some (.int .i64 1)):=(cell_of_row W _ 1 _ _ _ KR2.o).trans rfl
 have C22:Hid (W.cell? ⟨R3,2,none⟩=some (.string z)):=(cell_of_row W _ 2 _ _ _ KR2.o).trans rfl
 have C30:Hid (W.cell? ⟨R4,0,none⟩=some (.int .i64 9)):=(cell_of_row W _ 0 _ _ _ KR3.o).trans rfl
 have C31:Hid (W.cell? ⟨R4,1,none⟩=some (.int .i64 n4)):=(cell_of_row W _ 1 _ _ _ KR3.o).trans rfl
 have C32:Hid (W.cell? ⟨R4,2,none⟩=some (.string t4)):=(cell_of_row W _ 2 _ _ _ KR3.o).trans rfl
 have hR1l:R1<W.heap.size:=(Array.getElem?_eq_some_iff.1 KR0.o).1
 have hR2l:R2<W.heap.size:=(Array.getElem?_eq_some_iff.1 KR1.o).1
 have hR3l:R3<W.heap.size:=(Array.getElem?_eq_some_iff.1 KR2.o).1
 have hR4l:R4<W.heap.size:=(Array.getElem?_eq_some_iff.1 KR3.o).1
 clear hR1 hR2 hR3 hR4 hW
 have hR1:=hR1l
 have hR2:=hR2l
 have hR3:=hR3l
 have hR4:=hR4l
 have TAIL:∀(g:Nat→Value) (W':World),Below W.heap.size W W'→KK ⟨#[.bool true,g 1,g 2,g 3,g 4,g 5,g 6,g 7,g 8,g 9,g 10,g 11,g 12,g 13,g 14,g 15,g 16,g 17,g 18,g 19,g 20,g 21,g 22,g 23,g 24,g 25,g 26,g 27,g 28,g 29,g 30,g 31,g 32,g 33,g 34,g 35,g 36,g 37,g 38,g 39,g 40,g 41,g 42,g 43,g 44],[]⟩ W':=by
  intro g W' hb
  apply hKK
  clear hKK
  go_wp2
  go_ret
  exact⟨rfl,zad HBW4.o hb⟩
 have HTAIL:=zaa TAIL
 clear TAIL hKK
 refine(show∀A0:Act,A0=_→Code.wp Tryz.prog _ _ A0 _ from fun A0 hA0=>?_) _ rfl
 have hsz:A0.tmps.size=45:=by rw[hA0];rfl
 have hdf:A0.defers=[]:=by rw[hA0]
 have v2:A0.eval (.tmp 2)=.pointer (some ⟨R1,0,none⟩):=by rw[hA0];rfl
 have v3:A0.eval (.tmp 3)=.pointer (some ⟨R2,0,none⟩):=by rw[hA0];rfl
 have v4:A0.eval (.tmp 4)=.pointer (some ⟨R3,0,none⟩):=by rw[hA0];rfl
 have v5:A0.eval (.tmp 5)=.pointer (some ⟨R4,0,none⟩):=by rw[hA0];rfl
 clear hA0
 refine zcl (fun w'=>Below W.heap.size W w') [21,22,23,24,25,26,27,28,29,30,31,32,33,34,35,36,37,38,39,40,41,42,43,44,0] (ztn R1 R2 R3 R4 z) (by kernel_rfl) (by kernel_rfl) (by kernel_rfl) ((Below.refl _ _).drew) ⟨?_,?_,?_,?_,?_,?_,?_,?_,?_,?_,?_,?_,?_,?_,?_,?_,?_,?_,?_,?_,?_,?_,?_,?_,?_,trivial⟩ ?_
 ·intro a w' hF hR hp
  have z2:=(hF.other 2 rfl).trans v2
  exact zah _ rfl rfl (by revert z2;generalize a.eval=ρ;intro z2;simp only[execOp];go_simp) hF hsz hR rfl
 ·intro a w' hF hR hp
  have p21:a.eval (.tmp 21)=.pointer (some ⟨R1,0,none⟩):=hp ⟨0,.data⟩ (by simp) rfl
  have c0:w'.cell? ⟨R1,0,none⟩=some (.int .i64 0):=zab hR hR1 C00.o
  exact zah _ rfl rfl (by revert p21;generalize a.eval=ρ;intro p21;simp only[execOp];go_simp) hF hsz hR rfl
 ·intro a w' hF hR hp
  have p22:a.eval (.tmp 22)=.int .i64 0:=hp ⟨1,.data⟩ (by simp) rfl
  exact zah _ rfl rfl (by have pc0:=Act.eval_const a (.int .i64 0);revert p22 pc0;generalize a.eval=ρ;intro p22 pc0;simp only[execOp];go_simp) hF hsz hR rfl
 ·intro a w' hF hR hp
  have p23:a.eval (.tmp 23)=.bool true:=hp ⟨2,.data⟩ (by simp) rfl
  exact zah _ rfl rfl (by revert p23;generalize a.eval=ρ;intro p23;simp only[execOp];go_simp) hF hsz hR rfl
 ·intro a w' hF hR hp
  have pg:a.eval (.tmp 24)=.bool true:=hp ⟨3,Ground.guard⟩ (by simp) rfl
  have z3:=(hF.other 3 rfl).trans v3
  exact zbx _ rfl (zal (b:=true) rfl rfl pg) (by revert z3;generalize a.eval=ρ;intro z3;simp only[execOp];go_simp) hF hsz hR rfl
 ·intro a w' hF hR hp
  have pg:a.eval (.tmp 24)=.bool true:=hp ⟨3,Ground.guard⟩ (by simp) rfl
  have p25:a.eval (.tmp 25)=.pointer (some ⟨R2,0,none⟩):=hp ⟨4,.data⟩ (by simp) rfl
  have c0:w'.cell? ⟨R2,0,none⟩=some (.int .i64 0):=zab hR hR2 C10.o
  exact zbx _ rfl (zal (b:=true) rfl rfl pg) (by revert p25;generalize a.eval=ρ;intro p25;simp only[execOp];go_simp) hF hsz hR rfl
 ·intro a w' hF hR hp
  have pg:a.eval (.tmp 24)=.bool true:=hp ⟨3,Ground.guard⟩ (by simp) rfl
  have p26:a.eval (.tmp 26)=.int .i64 0:=hp ⟨5,.data⟩ (by simp) rfl
  exact zbx _ rfl (zal (b:=true) rfl rfl pg) (by have pc0:=Act.eval_const a (.int .i64 0);revert p26 pc0;generalize a.eval=ρ;intro p26 pc0;simp only[execOp];go_simp) hF hsz hR rfl
 ·intro a w' hF hR hp
  have p24:a.eval (.tmp 24)=.bool true:=hp ⟨3,.data⟩ (by simp) rfl
  have p27:a.eval (.tmp 27)=.bool true:=hp ⟨6,.data⟩ (by simp) rfl
  exact zah _ rfl rfl (by revert p24 p27;generalize a.eval=ρ;intro p24 p27;simp only[execOp];go_simp) hF hsz hR rfl
 ·intro a w' hF hR hp
  have p28:a.eval (.tmp 28)=.bool true:=hp ⟨7,.data⟩ (by simp) rfl
  exact zah _ rfl rfl (by revert p28;generalize a.eval=ρ;intro p28;simp only[execOp];go_simp) hF hsz hR rfl
 ·intro a w' hF hR hp
  have pg:a.eval (.tmp 29)=.bool true:=hp ⟨8,Ground.guard⟩ (by simp) rfl
  have z4:=(hF.other 4 rfl).trans v4
  exact zbx _ rfl (zal (b:=true) rfl rfl pg) (by revert z4;generalize a.eval=ρ;intro z4;simp only[execOp];go_simp) hF hsz hR rfl
 ·intro a w' hF hR hp
  have pg:a.eval (.tmp 29)=.bool true:=hp ⟨8,Ground.guard⟩ (by simp) rfl
  have p30:a.eval (.tmp 30)=.pointer (some ⟨R3,2,none⟩):=hp ⟨9,.data⟩ (by simp) rfl
  have c0:w'.cell? ⟨R3,2,none⟩=some (.string z):=zab hR hR3 C22.o
  exact zbx _ rfl (zal (b:=true) rfl rfl pg) (by revert p30;generalize a.eval=ρ;intro p30;simp only[execOp];go_simp) hF hsz hR rfl
 ·intro a w' hF hR hp
  have pg:a.eval (.tmp 29)=.bool true:=hp ⟨8,Ground.guard⟩ (by simp) rfl
  refine zg5 25 #[.string ⟨#[120]⟩] rfl (zal (b:=true) rfl rfl pg) (by have pf:=Act.eval_func a 25;have pc0:=Act.eval_const a (.string ⟨#[120]⟩);revert pf pc0;generalize a.eval=ρ;intro pf pc0;simp only[execOp];go_simp) _ (fit_any ⟨#[120]⟩ _ (by decide)) ?_
  rintro e w2 ⟨rfl,hb2⟩
  refine⟨_,rfl,_,rfl,zad hR hb2,?_,zqp hb2⟩
  show ztn _ _ _ _ _ _ ((a.put (some 32) _).eval (.tmp 32)) w2
  rw[zan hF hsz (by decide)]
  rw[←HZ.o]
  exact rfl
 ·intro a w' hF hR hp
  have pg:a.eval (.tmp 29)=.bool true:=hp ⟨8,Ground.guard⟩ (by simp) rfl
  have p31:a.eval (.tmp 31)=.string z:=hp ⟨10,.data⟩ (by simp) rfl
  have p32:a.eval (.tmp 32)=.string z:=hp ⟨11,.data⟩ (by simp) rfl
  exact zbx _ rfl (zal (b:=true) rfl rfl pg) (by revert p31 p32;generalize a.eval=ρ;intro p31 p32;simp only[execOp];go_simp) hF hsz hR rfl
 ·intro a w' hF hR hp
  have p29:a.eval (.tmp 29)=.bool true:=hp ⟨8,.data⟩ (by simp) rfl
  have p33:a.eval (.tmp 33)=.bool true:=hp ⟨12,.data⟩ (by simp) rfl
  exact zah _ rfl rfl (by revert p29 p33;generalize a.eval=ρ;intro p29 p33;simp only[execOp];go_simp) hF hsz hR rfl
 ·intro a w' hF hR hp
  have p34:a.eval (.tmp 34)=.bool true:=hp ⟨13,.data⟩ (by simp) rfl
  exact zah _ rfl rfl (by revert p34;generalize a.eval=ρ;intro p34;simp only[execOp];go_simp) hF hsz hR rfl
 ·intro a w' hF hR hp
  have pg:a.eval (.tmp 35)=.bool true:=hp ⟨14,Ground.guard⟩ (by simp) rfl
  have z4:=(hF.other 4 rfl).trans v4
  exact zbx _ rfl (zal (b:=true) rfl rfl pg) (by revert z4;generalize a.eval=ρ;intro z4;simp only[execOp];go_simp) hF hsz hR rfl
 ·intro a w' hF hR hp
  have pg:a.eval (.tmp 35)=.bool true:=hp ⟨14,Ground.guard⟩ (by simp) rfl
  have p36:a.eval (.tmp 36)=.pointer (some ⟨R3,1,none⟩):=hp ⟨15,.data⟩ (by simp) rfl
  have c0:w'.cell? ⟨R3,1,none⟩=some (.int .i64 1):=zab hR hR3 C21.o
  exact zbx _ rfl (zal (b:=true) rfl rfl pg) (by revert p36;generalize a.eval=ρ;intro p36;simp only[execOp];go_simp) hF hsz hR rfl
 ·intro a w' hF hR hp
  have pg:a.eval (.tmp 35)=.bool true:=hp ⟨14,Ground.guard⟩ (by simp) rfl
  have p37:a.eval (.tmp 37)=.int .i64 1:=hp ⟨16,.data⟩ (by simp) rfl
  exact zbx _ rfl (zal (b:=true) rfl rfl pg) (by have pc0:=Act.eval_const a (.int .i64 1);revert p37 pc0;generalize a.eval=ρ;intro p37 pc0;simp only[execOp];go_simp) hF hsz hR rfl
 ·intro a w' hF hR hp
  have p35:a.eval (.tmp 35)=.bool true:=hp ⟨14,.data⟩ (by simp) rfl
  have p38:a.eval (.tmp 38)=.bool true:=hp ⟨17,.data⟩ (by simp) rfl
  exact zah _ rfl rfl (by revert p35 p38;generalize a.eval=ρ;intro p35 p38;simp only[execOp];go_simp) hF hsz hR rfl
 ·intro a w' hF hR hp
  have p39:a.eval (.tmp 39)=.bool true:=hp ⟨18,.data⟩ (by simp) rfl
  exact zah _ rfl rfl (by revert p39;generalize a.eval=ρ;intro p39;simp only[execOp];go_simp) hF hsz hR rfl
 ·intro a w' hF hR hp
  have pg:a.eval (.tmp 40)=.bool true:=hp ⟨19,Ground.guard⟩ (by simp) rfl
  have z5:=(hF.other 5 rfl).trans v5
  exact zbx _ rfl (zal (b:=true) rfl rfl pg) (by revert z5;generalize a.eval=ρ;intro z5;simp only[execOp];go_simp) hF hsz hR rfl
 ·intro a w' hF hR hp
  have pg:a.eval (.tmp 40)=.bool true:=hp ⟨19,Ground.guard⟩ (by simp) rfl
  have p41:a.eval (.tmp 41)=.pointer (some ⟨R4,0,none⟩):=hp ⟨20,.data⟩ (by simp) rfl
  have c0:w'.cell? ⟨R4,0,none⟩=some (.int .i64 9):=zab hR hR4 C30.o
  exact zbx _ rfl (zal (b:=true) rfl rfl pg) (by revert p41;generalize a.eval=ρ;intro p41;simp only[execOp];go_simp) hF hsz hR rfl
 ·intro a w' hF hR hp
  have pg:a.eval (.tmp 40)=.bool true:=hp ⟨19,Ground.guard⟩ (by simp) rfl
  have p42:a.eval (.tmp 42)=.int .i64 9:=hp ⟨21,.data⟩ (by simp) rfl
  exact zbx _ rfl (zal (b:=true) rfl rfl pg) (by have pc0:=Act.eval_const a (.int .i64 9);revert p42 pc0;generalize a.eval=ρ;intro p42 pc0;simp only[execOp];go_simp) hF hsz hR rfl
 ·intro a w' hF hR hp
  have p40:a.eval (.tmp 40)=.bool true:=hp ⟨19,.data⟩ (by simp) rfl
  have p43:a.eval (.tmp 43)=.bool true:=hp ⟨22,.data⟩ (by simp) rfl
  exact zah _ rfl rfl (by revert p40 p43;generalize a.eval=ρ;intro p40 p43;simp only[execOp];go_simp) hF hsz hR rfl
 ·intro a w' hF hR hp
  have p44:a.eval (.tmp 44)=.bool true:=hp ⟨23,.data⟩ (by simp) rfl
  exact zah _ rfl rfl (by revert p44;generalize a.eval=ρ;intro p44;simp only[execOp];go_simp) hF hsz hR rfl
 ·intro a W' hF hR hp
  have p0:a.eval (.tmp 0)=.bool true:=hp 24 (by decide)
  have hsa:a.tmps.size=45:=hF.size.trans hsz
  have hlit:a=⟨#[_,_,_,_,_,_,_,_,_,_,_,_,_,_,_,_,_,_,_,_,_,_,_,_,_,_,_,_,_,_,_,_,_,_,_,_,_,_,_,_,_,_,_,_,_],[]⟩:=zb5 a 45 hsa (hF.defers.trans hdf)
  dsimp only at hlit
  rw[p0] at hlit
  show KK a _
  exact(congrArg (fun x=>KK x _) hlit).mpr (HTAIL.o (fun k=>a.eval (.tmp k)) _ hR)
def ac0:Ac:=⟨0,0,0,0,⟨#[]⟩⟩
def ActAt (w:World)(b o:Nat)(x:Ac):Prop:=
 w.cell? ⟨b,o,none⟩=some (.int .i64 x.kind)∧w.cell? ⟨b,o+1,none⟩=some (.int .i64 x.h)∧w.cell? ⟨b,o+2,none⟩=some (.int .i64 x.b)∧w.cell? ⟨b,o+3,none⟩=some (.int .i64 x.n)∧w.cell? ⟨b,o+4,none⟩=some (.string x.text)
def SegA (w:World)(a:Option Addr)(l:List Ac):Prop:=l=[]∨∃b off,a=some ⟨b,off,none⟩∧b<w.heap.size∧∀i,i<l.length→ActAt w b (off+i*5) (l.getD i ac0)
theorem ActAt.ext {w w':World}{b o:Nat}{x:Ac}(h:ActAt w b o x)(e:Ext w w'):ActAt w' b o x:=⟨e.cell _ _ _ h.1,e.cell _ _ _ h.2.1,e.cell _ _ _ h.2.2.1,e.cell _ _ _ h.2.2.2.1,e.cell _ _ _ h.2.2.2.2⟩
theorem SegA.ext {w w':World}{a:Option Addr}{l:List Ac}(h:SegA w a l)(e:Ext w w'):SegA w' a l:=by
 rcases h with h|⟨b,off,rfl,hlt,hc⟩
 ·exact .inl h
 ·exact .inr ⟨b,off,rfl,Nat.lt_of_lt_of_le hlt e.size,fun i hi=>(hc i hi).ext e⟩
structure OkA (x:Ac):Prop where
 n:x.n≤9223372036854775807
 text:x.text.size≤maxLen
def jOf (l:List Ac)(k:Nat):Jn:=(l.take k).foldl (fun j a=>(doJ j a).1) zzi
def rOf (l:List Ac)(k:Nat):Rp:=(doJ (jOf l k) (l.getD k ac0)).2
theorem z1b (l:List Ac):jOf l 0=zzi:=by rw[jOf,List.take_zero];rfl
theorem zto {l:List Ac}{k:Nat}(h:k<l.length):jOf l (k+1)=(doJ (jOf l k) (l.getD k ac0)).1:=by
 rw[jOf,List.take_add_one,List.getElem?_eq_getElem h,List.foldl_append,List.getD,List.getElem?_eq_getElem h]
 rfl
theorem zzd (l:List Ac)(k:Nat):PJ (jOf l k):=by
 unfold jOf
 generalize l.take k=q
 have:∀(q:List Ac) (j:Jn),PJ j→PJ (q.foldl (fun j a=>(doJ j a).1) j):=by
  intro q
  induction q with
  |nil=>intro j h;exact h
  |cons a q ih=>intro j h;exact ih _ (h.do a)
 exact this q _ PJ.new
def played (l:List Ac):Nat:=min l.length 150
theorem infoR:(Tryz.prog.info? 31).map (fun i=>(i.zero,i.size,i.bytes))=some (some (.agg #[.int .i64 0,.int .i64 0,.string ⟨#[]⟩]),3,32):=by kernel_rfl
def zeroR (n:Nat):Array Value:=madeCells #[.int .i64 0,.int .i64 0,.string ⟨#[]⟩] (n*3)
theorem makeR (n:Nat)(h:n≤1000)(w:World):(Instr.makeSlice 76 (.int .i64 (n:Int)) (.int .i64 (n:Int))).run Tryz.prog w=.ok (.slice (some ⟨w.heap.size,0,none⟩) n n) (w.alloc (.cells (zeroR n) 31)):=by
 obtain⟨i0,hi,hz0,hz1,hz2⟩:=info_parts infoR
 have:=run_make (P:=Tryz.prog) w 76 31 i0 (.agg #[.int .i64 0,.int .i64 0,.string ⟨#[]⟩]) Tryz.underlying76 hi hz0 .i64 .i64 n n (by omega) (by omega) (by rw[hz2];omega) (by omega)
 rw[this,hz1,Int.toNat_natCast]
 rfl
def RepA (l:List Ac)(k:Nat)(arr:Array Value):Prop:=
 arr.size=l.length*3∧∀i,i<k→arr[i*3]?=some (.int .i64 (rOf l i).code)∧arr[i*3+1]?=some (.int .i64 (rOf l i).n)∧arr[i*3+2]?=some (.string (rOf l i).text)
theorem RepA.put {l:List Ac}{k:Nat}{arr:Array Value}(h:RepA l k arr)(hk:k<l.length):
  RepA l (k+1) (((arr.setIfInBounds (k*3) (.int .i64 (rOf l k).code)).setIfInBounds (k*3+1) (.int .i64 (rOf l k).n)).setIfInBounds (k*3+2) (.string (rOf l k).text)):=by
 obtain⟨hs,hc⟩:=h
 refine⟨by simp[hs],fun i hi=>?_⟩
 by_cases e:i=k
 ·subst e
  refine⟨?_,?_,?_⟩
  ·rw[Array.getElem?_setIfInBounds_ne (by omega),Array.getElem?_setIfInBounds_ne (by omega),Array.getElem?_setIfInBounds_self_of_lt (by omega)]
  ·rw[Array.getElem?_setIfInBounds_ne (by omega),Array.getElem?_setIfInBounds_self_of_lt (by simp;omega)]
  ·rw[Array.getElem?_setIfInBounds_self_of_lt (by simp;omega)]
 ·obtain⟨h0,h1,h2⟩:=hc i (by omega)
  refine⟨?_,?_,?_⟩
  ·rw[Array.getElem?_setIfInBounds_ne (by omega),Array.getElem?_setIfInBounds_ne (by omega),Array.getElem?_setIfInBounds_ne (by omega)]
   exact h0
  ·rw[Array.getElem?_setIfInBounds_ne (by omega),Array.getElem?_setIfInBounds_ne (by omega),Array.getElem?_setIfInBounds_ne (by omega)]
   exact h1
  ·rw[Array.getElem?_setIfInBounds_ne (by omega),Array.getElem?_setIfInBounds_ne (by omega),Array.getElem?_setIfInBounds_ne (by omega)]
   exact h2
theorem runF_any (a:Option Addr)(c:Nat)(l:List Ac)(w:World)(hA:SegA w a l)(hlen:l.length≤400)(hok:∀x∈l,OkA x):
  Calls Tryz.prog 40 #[.slice a l.length c] w fun e w'=>∃G arr,e=.returned (.tuple #[.slice (some ⟨G,0,none⟩) l.length l.length,.int .i64 0])∧w.heap.size≤G∧w'.heap[G]?=some (.cells arr 31 (0,0))∧RepA l l.length arr∧Below w.heap.size w w':=by
 have HA:=zaa hA
 have HOK:=zaa hok
 clear hA hok
 have hmk:∀w:World,(Instr.makeSlice 76 (.int .i64 (l.length:Int)) (.int .i64 (l.length:Int))).run Tryz.prog w=.ok (.slice (some ⟨w.heap.size,0,none⟩) l.length l.length) (w.alloc (.cells (zeroR l.length) 31)):=makeR l.length (by omega)
 have hn:¬(400:Int)<(l.length:Int):=by omega
 go_enter Tryz.func40,Tryz.ntmps40
 go_wp2_with fail
 refine(ztm _).mono ?_
 rintro e w1 ⟨B,rfl,hB0,hJ,hbn⟩
 have HJ1:=zaa (hJ [] (by simp))
 have HB1:=zaa hbn
 have hBl:B<w1.heap.size:=HJ1.o.lt
 have hs1:w.heap.size≤w1.heap.size:=hbn.size
 clear hJ hbn
 go_wp2
 obtain⟨G,hG⟩:∃G,G=w1.heap.size:=⟨_,rfl⟩
 obtain⟨W1,hW1⟩:∃W1,W1=w1.alloc (.cells (zeroR l.length) 31):=⟨_,rfl⟩
 rw[←hW1,←hG]
 have hbW:Below w1.heap.size w1 W1:=by rw[hW1];exact below1 _ _
 have HJ2:Hid (JAt W1 B [G,B] zzi):=HJ1.o.more hbW (by omega)
 have HB2:=zaa (zad HB1.o hbW)
 have KG2:Hid (W1.heap[G]?=some (.cells (zeroR l.length) 31 (0,0))):=by rw[hW1,hG];exact heap_alloc_new _ _
 have hGw:w.heap.size≤G:=by omega
 have hGB:G≠B:=by omega
 clear hW1 hG hbW HJ1 HB1 hmk hs1 hBl
 go_loopw [17] (fun i wr=>∃(k:Nat) (arr:Array Value),k≤l.length∧i=.int .i64 k∧Hid (JAt wr B [G,B] (jOf l k))∧Hid (wr.heap[G]?=some (.cells arr 31 (0,0)))∧Hid (RepA l k arr)∧Hid (Below w.heap.size w wr)) (fun i _=>l.length - (intOf i).toNat)
 case atStart=>exact⟨0,_,Nat.zero_le _,rfl,by rw[z1b];exact HJ2,KG2,⟨size_madeCells _ _,fun i hi=>absurd hi (Nat.not_lt_zero _)⟩,HB2⟩
 case round=>
  obtain⟨k,arr,hk,rfl,HJr,KGr,HAr,HBr⟩:=hrel
  clear HJ2 HB2 KG2
  by_cases hk1:k<l.length
  ·have i1:(k:Int)<(l.length:Int):=by omega
   have i0:(0:Int)≤(k:Int):=by omega
   obtain⟨b,off,rfl,hb,hc⟩:=HA.o.resolve_left (fun e=>by rw[e] at hk1;simp at hk1)
   obtain⟨x,hx⟩:∃x,x=l.getD k ac0:=⟨_,rfl⟩
   have hca:=hc k hk1
   rw[←hx] at hca
   have e0:=zab HBr.o hb hca.1
   have e1:=zab HBr.o hb hca.2.1
   have e2:=zab HBr.o hb hca.2.2.1
   have e3:=zab HBr.o hb hca.2.2.2.1
   have e4:=zab HBr.o hb hca.2.2.2.2
   have HX:=zaa hx
   have hxm:OkA x:=HOK.o x (by rw[hx,List.getD,List.getElem?_eq_getElem hk1];exact List.getElem_mem hk1)
   have HXM:=zaa hxm
   have hsr:w.heap.size≤wr.heap.size:=HBr.o.size
   have hGl:G<wr.heap.size:=(Array.getElem?_eq_some_iff.1 KGr.o).1
   have hBr:B<wr.heap.size:=HJr.o.lt
   clear hc hca hx hb hxm
   go_wp2_with fail
   obtain⟨Wr,hWr⟩:∃Wr,Wr=wr.alloc (.cells #[.int .i64 x.kind,.int .i64 x.h,.int .i64 x.b,.int .i64 x.n,.string x.text] 23):=⟨_,rfl⟩
   rw[←hWr]
   have hbr:Below wr.heap.size wr Wr:=by rw[hWr];exact below1 _ _
   have hsW:Wr.heap.size=wr.heap.size+1:=by rw[hWr];simp
   have HJs:=zaa (HJr.o.below hbr)
   have KGs:=zaa (zac hbr hGl KGr.o)
   have HBs:=zaa (zad HBr.o hbr)
   clear hWr hbr e0 e1 e2 e3 e4 HJr KGr HBr
   refine(zli B [G,B] (jOf l k) Wr HJs.o (fun y hy=>?_) (zzd l k).ready x HXM.o.n HXM.o.text).mono ?_
   ·simp at hy
    omega
   rintro e wq ⟨rfl,hJq,hBq⟩
   have hrE:(doJ (jOf l k) x).2=rOf l k:=by rw[rOf,HX.o]
   have hjE:(doJ (jOf l k) x).1=jOf l (k+1):=by rw[zto hk1,HX.o]
   rw[hjE] at hJq
   rw[hrE]
   have HRP:=zaa (HAr.o.put hk1)
   obtain⟨r,hr⟩:∃r,r=rOf l k:=⟨_,rfl⟩
   rw[←hr] at HRP⊢
   rw[show vRp r=.agg #[.int .i64 r.code,.int .i64 r.n,.string r.text] from rfl]
   have KGq:Hid (wq.heap[G]?=some (.cells arr 31 (0,0))):=(hBq.block _ (by omega) (by simp;exact hGB)).trans KGs.o
   have HJq:=zaa hJq
   have HBq:Hid (Below w.heap.size w wq):=by
    have hx:=HBs.o
    exact⟨hBq.os.trans hx.os,hBq.tape.trans hx.tape,hBq.output.trans hx.output,Nat.le_trans hx.size hBq.size,fun q hq=>(hBq.block q (by have:=hx.size;omega) (by simp;omega)).trans (hx.block q hq)⟩
   have hsq:Wr.heap.size≤wq.heap.size:=hBq.size
   have hGq:G<wq.heap.size:=by omega
   have hsA:=HAr.o.1
   have c0:wq.cell? ⟨G,k*3,none⟩=some (arr[k*3]'(by omega)):=by rw[cell_of_row wq _ _ _ _ _ KGq.o];exact Array.getElem?_eq_getElem _
   have c1:wq.cell? ⟨G,k*3+1,none⟩=some (arr[k*3+1]'(by omega)):=by rw[cell_of_row wq _ _ _ _ _ KGq.o];exact Array.getElem?_eq_getElem _
   have c2:wq.cell? ⟨G,k*3+2,none⟩=some (arr[k*3+2]'(by omega)):=by rw[cell_of_row wq _ _ _ _ _ KGq.o];exact Array.getElem?_eq_getElem _
   generalize arr[k*3]'(by omega)=z0 at c0
   generalize arr[k*3+1]'(by omega)=z1 at c1
   generalize arr[k*3+2]'(by omega)=z2 at c2
   have f0:wq.frozen? ⟨G,k*3,none⟩=false:=frozen_of_row wq _ _ _ _ KGq.o
   have f1:wq.frozen? ⟨G,k*3+1,none⟩=false:=frozen_of_row wq _ _ _ _ KGq.o
   have f2:wq.frozen? ⟨G,k*3+2,none⟩=false:=frozen_of_row wq _ _ _ _ KGq.o
   clear hrE hjE hr hBq hJq HJs KGs HBs hsA HAr
   go_wp2
   go_roundw
   case rel=>
    refine⟨k+1,_,by omega,by go_num,((HJq.o.set (by simp) hGB _ _).set (by simp) hGB _ _).set (by simp) hGB _ _,heap_setCell_same _ _ _ _ _ _ (heap_setCell_same _ _ _ _ _ _ (heap_setCell_same _ _ _ _ _ _ KGq.o)),HRP,?_⟩
    exact Below.setCell (Below.setCell (Below.setCell HBq.o hGw _) hGw _) hGw _
   case measure=>first|(simp[intOf];omega)|simp[intOf]
  ·have hkl:k=l.length:=by omega
   subst hkl
   have ni:¬(l.length:Int)<(l.length:Int):=by omega
   go_wp2
   go_ret2
   first|exact⟨G,arr,rfl,hGw,KGr.o,HAr.o,HBr.o⟩|exact⟨G,rfl,hGw,⟨arr,KGr.o,HAr.o⟩,HBr.o⟩|exact⟨G,rfl,hGw,arr,KGr.o,HAr.o,HBr.o⟩
def cellsA:List Ac→List Value
 |[]=>[]
 |x::q=>.int .i64 x.kind:: .int .i64 x.h:: .int .i64 x.b:: .int .i64 x.n:: .string x.text::cellsA q
theorem cellsA_length (q:List Ac):(cellsA q).length=q.length*5:=by
 induction q with
 |nil=>rfl
 |cons x r ih=>simp[cellsA,ih];omega
theorem cellsA_at (q:List Ac)(i:Nat)(hi:i<q.length)(j:Nat)(hj:j<5):(cellsA q)[i*5+j]?=(cellsA [q.getD i ac0])[j]?:=by
 induction q generalizing i with
 |nil=>simp at hi
 |cons y r ih=>
  have e:cellsA (y::r)=cellsA [y]++cellsA r:=rfl
  cases i with
  |zero=>rw[e,List.getElem?_append_left (by simp[cellsA];omega),Nat.zero_mul,Nat.zero_add];rfl
  |succ i=>
   rw[e,List.getElem?_append_right (by simp[cellsA];omega)]
   have e2:(i+1)*5+j - (cellsA [y]).length=i*5+j:=by simp[cellsA];omega
   rw[e2]
   exact ih i (by simpa using hi)
theorem cellsA_one (q:List Ac):∀u∈cellsA q,u.oneCell'=true:=by
 induction q with
 |nil=>intro u h;cases h
 |cons x r ih=>
  intro u h
  simp only[cellsA,List.mem_cons] at h
  rcases h with rfl|rfl|rfl|rfl|rfl|h
  ·rfl
  ·rfl
  ·rfl
  ·rfl
  ·rfl
  ·exact ih u h
theorem infoA:(Tryz.prog.info? 23).map (fun i=>(i.zero,i.size,i.bytes))=some (some (.agg #[.int .i64 0,.int .i64 0,.int .i64 0,.int .i64 0,.string ⟨#[]⟩]),5,48):=by kernel_rfl
theorem SegA.news {w:World}{b off:Nat}{l:List Ac}(hc:∀i,i<l.length→ActAt w b (off+i*5) (l.getD i ac0))(j:Nat)(u:Value)(hj:(cellsA l)[j]?=some u):w.cell? ⟨b,off+j,none⟩=some u:=by
 have hlt:j<l.length*5:=by
  have:=(List.getElem?_eq_some_iff.1 hj).1
  rwa [cellsA_length] at this
 have hi:j/5<l.length:=by omega
 have hx:=cellsA_at l (j/5) hi (j%5) (Nat.mod_lt _ (by decide))
 rw[show j/5*5+j%5=j from by omega,hj] at hx
 obtain⟨h0,h1,h2,h3,h4⟩:=hc (j/5) hi
 rw[show off+j=off+j/5*5+j%5 from by omega]
 have h5:j%5<5:=Nat.mod_lt _ (by decide)
 generalize j%5=m at *
 match m,h5 with
 |0,_=>rw[Nat.add_zero,h0];exact hx.symm
 |1,_=>rw[h1];exact hx.symm
 |2,_=>rw[h2];exact hx.symm
 |3,_=>rw[h3];exact hx.symm
 |4,_=>rw[h4];exact hx.symm
theorem SegA.of_owns {w:World}{base:Nat}{v:Value}{l:List Ac}(h:w.ownsRow base 23 5 v l.length (cellsA l)):∃a c,v=.slice a l.length c∧SegA w a l:=by
 rcases h.2 with⟨rfl,h0⟩|⟨g,cap,cur,rfl,hb,hg,rest⟩
 ·exact⟨none,0,by rw[h0],.inl (List.eq_nil_of_length_eq_zero h0)⟩
 ·refine⟨_,_,rfl,.inr ⟨g,0,rfl,(Array.getElem?_eq_some_iff.1 hg).1,fun i hi=>?_⟩⟩
  have key:∀j,j<5→w.cell? ⟨g,0+i*5+j,none⟩=(cellsA [l.getD i ac0])[j]?:=by
   intro j hj
   rw[Nat.zero_add,World.ownsRow.cellAt h (i*5+j) (by omega)]
   exact cellsA_at l i hi j hj
  exact⟨(key 0 (by decide)).trans rfl,(key 1 (by decide)).trans rfl,(key 2 (by decide)).trans rfl,(key 3 (by decide)).trans rfl,(key 4 (by decide)).trans rfl⟩
theorem copyA_run (ty:TypeId)(a:Option Addr)(c:Nat)(l:List Ac)(w:World)(hA:SegA w a l)(hl:l.length≤1000):
  ∃a2 c2 w',(Builtin.append_ #[49,49] ty #[.slice none 0 0,.slice a l.length c]).run Tryz.prog w=.ok (.slice a2 l.length c2) w'∧SegA w' a2 l∧Below w.heap.size w w':=by
 obtain⟨i0,hi,hz0,hz1,hz2⟩:=info_parts infoA
 cases a with
 |none=>
  have h0:l=[]:=by
   rcases hA with h|⟨b,off,he,_⟩
   ·exact h
   ·cases he
  subst h0
  exact⟨none,0,w,zd6 w 49 ty 23 i0 c Tryz.underlying49 hi,.inl rfl,Below.refl _ _⟩
 |some ad=>
  have hnews:∀j u,(cellsA l)[j]?=some u→w.cell? (ad.add j)=some u:=by
   intro j u hj
   rcases hA with h|⟨b,off,he,hlt,hc⟩
   ·rw[h] at hj;simp[cellsA] at hj
   ·cases he
    rw[Addr.add_lit]
    exact SegA.news hc j u hj
  obtain⟨v',w',hrun,r1,r2,_⟩:=run_append_own (P:=Tryz.prog) w w.heap.size 49 ty 23 i0 _ 5 48 Tryz.underlying49 hi hz0 hz1 hz2 rfl (by decide) (.slice none 0 0) 0 [] (World.ownsRow_nil w _ 23 5) ad l.length c (cellsA l) (cellsA_length l) hnews (cellsA_one l) (by unfold maxLen;omega) (by omega) (Nat.le_refl _)
  rw[Nat.zero_add,List.nil_append] at r1
  obtain⟨a2,c2,rfl,h2⟩:=SegA.of_owns r1
  exact⟨a2,c2,w',hrun,h2,(Below.refl _ _).grown r2 (Nat.le_refl _) (by intro k hk;simp[Value.ownBlock] at hk)⟩
theorem wpList_copyA {w:World}{ops:Array Oper}{rest:List Oper}{o:Oper}{ac:Act}{Q:Exit→Act→World→Prop}(hgd:o.guard=none)(s x:Operand)
  (ho:o.op=.call {callee:=.builtin .append,args:=#[s,x],argTypes:=#[49,49]})
  (hs:ac.eval s=.slice none 0 0) (a:Option Addr) (c:Nat) (l:List Ac) (hx:ac.eval x=.slice a l.length c) (hA:SegA w a l) (hl:l.length≤1000)
  (h:∀a2 c2 w',SegA w' a2 l→Below w.heap.size w w'→wpList Tryz.prog ops Q rest (ac.put o.dst (.slice a2 l.length c2)) w'):wpList Tryz.prog ops Q (o::rest) ac w:=by
 obtain⟨a2,c2,w',hrun,h2,hb⟩:=copyA_run o.type a c l w hA hl
 refine wpList_plain hgd fun K hK=>?_
 unfold Oper.wp
 simp[execOp,ho,resolve,invoke,builtin,hs,hx,hrun,Result.andThen]
 exact hK _ _ (h a2 c2 w' h2 hb)
theorem SegA.belowA {w w':World}{a:Option Addr}{l:List Ac}(h:SegA w a l)(hb:Below w.heap.size w w'):SegA w' a l:=by
 rcases h with h0|⟨b,off,rfl,hlt,hc⟩
 ·exact .inl h0
 ·refine .inr ⟨b,off,rfl,Nat.lt_of_lt_of_le hlt hb.size,fun i hi=>?_⟩
  obtain⟨g0,g1,g2,g3,g4⟩:=hc i hi
  exact⟨zab hb hlt g0,zab hb hlt g1,zab hb hlt g2,zab hb hlt g3,zab hb hlt g4⟩
theorem SegA.take {w:World}{a:Option Addr}{l:List Ac}(h:SegA w a l)(q:Nat):SegA w a (l.take q):=by
 rcases h with h0|⟨b,off,rfl,hlt,hc⟩
 ·left;rw[h0];exact List.take_nil
 ·refine .inr ⟨b,off,rfl,hlt,fun i hi=>?_⟩
  rw[List.length_take] at hi
  have:=hc i (by omega)
  rwa [show(l.take q).getD i ac0=l.getD i ac0 from by rw[List.getD,List.getD,List.getElem?_take,if_pos (by omega)]]
theorem rOf_take (l:List Ac)(q i:Nat)(hi:i<q):rOf (l.take q) i=rOf l i:=by
 rw[rOf,rOf,jOf,jOf,List.take_take,Nat.min_eq_left (by omega),List.getD,List.getD,List.getElem?_take,if_pos hi]
theorem runs_walk (a:Option Addr)(c:Nat)(l:List Ac)(n:Int)(w:World)(hA:SegA w a l)(hlen:l.length≤maxLen)(hcap:l.length≤c)(hok:∀y∈l,OkA y)(hn0: -9223372036854775808≤n)(hn1:n≤9223372036854775807):
  Calls Tryz.prog 12 #[.slice a l.length c,.int .i64 n] w fun e w'=>e=.returned (.bool true)∧Below w.heap.size w w':=by
 have HA:=zaa hA
 have HOK:=zaa hok
 have HN0:=zaa hn0
 have HN1:=zaa hn1
 clear hA hok hn0 hn1
 unfold maxLen at hlen
 go_enter Tryz.func12,Tryz.ntmps12
 go_wp2_with fail
 refine(zzc _).mono ?_
 rintro e w1 ⟨rfl,hb1⟩
 have HB1:=zaa hb1
 clear hb1
 by_cases hbig:150<l.length
 ·have hbi:(150:Int)<(l.length:Int):=by omega
  go_wp2_with fail
  refine(zzc _).mono ?_
  rintro e w2 ⟨rfl,hb2⟩
  have HB2:=zaa (zad HB1.o hb2)
  clear hb2
  go_wp2
  go_ret
  exact⟨rfl,HB2.o⟩
 ·have hbi:¬(150:Int)<(l.length:Int):=by omega
  have hw1:IntKind.i64.wrap ((l.length:Int)+1)=(l.length:Int)+1:=by rw[IntKind.wrap_i64];omega
  have hne:¬(l.length:Int)+1=0:=by omega
  obtain⟨r1,hr1⟩:∃r1,Int.tmod n ((l.length:Int)+1)=r1:=⟨_,rfl⟩
  have hr0: -(l.length:Int)≤r1∧r1≤(l.length:Int):=by
   have h1:=Int.tmod_lt_of_pos n (show(0:Int)<(l.length:Int)+1 by omega)
   have h2:=Int.tmod_lt_of_pos (-n) (show(0:Int)<(l.length:Int)+1 by omega)
   rw[Int.neg_tmod] at h2
   omega
  have hw2:IntKind.i64.wrap r1=r1:=by rw[IntKind.wrap_i64];omega
  have hw3:IntKind.i64.wrap (r1+(l.length:Int))=r1+(l.length:Int):=by rw[IntKind.wrap_i64];omega
  have hw4:IntKind.i64.wrap (r1+(l.length:Int)+1)=r1+(l.length:Int)+1:=by rw[IntKind.wrap_i64];omega
  obtain⟨q,hq,hql⟩:∃q:Nat,Int.tmod (r1+(l.length:Int)+1) ((l.length:Int)+1)=(q:Int)∧q≤l.length:=by
   have h1:=Int.tmod_lt_of_pos (r1+(l.length:Int)+1) (show(0:Int)<(l.length:Int)+1 by omega)
   have h2:=Int.tmod_nonneg ((l.length:Int)+1) (show 0≤r1+(l.length:Int)+1 by omega)
   exact⟨(Int.tmod (r1+(l.length:Int)+1) ((l.length:Int)+1)).toNat,by omega,by omega⟩
  have hw5:IntKind.i64.wrap (q:Int)=(q:Int):=by rw[IntKind.wrap_i64];omega
  go_wp2_with (at_builtin;refine wpList_copyA rfl _ _ rfl (by simp[go_sem]) a c l (by simp[go_sem]) (HA.o.belowA HB1.o) (by omega) ?_)
  intro a2 c2 w2 hA2 hb2
  have HA2:=zaa hA2
  have HB2:=zaa (zad HB1.o hb2)
  clear hA2 hb2
  go_wp2_with fail
  refine(runF_any a2 c2 l w2 HA2.o (by omega) HOK.o).mono ?_
  rintro e w3 ⟨G,arr,rfl,hG,hKG,hR,hb3⟩
  have KG:=zaa hKG
  have HRA:=zaa hR
  have HB3:=zaa (zad HB2.o hb3)
  clear hKG hR hb3 HA2 HB2
  have hA3:=HA.o.belowA HB3.o
  obtain⟨m,hm⟩:∃m,m=l.take q:=⟨_,rfl⟩
  have HA3:Hid (SegA w3 a m):=by rw[hm];exact hA3.take q
  have hlq:m.length=q:=by rw[hm,List.length_take];omega
  have HM:=zaa hm
  clear hm
  have HLQ:=zaa hlq
  clear hA3 hlq
  have iq0:(0:Int)≤(q:Int):=by omega
  have iqc:(q:Int)≤(c:Int):=by omega
  have hqc:q≤c:=by omega
  go_wp2_with (at_builtin;refine wpList_copyA rfl _ _ rfl (by simp[go_sem]) a c m (by simp[go_sem,HLQ.o]) HA3.o (by rw[HLQ.o];omega) ?_)
  intro a3 c3 w4 hA4 hb4
  rw[HLQ.o]
  have HA4:=zaa hA4
  have HB4:=zaa (zad HB3.o hb4)
  have hGl:G<w3.heap.size:=(Array.getElem?_eq_some_iff.1 KG.o).1
  have KG4:=zaa (zac hb4 hGl KG.o)
  have hs4:w3.heap.size≤w4.heap.size:=hb4.size
  clear hA4 hb4 HA3 HB3 KG
  go_wp2_with fail
  have hru:=runF_any a3 c3 m w4 HA4.o (by rw[HLQ.o];omega) (fun y hy=>HOK.o y (by rw[HM.o] at hy;exact List.mem_of_mem_take hy))
  rw[HLQ.o] at hru
  refine hru.mono ?_
  clear hru
  rintro e w5 ⟨G2,arr2,rfl,hG2,hKG2,hR2,hb5⟩
  rw[HM.o] at hR2
  have HCM:Hid (∀k,k<q→∃(c0 n0:Int) (t0:ByteArray),(arr[k*3]?=some (.int .i64 c0)∧arr[k*3+1]?=some (.int .i64 n0)∧arr[k*3+2]?=some (.string t0))∧(arr2[k*3]?=some (.int .i64 c0)∧arr2[k*3+1]?=some (.int .i64 n0)∧arr2[k*3+2]?=some (.string t0))):=by
   intro k hk
   have h1:=HRA.o.2 k (by omega)
   have h2:=hR2.2 k hk
   rw[rOf_take l q k hk] at h2
   exact⟨_,_,_,h1,h2⟩
  have KG5:=zaa (zac hb5 (by omega) KG4.o)
  have K25:=zaa hKG2
  have HB5:=zaa (zad HB4.o hb5)
  have hG5:G<w5.heap.size:=(Array.getElem?_eq_some_iff.1 KG5.o).1
  have hG25:G2<w5.heap.size:=(Array.getElem?_eq_some_iff.1 hKG2).1
  clear hKG2 hR2 hb5 HA4 HB4 KG4 HRA hs4 hGl hr1 hq hw1 hw2 hw3 hw4 hr0
  go_wp2
  go_loopw [9] (fun i wr=>∃k:Nat,k≤q∧i=.int .i64 k∧Hid (Below w5.heap.size w5 wr)) (fun i _=>q - (intOf i).toNat)
  case atStart=>exact⟨0,Nat.zero_le _,rfl,Below.refl _ _⟩
  case round=>
   obtain⟨k,hk,rfl,HBr⟩:=hrel
   by_cases hkq:k<q
   ·have i1:(k:Int)<(q:Int):=by omega
    have i2:(k:Int)<(l.length:Int):=by omega
    have i0:(0:Int)≤(k:Int):=by omega
    have j1:k<l.length:=by omega
    obtain⟨c0,n0,t0,⟨x0,x1,x2⟩,⟨y0,y1,y2⟩⟩:=HCM.o k hkq
    have e0:=zab HBr.o hG5 ((cell_of_row w5 _ _ _ _ _ KG5.o).trans x0)
    have e1:=zab HBr.o hG5 ((cell_of_row w5 _ _ _ _ _ KG5.o).trans x1)
    have e2:=zab HBr.o hG5 ((cell_of_row w5 _ _ _ _ _ KG5.o).trans x2)
    have f0:=zab HBr.o hG25 ((cell_of_row w5 _ _ _ _ _ K25.o).trans y0)
    have f1:=zab HBr.o hG25 ((cell_of_row w5 _ _ _ _ _ K25.o).trans y1)
    have f2:=zab HBr.o hG25 ((cell_of_row w5 _ _ _ _ _ K25.o).trans y2)
    clear x0 x1 x2 y0 y1 y2
    go_wp2
    go_quiet (fail)
    obtain⟨W5,hW5⟩:∃W5,W5=wr.drewN nq:=⟨_,rfl⟩
    have hbd:Below wr.heap.size wr W5:=by rw[hW5];exact below_drewN (Below.refl _ _) _
    have HB6:=zaa (zad HBr.o hbd)
    rw[←hW5]
    clear hW5 hbd e0 e1 e2 f0 f1 f2
    go_wp2
    go_roundw
    case rel=>exact⟨k+1,by omega,by go_num,HB6⟩
    case measure=>first|(simp[intOf];omega)|simp[intOf]
   ·have hkl:k=q:=by omega
    subst hkl
    have ni:¬(k:Int)<(k:Int):=by omega
    go_wp2
    go_ret
    exact⟨rfl,zad HB5.o HBr.o⟩
end Go.Proofs.YtjnpndfpajjihacGreat

