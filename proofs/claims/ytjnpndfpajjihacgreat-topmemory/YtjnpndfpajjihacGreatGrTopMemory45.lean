/-
  
-/
import Derived.Test.YtjnpndfpajjihacGreatGrTopMemory4
import Derived.Test.YtjnpndfpajjihacGreatGrTopMemory14
import Derived.Deep.CutRange
set_option maxRecDepth 100000
set_option maxHeartbeats 40000000
namespace Go.Proofs.YtjnpndfpajjihacGreat
open Go.RowKit
theorem znt {w:World}{base:Nat}{v:Value}{l:List St}{y:St}(h:zrv w base v (l++[y])):∃a c,v=.slice a (l.length+1) c:=by
 obtain⟨a,c,e,_,_⟩:=SegSt.of_owns h;exact⟨a,c,by rw[e,List.length_append];rfl⟩
theorem StepsAt.grown {W w4:World}{base Bs:Nat}{v v':Value}{l l':List St}{tmp:Obj}(hbx:Boxed W Bs 91 v)(hrow:W.ownsRow base 124 3 v l.length (cellsSt l))(hown':w4.ownsRow base 124 3 v' l'.length (cellsSt l'))(hg:(W.alloc tmp).grownBy w4 v.ownBlock):
  Boxed w4 Bs 91 v∧StepsAt (w4.setCell ⟨Bs,0,none⟩ v') base Bs l':=by
 have hv1:Boxed w4 Bs 91 v:=(hbx.alloc tmp).kept hg (hbx.not_row (by decide) hrow);exact⟨hv1,v',hv1.set v',hown'.kept (grownBy_setCell' w4 Bs v') (.inr (hv1.not_row (by decide) hown').symm)⟩
theorem Boxed.grownSt {W w4:World}{base Bp n:Nat}{v v0:Value}{xs:List Value}{tmp:Obj}(hp:Boxed W Bp 35 v0)(hrow:W.ownsRow base 124 3 v n xs)(hg:(W.alloc tmp).grownBy w4 v.ownBlock):Boxed w4 Bp 35 v0:=
 (hp.alloc tmp).kept hg (hp.not_row (by decide) hrow)
theorem zwz {w:World}{ops:Array Oper}{o:Oper}{a:Act}{K:Act→World→Prop}{Q:Exit→Act→World→Prop}{E:Prop}(hgd:o.guard=none)
  (ho:o.op=.call {callee:=.value (.func 149),args:=#[],argTypes:=#[]})
  (h:∀w',Below w.heap.size w w'→K (a.put o.dst (.agg #[.int .i64 2,.int .i64 0,.string ⟨#[]⟩])) w'):if Region.wanted o (yielded ops a.tmps)=true then Oper.wp Tryz.prog o a w K Q else E:=by
 have hw:Region.wanted o (yielded ops a.tmps)=true:=by simp[Region.wanted,hgd]
 rw[if_pos hw];unfold Oper.wp;simp[execOp,ho,resolve,invoke,Act.eval,Result.andThen];refine(zjj w).mono ?_;rintro e w' ⟨rfl,hb⟩;exact h w' hb
theorem zw0 {w:World}{ops:Array Oper}{o:Oper}{a:Act}{K:Act→World→Prop}{Q:Exit→Act→World→Prop}{E:Prop}(hgd:o.guard=none)(x y:Operand)
  (ho:o.op=.call {callee:=.value (.func 148),args:=#[x,y],argTypes:=#[3,9]}) (p:Int) (s:ByteArray) (hx:a.eval x=.int .i64 p) (hy:a.eval y=.string s)
  (h:∀w',Below w.heap.size w w'→K (a.put o.dst (.agg #[.int .i64 1,.int .i64 p,.string s])) w'):if Region.wanted o (yielded ops a.tmps)=true then Oper.wp Tryz.prog o a w K Q else E:=by
 have hw:Region.wanted o (yielded ops a.tmps)=true:=by simp[Region.wanted,hgd]
 rw[if_pos hw];unfold Oper.wp;have hev:a.eval (.func 148)=.func (.func 148) #[] #[]:=rfl;simp[execOp,ho,resolve,invoke,hev,hx,hy,Result.andThen];refine(zle p s w).mono ?_;rintro e w' ⟨rfl,hb⟩;exact h w' hb
theorem zo4 (Bs Bp base:Nat)(l:List St)(w:World)(h:StepsAt w base Bs l)(hn:l.length≤900)(hbase:base≤w.heap.size):
  Calls Tryz.prog 164 #[.pointer (some ⟨Bs,0,none⟩)] w fun e w'=>(∃v,e=.returned v)∧StepsAt w' base Bs (l++[zby])∧Fr Bs Bp base w w':=by
 obtain⟨v,hbx,hrow⟩:=h;have HR:=zaa hrow;have HX:=zaa hbx;obtain⟨a,c,rfl,_,_⟩:=SegSt.of_owns hrow;have hc:=hbx.cell;clear hrow hbx;go_enter Tryz.func164,Tryz.ntmps164;go_wp2
 go_region_law (first
  |(refine zwz rfl rfl ?_;intro w3 hb3;have hB3:Below w.heap.size w w3:=((Below.refl _ _).drew).trans hb3;have hc3:=zac hB3 HX.o.lt hc;have hl3:=Nat.lt_of_lt_of_le HX.o.lt hB3.size)
  |(refine zmq rfl (.tmp 1) (.tmp 3) rfl base (.slice a l.length c) l (by simp[Act.eval]) (zah (zah HR.o hB3) (zab _ _)) w3.heap.size zby (by simp[Act.eval]) (by simp[go_sem,zby]) (by simp[go_sem,zby]) (by simp[go_sem,zby]) (by omega) (Nat.le_trans (Nat.le_trans hbase hB3.size) (by simp)) ?_;intro v' w4 hown' hg';have HG:=zaa (StepsAt.grown (zad hB3 HX.o.lt HX.o) (zah HR.o hB3) hown' hg');have HF:=zaa (Fr.grown (Bs:=Bs) (Bp:=Bp) (zah (zah HR.o hB3) (zab _ _)) hg' (Nat.le_trans (Nat.le_trans hbase hB3.size) (by simp)));(obtain⟨a5,c5,rfl⟩:=znt hown');have hc4:=HG.o.1.cell;have hf4:=HG.o.1.frozen))
 all_goals
  go_wp2
  go_end0
  refine⟨⟨_,rfl⟩,HG.o.2,?_⟩;exact((Fr.of_below (hB3.trans ((zab _ _).mono hB3.size)) hbase).trans HF.o).trans (Fr.setS _ _)
theorem PlacesAt.one {w:World}{base Bp:Nat}{p:Int}{l:List Int}(h:PlacesAt w base Bp (p::l)):∃b off c,Boxed w Bp 35 (.slice (some ⟨b,off,none⟩) (l.length+1) c)∧w.cell? ⟨b,off,none⟩=some (.int .i64 p)∧SegI w (some ⟨b,off,none⟩) (p::l)∧b<base∧b≠Bp∧b<w.heap.size∧l.length+1≤c:=by
 obtain⟨a,c,h1,h2,h3,h4,h5⟩:=h;have h2':=h2;rcases h2 with e|⟨b,off,rfl,hlt,hc⟩
 ·cases e
 ·have:=hc 0 (by simp)
  exact⟨b,off,c,h1,by simpa using this,h2',(h3 b off rfl).1,(h3 b off rfl).2,hlt,by simpa using h4⟩
theorem zzr {w:World}{b off:Nat}{p:Int}{l:List Int}(h:SegI w (some ⟨b,off,none⟩) (p::l)):SegI w (some ⟨b,off+1,none⟩) l:=by
 rcases h with e|⟨b',off',e,hlt,hc⟩
 ·cases e
 ·cases e
  cases l with
  |nil=>exact .inl rfl
  |cons q r=>
   refine .inr ⟨b,off+1,rfl,hlt,fun i hi=>?_⟩;have:=hc (i+1) (by simpa using hi);rw[show off+1+i=off+(i+1) from by omega]
   simpa using this
theorem zrd (Bs Bp base:Nat)(l:List St)(p:Int)(ps:List Int)(s:ByteArray)(w:World)(h:StepsAt w base Bs l)(hp:PlacesAt w base Bp (p::ps))(hn:l.length≤900)(hps:ps.length≤900)(hp0:0≤p)(hp1:p≤23)(hbase:base≤w.heap.size)(hb1:Bp<base)(hb2:base≤Bs):
  Calls Tryz.prog 165 #[.string s,.pointer (some ⟨Bs,0,none⟩),.pointer (some ⟨Bp,0,none⟩)] w fun e w'=>(∃v,e=.returned v)∧StepsAt w' base Bs (l++[zbh (1+p) s])∧PlacesAt w' base Bp ps∧Fr Bs Bp base w w':=by
 obtain⟨v,hbx,hrow⟩:=h;have HR:=zaa hrow;have HX:=zaa hbx;obtain⟨a,c,rfl,_,_⟩:=SegSt.of_owns hrow;have hc:=hbx.cell;obtain⟨b,off,pc,pbx,pcell,pseg,pb,pne,plt,pcap⟩:=hp.one;have HPX:=zaa pbx;have HPS:=zaa pseg;have pc0:=pbx.cell;have hne:Bp≠Bs:=by omega
 have hwp:IntKind.i64.wrap (1+p)=1+p:=by rw[IntKind.wrap_i64];omega
 clear hrow hbx pbx pseg hp;go_enter Tryz.func165,Tryz.ntmps165
 go_upto_region 0 with fail
 go_cut [0] from 4 to 12 (fun x wx=>x=.string s∧Hid (StepsAt wx base Bs (l++[zbh (1+p) s])∧Fr Bs Bp base w wx∧Boxed wx Bp 35 (.slice (some ⟨b,off,none⟩) (ps.length+1) pc)))
 case first=>
  go_region_law (first
   |(refine zw0 rfl (.tmp 8) (.tmp 9) rfl (1+p) s (by simp[Act.eval,Act.put]) (by simp[Act.eval,Act.put]) ?_;intro w3 hb3;have hB3:Below w.heap.size w w3:=((Below.refl _ _).drew).trans hb3;have hc3:=zac hB3 HX.o.lt hc;have hl3:=Nat.lt_of_lt_of_le HX.o.lt hB3.size)
   |(refine zmq rfl (.tmp 4) (.tmp 11) rfl base (.slice a l.length c) l (by simp[Act.eval]) (zah (zah HR.o hB3) (zab _ _)) w3.heap.size (zbh (1+p) s) (by simp[Act.eval]) (by simp[go_sem,zbh]) (by simp[go_sem,zbh]) (by simp[go_sem,zbh]) (by omega) (Nat.le_trans (Nat.le_trans hbase hB3.size) (by simp)) ?_;intro v' w4 hown' hg';have HG:=zaa (StepsAt.grown (zad hB3 HX.o.lt HX.o) (zah HR.o hB3) hown' hg');have HF:=zaa (Fr.grown (Bs:=Bs) (Bp:=Bp) (zah (zah HR.o hB3) (zab _ _)) hg' (Nat.le_trans (Nat.le_trans hbase hB3.size) (by simp)));have HPB:=zaa (Boxed.grownSt (zad hB3 HPX.o.lt HPX.o) (zah HR.o hB3) hg');(obtain⟨a5,c5,rfl⟩:=znt hown');have hc4:=HG.o.1.cell;have hf4:=HG.o.1.frozen))
  all_goals
   go_wp2_with fail
   go_meet
   refine⟨rfl,HG.o.2,((Fr.of_below (hB3.trans ((zab _ _).mono hB3.size)) hbase).trans HF.o).trans (Fr.setS _ _),?_⟩;exact(Below.heap_setCell _ _ _ _ hne).trans HPB.o
 case rest=>
  obtain⟨rfl,HC⟩:=hcut;obtain⟨w5,rfl⟩:∃w5,w5=wc:=⟨_,rfl⟩;have qc:=HC.o.2.2.cell;have qf:=HC.o.2.2.frozen;have hcap':((ps.length:Int)+1)≤(pc:Int):=by omega
  clear hc pc0 pcell
  have hst:∀u,StepsAt (w5.setCell ⟨Bp,0,none⟩ u) base Bs (l++[zbh (1+p) s]):=by
   intro u;obtain⟨v5,k1,k2⟩:=HC.o.1;exact⟨v5,(Below.heap_setCell _ _ _ _ (Ne.symm hne)).trans k1,ownsRow_setCell_below k2 hb1 _⟩
  have HST:=zaa hst;have hsg:SegI w5 (some ⟨b,off,none⟩) (p::ps):=HPS.o.low HC.o.2.1 (fun b' off' e=>by cases e;exact⟨pb,pne⟩) hb2;have HSG:=zaa (zzr hsg);clear hst hsg;by_cases hpc:pc=1
  ·have h0:ps=[]:=List.eq_nil_of_length_eq_zero (by omega)
   subst h0 hpc;go_wp2
   go_end0
   exact⟨⟨_,rfl⟩,HST.o _,⟨_,_,HC.o.2.2.set _,.inl rfl,fun b' off' e=>(by cases e;exact⟨pb,pne⟩),by simp,fun _=>rfl⟩,HC.o.2.1.trans (Fr.setP _ _)⟩
  ·go_wp2
   go_end0
   refine⟨⟨_,rfl⟩,HST.o _,⟨_,_,HC.o.2.2.set _,HSG.o.setNe (fun b' off' e=>by cases e;exact pne) _,fun b' off' e=>(by cases e;exact⟨pb,pne⟩),?_,fun e=>by cases e⟩,HC.o.2.1.trans (Fr.setP _ _)⟩;omega
theorem zjc (Bs Bp base Bt Be:Nat)(l:List St)(p:Int)(ps:List Int)(m:Mk)(mv:Value)(q:Int)(w:World)(hm:IsMk w mv m)(ht:w.cell? ⟨Bt,0,none⟩=some (.int .i64 q))(htl:Bt<w.heap.size)
  (he:w.cell? ⟨Be,0,none⟩=some (.func (.func 165) #[] #[.pointer (some ⟨Bs,0,none⟩),.pointer (some ⟨Bp,0,none⟩)])) (hel:Be<w.heap.size)
  (h:StepsAt w base Bs l) (hp:PlacesAt w base Bp (p::ps)) (hn:l.length≤900) (hps:ps.length≤900) (hp0:0≤p) (hp1:p≤23) (hbase:base≤w.heap.size) (hb1:Bp<base) (hb2:base≤Bs):
  Calls Tryz.prog 166 #[mv,.pointer (some ⟨Bt,0,none⟩),.pointer (some ⟨Be,0,none⟩)] w fun e w'=>(∃v,e=.returned v)∧StepsAt w' base Bs (l++[zbh (1+p) (encT {m with seq:=q})])∧PlacesAt w' base Bp ps∧Fr Bs Bp base w w':=by
 obtain⟨a,c,a',c',rfl,hs,hw,h1,h2⟩:=hm;have HS:=zaa h;have HP:=zaa hp;have H1:=zaa hs;have H2:=zaa hw;clear h hp hs hw;go_enter Tryz.func166,Tryz.ntmps166;go_wp2_with fail;refine(zdn _ {m with seq:=q} _ ⟨a,c,a',c',rfl,H1.o.below (zab _ _),H2.o.below (zab _ _),h1,h2⟩).mono ?_;rintro e w1 ⟨rfl,hb1'⟩;have HB:=zaa (zae (zab _ _) hb1');have he1:=zac HB.o hel he;clear hb1';go_wp2_with fail;refine(zrd Bs Bp base l p ps _ _ (HS.o.below HB.o) (HP.o.below HB.o) hn hps hp0 hp1 (Nat.le_trans hbase HB.o.size) hb1 hb2).mono ?_;rintro e w2 ⟨⟨v,rfl⟩,k1,k2,k3⟩;go_wp2
 go_end0
 exact⟨⟨_,rfl⟩,k1,k2,(Fr.of_below HB.o hbase).trans k3⟩
end Go.Proofs.YtjnpndfpajjihacGreat

