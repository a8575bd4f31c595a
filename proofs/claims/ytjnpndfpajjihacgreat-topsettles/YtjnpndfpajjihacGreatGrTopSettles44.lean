/-
  
-/
import Derived.Test.YtjnpndfpajjihacGreatGrTopSettles4
import Derived.Test.YtjnpndfpajjihacGreatGrTopSettles13
import Derived.Deep.CutRange
set_option maxRecDepth 100000
set_option maxHeartbeats 40000000
namespace Go.Proofs.YtjnpndfpajjihacGreat
open Go.Proofs.Tryz
open Go.RowKit
theorem zny{w:World}{base:Nat}{v:Value}{l:List St}{y:St}(h:zsc w base v (l++[y])):∃a c,v=.slice a (l.length+1) c:=by
 obtain⟨a,c,e,_,_⟩:=SegSt.of_owns h;exact⟨a,c,by rw[e,List.length_append];rfl⟩
theorem StepsAt.grown{W w4:World}{base Bs:Nat}{v v':Value}{l l':List St}{tmp:Obj}(hbx:Boxed W Bs 91 v)(hrow:W.ownsRow base 124 3 v l.length (cellsSt l))(hown':w4.ownsRow base 124 3 v' l'.length (cellsSt l'))(hg:(W.alloc tmp).grownBy w4 v.ownBlock):
  Boxed w4 Bs 91 v∧StepsAt (w4.setCell ⟨Bs,0,none⟩ v') base Bs l':=by
 have A:Boxed w4 Bs 91 v:=(hbx.alloc tmp).kept hg (hbx.not_row (by decide) hrow);exact⟨A,v',A.set v',hown'.kept (grownBy_setCell' w4 Bs v') (.inr (A.not_row (by decide) hown').symm)⟩
theorem Boxed.grownSt{W w4:World}{base Bp n:Nat}{v v0:Value}{xs:List Value}{tmp:Obj}(hp:Boxed W Bp 35 v0)(hrow:W.ownsRow base 124 3 v n xs)(hg:(W.alloc tmp).grownBy w4 v.ownBlock):Boxed w4 Bp 35 v0:=
 (hp.alloc tmp).kept hg (hp.not_row (by decide) hrow)
theorem zxt{w:World}{ops:Array Oper}{o:Oper}{a:Act}{K:Act→World→Prop}{Q:Exit→Act→World→Prop}{E:Prop}(hgd:o.guard=none)
  (ho:o.op=.call {callee:=.value (.func 149),args:=#[],argTypes:=#[]})
  (h:∀w',Below w.heap.size w w'→K (a.put o.dst (.agg #[.int .i64 2,.int .i64 0,.string ⟨#[]⟩])) w'):if Region.wanted o (yielded ops a.tmps)=true then Oper.wp prog o a w K Q else E:=by
 have A:Region.wanted o (yielded ops a.tmps)=true:=by simp[Region.wanted,hgd]
 rw[if_pos A];unfold Oper.wp;simp[execOp,ho,resolve,invoke,Act.eval,Result.andThen];refine(zju w).mono ?_;rintro e w' ⟨rfl,hb⟩;exact h w' hb
theorem zxu{w:World}{ops:Array Oper}{o:Oper}{a:Act}{K:Act→World→Prop}{Q:Exit→Act→World→Prop}{E:Prop}(hgd:o.guard=none)(x y:Operand)
  (ho:o.op=.call {callee:=.value (.func 148),args:=#[x,y],argTypes:=#[3,9]}) (p:Int) (s:ByteArray) (hx:a.eval x=.int .i64 p) (hy:a.eval y=.string s)
  (h:∀w',Below w.heap.size w w'→K (a.put o.dst (.agg #[.int .i64 1,.int .i64 p,.string s])) w'):if Region.wanted o (yielded ops a.tmps)=true then Oper.wp prog o a w K Q else E:=by
 have B:Region.wanted o (yielded ops a.tmps)=true:=by simp[Region.wanted,hgd]
 rw[if_pos B];unfold Oper.wp;have A:a.eval (.func 148)=.func (.func 148) #[] #[]:=rfl;simp[execOp,ho,resolve,invoke,A,hx,hy,Result.andThen];refine(zln p s w).mono ?_;rintro e w' ⟨rfl,hb⟩;exact h w' hb
theorem zpe(Bs Bp base:Nat)(l:List St)(w:World)(h:StepsAt w base Bs l)(hn:l.length≤900)(hbase:base≤w.heap.size):
  Calls prog 164 #[.pointer (some ⟨Bs,0,none⟩)] w fun e w'=>(∃v,e=.returned v)∧StepsAt w' base Bs (l++[zb1])∧Fr Bs Bp base w w':=by
 obtain⟨v,D,B⟩:=h;have I:=zaa B;have E:=zaa D;obtain⟨a,c,rfl,_,_⟩:=SegSt.of_owns B;have N:=D.cell;clear B D;go_enter func164,ntmps164;go_wp2
 go_region_law (first
  |(refine zxt rfl rfl ?_;intro L K;have A:Below w.heap.size w L:=((Below.refl _ _).drew).trans K;have A1:=zac A E.o.lt N;have A0:=Nat.lt_of_lt_of_le E.o.lt A.size)
  |(refine zmw rfl (.tmp 1) (.tmp 3) rfl base (.slice a l.length c) l (by simp[Act.eval]) (zah (zah I.o A) (zab _ _)) L.heap.size zb1 (by simp[Act.eval]) (by simp[go_sem,zb1]) (by simp[go_sem,zb1]) (by simp[go_sem,zb1]) (by omega) (Nat.le_trans (Nat.le_trans hbase A.size) (by simp)) ?_;intro v' w4 C F;have J:=zaa (StepsAt.grown (zad A E.o.lt E.o) (zah I.o A) C F);have M:=zaa (Fr.grown (Bs:=Bs) (Bp:=Bp) (zah (zah I.o A) (zab _ _)) F (Nat.le_trans (Nat.le_trans hbase A.size) (by simp)));(obtain⟨a5,c5,rfl⟩:=zny C);have A2:=J.o.1.cell;have A3:=J.o.1.frozen))
 all_goals
  go_wp2
  go_end0
  refine⟨⟨_,rfl⟩,J.o.2,?_⟩;exact((Fr.of_below (A.trans ((zab _ _).mono A.size)) hbase).trans M.o).trans (Fr.setS _ _)
theorem PlacesAt.one{w:World}{base Bp:Nat}{p:Int}{l:List Int}(h:PlacesAt w base Bp (p::l)):∃b off c,Boxed w Bp 35 (.slice (some ⟨b,off,none⟩) (l.length+1) c)∧w.cell? ⟨b,off,none⟩=some (.int .i64 p)∧SegI w (some ⟨b,off,none⟩) (p::l)∧b<base∧b≠Bp∧b<w.heap.size∧l.length+1≤c:=by
 obtain⟨a,c,E,C,A,D,h5⟩:=h;have B:=C;rcases C with e|⟨b,off,rfl,hlt,hc⟩
 ·cases e
 ·have:=hc 0 (by simp);exact⟨b,off,c,E,by simpa using this,B,(A b off rfl).1,(A b off rfl).2,hlt,by simpa using D⟩
theorem z0g{w:World}{b off:Nat}{p:Int}{l:List Int}(h:SegI w (some ⟨b,off,none⟩) (p::l)):SegI w (some ⟨b,off+1,none⟩) l:=by
 rcases h with e|⟨b',off',e,hlt,hc⟩
 ·cases e
 ·cases e
  cases l with
  |nil=>exact .inl rfl
  |cons q r=>
   refine .inr ⟨b,off+1,rfl,hlt,fun i hi=>?_⟩;have:=hc (i+1) (by simpa using hi);rw[show off+1+i=off+(i+1) from by omega]
   simpa using this
theorem zrt(Bs Bp base:Nat)(l:List St)(p:Int)(ps:List Int)(s:ByteArray)(w:World)(h:StepsAt w base Bs l)(hp:PlacesAt w base Bp (p::ps))(hn:l.length≤900)(hps:ps.length≤900)(hp0:0≤p)(hp1:p≤23)(hbase:base≤w.heap.size)(hb1:Bp<base)(hb2:base≤Bs):
  Calls prog 165 #[.string s,.pointer (some ⟨Bs,0,none⟩),.pointer (some ⟨Bp,0,none⟩)] w fun e w'=>(∃v,e=.returned v)∧StepsAt w' base Bs (l++[zbm (1+p) s])∧PlacesAt w' base Bp ps∧Fr Bs Bp base w w':=by
 obtain⟨v,K,C⟩:=h;have M:=zaa C;have N:=zaa K;obtain⟨a,c,rfl,_,_⟩:=SegSt.of_owns C;have q:=K.cell;obtain⟨b,off,Y,F,L,J,d,E,A7,A1⟩:=hp.one;have R:=zaa F;have r:=zaa J;have n:=F.cell;have X:Bp≠Bs:=by omega
 have A6:IntKind.i64.wrap (1+p)=1+p:=by rw[IntKind.wrap_i64];omega
 clear C K F J hp;go_enter func165,ntmps165
 go_upto_region 0 with fail
 go_cut [0] from 4 to 12 (fun x wx=>x=.string s∧Hid (StepsAt wx base Bs (l++[zbm (1+p) s])∧Fr Bs Bp base w wx∧Boxed wx Bp 35 (.slice (some ⟨b,off,none⟩) (ps.length+1) Y)))
 case first=>
  go_region_law (first
   |(refine zxu rfl (.tmp 8) (.tmp 9) rfl (1+p) s (by simp[Act.eval,Act.put]) (by simp[Act.eval,Act.put]) ?_;intro i k;have A:Below w.heap.size w i:=((Below.refl _ _).drew).trans k;have A5:=zac A N.o.lt q;have A4:=Nat.lt_of_lt_of_le N.o.lt A.size)
   |(refine zmw rfl (.tmp 4) (.tmp 11) rfl base (.slice a l.length c) l (by simp[Act.eval]) (zah (zah M.o A) (zab _ _)) i.heap.size (zbm (1+p) s) (by simp[Act.eval]) (by simp[go_sem,zbm]) (by simp[go_sem,zbm]) (by simp[go_sem,zbm]) (by omega) (Nat.le_trans (Nat.le_trans hbase A.size) (by simp)) ?_;intro v' w4 D I;have Z:=zaa (StepsAt.grown (zad A N.o.lt N.o) (zah M.o A) D I);have y:=zaa (Fr.grown (Bs:=Bs) (Bp:=Bp) (zah (zah M.o A) (zab _ _)) I (Nat.le_trans (Nat.le_trans hbase A.size) (by simp)));have m:=zaa (Boxed.grownSt (zad A R.o.lt R.o) (zah M.o A) I);(obtain⟨a5,c5,rfl⟩:=zny D);have A2:=Z.o.1.cell;have A3:=Z.o.1.frozen))
  all_goals
   go_wp2_with fail
   go_meet
   refine⟨rfl,Z.o.2,((Fr.of_below (A.trans ((zab _ _).mono A.size)) hbase).trans y.o).trans (Fr.setS _ _),?_⟩;exact(Below.heap_setCell _ _ _ _ X).trans m.o
 case rest=>
  obtain⟨rfl,B⟩:=hcut;obtain⟨O,rfl⟩:∃O,O=wc:=⟨_,rfl⟩;have qc:=B.o.2.2.cell;have qf:=B.o.2.2.frozen;have A0:((ps.length:Int)+1)≤(Y:Int):=by omega
  clear q n L
  have U:∀u,StepsAt (O.setCell ⟨Bp,0,none⟩ u) base Bs (l++[zbm (1+p) s]):=by
   intro u;obtain⟨z,k1,k2⟩:=B.o.1;exact⟨z,(Below.heap_setCell _ _ _ _ (Ne.symm X)).trans k1,ownsRow_setCell_below k2 hb1 _⟩
  have Q:=zaa U;have S:SegI O (some ⟨b,off,none⟩) (p::ps):=r.o.low B.o.2.1 (fun b' off' e=>by cases e;exact⟨d,E⟩) hb2;have j:=zaa (z0g S);clear U S;by_cases hpc:Y=1
  ·have h0:ps=[]:=List.eq_nil_of_length_eq_zero (by omega);subst h0 hpc;go_wp2
   go_end0
   exact⟨⟨_,rfl⟩,Q.o _,⟨_,_,B.o.2.2.set _,.inl rfl,fun b' off' e=>(by cases e;exact⟨d,E⟩),by simp,fun _=>rfl⟩,B.o.2.1.trans (Fr.setP _ _)⟩
  ·go_wp2
   go_end0
   refine⟨⟨_,rfl⟩,Q.o _,⟨_,_,B.o.2.2.set _,j.o.setNe (fun b' off' e=>by cases e;exact E) _,fun b' off' e=>(by cases e;exact⟨d,E⟩),?_,fun e=>by cases e⟩,B.o.2.1.trans (Fr.setP _ _)⟩;omega
theorem zjm(Bs Bp base Bt Be:Nat)(l:List St)(p:Int)(ps:List Int)(m:Mk)(mv:Value)(q:Int)(w:World)(hm:IsMk w mv m)(ht:w.cell? ⟨Bt,0,none⟩=some (.int .i64 q))(htl:Bt<w.heap.size)
  (he:w.cell? ⟨Be,0,none⟩=some (.func (.func 165) #[] #[.pointer (some ⟨Bs,0,none⟩),.pointer (some ⟨Bp,0,none⟩)])) (hel:Be<w.heap.size)
  (h:StepsAt w base Bs l) (hp:PlacesAt w base Bp (p::ps)) (hn:l.length≤900) (hps:ps.length≤900) (hp0:0≤p) (hp1:p≤23) (hbase:base≤w.heap.size) (hb1:Bp<base) (hb2:base≤Bs):
  Calls Tryz.prog 166 #[mv,.pointer (some ⟨Bt,0,none⟩),.pointer (some ⟨Be,0,none⟩)] w fun e w'=>(∃v,e=.returned v)∧StepsAt w' base Bs (l++[zbm (1+p) (encT {m with seq:=q})])∧PlacesAt w' base Bp ps∧Fr Bs Bp base w w':=by
 obtain⟨a,c,N,F,rfl,C,D,Q,R⟩:=hm;have K:=zaa h;have E:=zaa hp;have J:=zaa C;have M:=zaa D;clear h hp C D;go_enter Tryz.func166,Tryz.ntmps166;go_wp2_with fail;refine(zdv _ {m with seq:=q} _ ⟨a,c,N,F,rfl,J.o.below (zab _ _),M.o.below (zab _ _),Q,R⟩).mono ?_;rintro e w1 ⟨rfl,A⟩;have B:=zaa (zae (zab _ _) A);have A0:=zac B.o hel he;clear A;go_wp2_with fail;refine(zrt Bs Bp base l p ps _ _ (K.o.below B.o) (E.o.below B.o) hn hps hp0 hp1 (Nat.le_trans hbase B.o.size) hb1 hb2).mono ?_;rintro e w2 ⟨⟨v,rfl⟩,L,I,O⟩;go_wp2
 go_end0
 exact⟨⟨_,rfl⟩,L,I,(Fr.of_below B.o hbase).trans O⟩
