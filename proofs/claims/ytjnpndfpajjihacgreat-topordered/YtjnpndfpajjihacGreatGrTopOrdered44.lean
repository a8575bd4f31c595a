/-
  
-/
import Derived.Test.YtjnpndfpajjihacGreatGrTopOrdered4
import Derived.Test.YtjnpndfpajjihacGreatGrTopOrdered13
import Derived.Deep.CutRange
set_option maxRecDepth 100000
set_option maxHeartbeats 40000000
namespace Go.Proofs.YtjnpndfpajjihacGreat
open Go.Proofs.Tryz
open Go.RowKit
theorem zoa{w:World}{base:Nat}{v:Value}{l:List St}{y:St}(h:zsh w base v (l++[y])):∃a c,v=.slice a (l.length+1) c:=by
 obtain⟨a,c,e,_,_⟩:=SegSt.of_owns h;exact⟨a,c,by rw[e,List.length_append];rfl⟩
theorem StepsAt.grown{W w4:World}{base Bs:Nat}{v v':Value}{l l':List St}{tmp:Obj}(hbx:Boxed W Bs 91 v)(hrow:W.ownsRow base 124 3 v l.length (cellsSt l))(hown':w4.ownsRow base 124 3 v' l'.length (cellsSt l'))(hg:(W.alloc tmp).grownBy w4 v.ownBlock):
  Boxed w4 Bs 91 v∧StepsAt (w4.setCell ⟨Bs,0,none⟩ v') base Bs l':=by
 have A:Boxed w4 Bs 91 v:=(hbx.alloc tmp).kept hg (hbx.not_row (by decide) hrow);exact⟨A,v',A.set v',hown'.kept (grownBy_setCell' w4 Bs v') (.inr (A.not_row (by decide) hown').symm)⟩
theorem Boxed.grownSt{W w4:World}{base Bp n:Nat}{v v0:Value}{xs:List Value}{tmp:Obj}(hp:Boxed W Bp 35 v0)(hrow:W.ownsRow base 124 3 v n xs)(hg:(W.alloc tmp).grownBy w4 v.ownBlock):Boxed w4 Bp 35 v0:=
 (hp.alloc tmp).kept hg (hp.not_row (by decide) hrow)
theorem zxw{w:World}{ops:Array Oper}{o:Oper}{a:Act}{K:Act→World→Prop}{Q:Exit→Act→World→Prop}{E:Prop}(hgd:o.guard=none)
  (ho:o.op=.call {callee:=.value (.func 149),args:=#[],argTypes:=#[]})
  (h:∀w',Below w.heap.size w w'→K (a.put o.dst (.agg #[.int .i64 2,.int .i64 0,.string ⟨#[]⟩])) w'):if Region.wanted o (yielded ops a.tmps)=true then Oper.wp prog o a w K Q else E:=by
 have A:Region.wanted o (yielded ops a.tmps)=true:=by simp[Region.wanted,hgd]
 rw[if_pos A];unfold Oper.wp;simp[execOp,ho,resolve,invoke,Act.eval,Result.andThen];refine(zjy w).mono ?_;rintro e w' ⟨rfl,hb⟩;exact h w' hb
theorem zxx{w:World}{ops:Array Oper}{o:Oper}{a:Act}{K:Act→World→Prop}{Q:Exit→Act→World→Prop}{E:Prop}(hgd:o.guard=none)(x y:Operand)
  (ho:o.op=.call {callee:=.value (.func 148),args:=#[x,y],argTypes:=#[3,9]}) (p:Int) (s:ByteArray) (hx:a.eval x=.int .i64 p) (hy:a.eval y=.string s)
  (h:∀w',Below w.heap.size w w'→K (a.put o.dst (.agg #[.int .i64 1,.int .i64 p,.string s])) w'):if Region.wanted o (yielded ops a.tmps)=true then Oper.wp prog o a w K Q else E:=by
 have B:Region.wanted o (yielded ops a.tmps)=true:=by simp[Region.wanted,hgd]
 rw[if_pos B];unfold Oper.wp;have A:a.eval (.func 148)=.func (.func 148) #[] #[]:=rfl;simp[execOp,ho,resolve,invoke,A,hx,hy,Result.andThen];refine(zlx p s w).mono ?_;rintro e w' ⟨rfl,hb⟩;exact h w' hb
theorem zpn(Bs Bp base:Nat)(l:List St)(w:World)(h:StepsAt w base Bs l)(hn:l.length≤900)(hbase:base≤w.heap.size):
  Calls prog 164 #[.pointer (some ⟨Bs,0,none⟩)] w fun e w'=>(∃v,e=.returned v)∧StepsAt w' base Bs (l++[zb1])∧Fr Bs Bp base w w':=by
 obtain⟨v,D,B⟩:=h;have J:=zab B;have E:=zab D;obtain⟨a,c,rfl,_,_⟩:=SegSt.of_owns B;have M:=D.cell;clear B D;go_enter func164,ntmps164;go_wp2
 go_region_law (first
  |(refine zxw rfl rfl ?_;intro L K;have A:Below w.heap.size w L:=((Below.refl _ _).drew).trans K;have A3:=zac A E.o.lt M;have A0:=Nat.lt_of_lt_of_le E.o.lt A.size)
  |(refine zna rfl (.tmp 1) (.tmp 3) rfl base (.slice a l.length c) l (by simp[Act.eval]) (zah (zah J.o A) (zaa _ _)) L.heap.size zb1 (by simp[Act.eval]) (by simp[go_sem,zb1]) (by simp[go_sem,zb1]) (by simp[go_sem,zb1]) (by omega) (Nat.le_trans (Nat.le_trans hbase A.size) (by simp)) ?_;intro v' w4 C F;have I:=zab (StepsAt.grown (zad A E.o.lt E.o) (zah J.o A) C F);have N:=zab (Fr.grown (Bs:=Bs) (Bp:=Bp) (zah (zah J.o A) (zaa _ _)) F (Nat.le_trans (Nat.le_trans hbase A.size) (by simp)));(obtain⟨a5,c5,rfl⟩:=zoa C);have A2:=I.o.1.cell;have A1:=I.o.1.frozen))
 all_goals
  go_wp2
  go_end0
  refine⟨⟨_,rfl⟩,I.o.2,?_⟩;exact((Fr.of_below (A.trans ((zaa _ _).mono A.size)) hbase).trans N.o).trans (Fr.setS _ _)
theorem PlacesAt.one{w:World}{base Bp:Nat}{p:Int}{l:List Int}(h:PlacesAt w base Bp (p::l)):∃b off c,Boxed w Bp 35 (.slice (some ⟨b,off,none⟩) (l.length+1) c)∧w.cell? ⟨b,off,none⟩=some (.int .i64 p)∧SegI w (some ⟨b,off,none⟩) (p::l)∧b<base∧b≠Bp∧b<w.heap.size∧l.length+1≤c:=by
 obtain⟨a,c,D,A,B,E,h5⟩:=h;have C:=A;rcases A with e|⟨b,off,rfl,hlt,hc⟩
 ·cases e
 ·have:=hc 0 (by simp);exact⟨b,off,c,D,by simpa using this,C,(B b off rfl).1,(B b off rfl).2,hlt,by simpa using E⟩
theorem z0l{w:World}{b off:Nat}{p:Int}{l:List Int}(h:SegI w (some ⟨b,off,none⟩) (p::l)):SegI w (some ⟨b,off+1,none⟩) l:=by
 rcases h with e|⟨b',off',e,hlt,hc⟩
 ·cases e
 ·cases e
  cases l with
  |nil=>exact .inl rfl
  |cons q r=>
   refine .inr ⟨b,off+1,rfl,hlt,fun i hi=>?_⟩;have:=hc (i+1) (by simpa using hi);rw[show off+1+i=off+(i+1) from by omega]
   simpa using this
theorem zrz(Bs Bp base:Nat)(l:List St)(p:Int)(ps:List Int)(s:ByteArray)(w:World)(h:StepsAt w base Bs l)(hp:PlacesAt w base Bp (p::ps))(hn:l.length≤900)(hps:ps.length≤900)(hp0:0≤p)(hp1:p≤23)(hbase:base≤w.heap.size)(hb1:Bp<base)(hb2:base≤Bs):
  Calls prog 165 #[.string s,.pointer (some ⟨Bs,0,none⟩),.pointer (some ⟨Bp,0,none⟩)] w fun e w'=>(∃v,e=.returned v)∧StepsAt w' base Bs (l++[zbl (1+p) s])∧PlacesAt w' base Bp ps∧Fr Bs Bp base w w':=by
 obtain⟨v,K,C⟩:=h;have O:=zab C;have N:=zab K;obtain⟨a,c,rfl,_,_⟩:=SegSt.of_owns C;have q:=K.cell;obtain⟨b,Q,d,I,L,J,Z,D,A4,A1⟩:=hp.one;have R:=zab I;have j:=zab J;have m:=I.cell;have U:Bp≠Bs:=by omega
 have A5:IntKind.i64.wrap (1+p)=1+p:=by rw[IntKind.wrap_i64];omega
 clear C K I J hp;go_enter func165,ntmps165
 go_upto_region 0 with fail
 go_cut [0] from 4 to 12 (fun x wx=>x=.string s∧Hid (StepsAt wx base Bs (l++[zbl (1+p) s])∧Fr Bs Bp base w wx∧Boxed wx Bp 35 (.slice (some ⟨b,Q,none⟩) (ps.length+1) d)))
 case first=>
  go_region_law (first
   |(refine zxx rfl (.tmp 8) (.tmp 9) rfl (1+p) s (by simp[Act.eval,Act.put]) (by simp[Act.eval,Act.put]) ?_;intro r k;have A:Below w.heap.size w r:=((Below.refl _ _).drew).trans k;have A7:=zac A N.o.lt q;have A6:=Nat.lt_of_lt_of_le N.o.lt A.size)
   |(refine zna rfl (.tmp 4) (.tmp 11) rfl base (.slice a l.length c) l (by simp[Act.eval]) (zah (zah O.o A) (zaa _ _)) r.heap.size (zbl (1+p) s) (by simp[Act.eval]) (by simp[go_sem,zbl]) (by simp[go_sem,zbl]) (by simp[go_sem,zbl]) (by omega) (Nat.le_trans (Nat.le_trans hbase A.size) (by simp)) ?_;intro v' w4 E F;have i:=zab (StepsAt.grown (zad A N.o.lt N.o) (zah O.o A) E F);have HF:=zab (Fr.grown (Bs:=Bs) (Bp:=Bp) (zah (zah O.o A) (zaa _ _)) F (Nat.le_trans (Nat.le_trans hbase A.size) (by simp)));have y:=zab (Boxed.grownSt (zad A R.o.lt R.o) (zah O.o A) F);(obtain⟨a5,c5,rfl⟩:=zoa E);have A3:=i.o.1.cell;have A2:=i.o.1.frozen))
  all_goals
   go_wp2_with fail
   go_meet
   refine⟨rfl,i.o.2,((Fr.of_below (A.trans ((zaa _ _).mono A.size)) hbase).trans HF.o).trans (Fr.setS _ _),?_⟩;exact(Below.heap_setCell _ _ _ _ U).trans y.o
 case rest=>
  obtain⟨rfl,B⟩:=hcut;obtain⟨M,rfl⟩:∃M,M=wc:=⟨_,rfl⟩;have qc:=B.o.2.2.cell;have qf:=B.o.2.2.frozen;have A0:((ps.length:Int)+1)≤(d:Int):=by omega
  clear q m L
  have S:∀u,StepsAt (M.setCell ⟨Bp,0,none⟩ u) base Bs (l++[zbl (1+p) s]):=by
   intro u;obtain⟨v5,z,k2⟩:=B.o.1;exact⟨v5,(Below.heap_setCell _ _ _ _ (Ne.symm U)).trans z,ownsRow_setCell_below k2 hb1 _⟩
  have Y:=zab S;have X:SegI M (some ⟨b,Q,none⟩) (p::ps):=j.o.low B.o.2.1 (fun b' off' e=>by cases e;exact⟨Z,D⟩) hb2;have n:=zab (z0l X);clear S X;by_cases hpc:d=1
  ·have h0:ps=[]:=List.eq_nil_of_length_eq_zero (by omega);subst h0 hpc;go_wp2
   go_end0
   exact⟨⟨_,rfl⟩,Y.o _,⟨_,_,B.o.2.2.set _,.inl rfl,fun b' off' e=>(by cases e;exact⟨Z,D⟩),by simp,fun _=>rfl⟩,B.o.2.1.trans (Fr.setP _ _)⟩
  ·go_wp2
   go_end0
   refine⟨⟨_,rfl⟩,Y.o _,⟨_,_,B.o.2.2.set _,n.o.setNe (fun b' off' e=>by cases e;exact D) _,fun b' off' e=>(by cases e;exact⟨Z,D⟩),?_,fun e=>by cases e⟩,B.o.2.1.trans (Fr.setP _ _)⟩;omega
theorem zjp(Bs Bp base Bt Be:Nat)(l:List St)(p:Int)(ps:List Int)(m:Mk)(mv:Value)(q:Int)(w:World)(hm:IsMk w mv m)(ht:w.cell? ⟨Bt,0,none⟩=some (.int .i64 q))(htl:Bt<w.heap.size)
  (he:w.cell? ⟨Be,0,none⟩=some (.func (.func 165) #[] #[.pointer (some ⟨Bs,0,none⟩),.pointer (some ⟨Bp,0,none⟩)])) (hel:Be<w.heap.size)
  (h:StepsAt w base Bs l) (hp:PlacesAt w base Bp (p::ps)) (hn:l.length≤900) (hps:ps.length≤900) (hp0:0≤p) (hp1:p≤23) (hbase:base≤w.heap.size) (hb1:Bp<base) (hb2:base≤Bs):
  Calls Tryz.prog 166 #[mv,.pointer (some ⟨Bt,0,none⟩),.pointer (some ⟨Be,0,none⟩)] w fun e w'=>(∃v,e=.returned v)∧StepsAt w' base Bs (l++[zbl (1+p) (encT {m with seq:=q})])∧PlacesAt w' base Bp ps∧Fr Bs Bp base w w':=by
 obtain⟨a,c,N,K,rfl,C,D,L,I⟩:=hm;have Q:=zab h;have M:=zab hp;have E:=zab C;have J:=zab D;clear h hp C D;go_enter Tryz.func166,Tryz.ntmps166;go_wp2_with fail;refine(zds _ {m with seq:=q} _ ⟨a,c,N,K,rfl,E.o.below (zaa _ _),J.o.below (zaa _ _),L,I⟩).mono ?_;rintro e w1 ⟨rfl,A⟩;have B:=zab (zae (zaa _ _) A);have A0:=zac B.o hel he;clear A;go_wp2_with fail;refine(zrz Bs Bp base l p ps _ _ (Q.o.below B.o) (M.o.below B.o) hn hps hp0 hp1 (Nat.le_trans hbase B.o.size) hb1 hb2).mono ?_;rintro e w2 ⟨⟨v,rfl⟩,R,F,O⟩;go_wp2
 go_end0
 exact⟨⟨_,rfl⟩,R,F,(Fr.of_below B.o hbase).trans O⟩
