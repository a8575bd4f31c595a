/-
  
-/
import Derived.Test.YtjnpndfpajjihacGreatSApp
import Derived.ArgAppend
import Derived.Lib.SlBytesConst
set_option maxRecDepth 100000
set_option maxHeartbeats 40000000
namespace Go.Proofs.YtjnpndfpajjihacGreat
open Go.RowKit
def zla:ByteArray:=⟨#[87,66,75,49]⟩
theorem zpj {w:World}{ops:Array Oper}{rest:List Oper}{o:Oper}{a:Act}{Q:Exit→Act→World→Prop}(hgd:o.guard=none)(s x:Operand)
  (ho:o.op=.call {callee:=.builtin .append,args:=#[s,x],argTypes:=#[139,139]})
  (b:Addr) (nw:ByteArray) (hs:a.eval s=.slice (some b) 4 4) (holds:∀j u,(cellsB zla)[j]?=some u→w.cell? (b.add j)=some u) (ad:Addr) (hx:a.eval x=.slice (some ad) 1 1) (hm:nw.size=1)
  (hnews:∀j u,(cellsB nw)[j]?=some u→w.cell? (ad.add j)=some u)
  (h:∀v' w',OwnB w' w.heap.size v' (zla++nw)→w.grownBy w' none→wpList Tryz.prog ops Q rest (a.put o.dst v') w'):wpList Tryz.prog ops Q (o::rest) a w:=by
 obtain⟨i0,hi,hz0,hz1,hz2⟩:=info_parts z32;refine wpList_append_grows w hgd s x 139 ho 5 i0 (.int .u8 0) 1 1 Tryz.underlying139 hi hz0 hz1 hz2 rfl (by decide) (some b) 4 4 (cellsB zla) hs (fun e=>by cases e) rfl (fun b' e j u hj=>by cases e;exact holds j u hj) ad 1 1 (cellsB nw) hx (by rw[zin,hm]) hnews zjw (by omega) (by decide) (by omega) ?_;intro v' w' h1 h2;exact h v' w' (OwnB.more (by rw[hm];rfl) h1) h2
def zxt (q:Int):ByteArray:=zd8 (q/16777216).toNat++zd8 (q/65536%256).toNat++zd8 (q/256%256).toNat++zd8 (q%256).toNat
theorem zva (q:Int)(h0:0≤q)(h1:q≤2147483647):cellsB (zxt q)=[.int .u8 (q/16777216),.int .u8 (q/65536%256),.int .u8 (q/256%256),.int .u8 (q%256)]:=by
 rw[zxt,zdm,zdm,zdm,zcl _ (by omega),zcl _ (by omega),zcl _ (by omega),zcl _ (by omega)];rw[Int.toNat_of_nonneg (by omega),Int.toNat_of_nonneg (by omega),Int.toNat_of_nonneg (by omega),Int.toNat_of_nonneg (by omega)];rfl
theorem z25 (n:Nat)(q:Int):(zla++zd8 n)++zxt q=zmc n q:=by
 rw[zxt,zmc,Int.toNat_natCast,zla];simp only[ByteArray.append_assoc]
theorem zmd (v:Value)(m:Mk)(w:World)(h:IsMk w v m)(hno:¬goodM m=0):
  Calls Tryz.prog 70 #[v] w fun e w'=>e=.returned (.tuple #[.string (encT m),.int .i64 (goodM m)])∧Below w.heap.size w w':=by
 have HI:=zaa h;obtain⟨a,c,a',c',rfl,_,_,_,_⟩:=h;have HE:Hid (encT m=ByteArray.empty):=by rw[Hid,encT,if_neg hno]
 have hno':(goodM m !=0)=true:=by simpa using hno
 clear hno;go_enter Tryz.func70,Tryz.ntmps70;go_wp2_with fail;refine(zij _ m _ (HI.o.below (zab _ _))).mono ?_;rintro e w1 ⟨rfl,hb1⟩;have HB:=zaa (zae (zab _ _) hb1);clear hb1;go_wp2
 go_ret2
 exact⟨by rw[HE.o];rfl,HB.o⟩
theorem zme (v:Value)(m:Mk)(w:World)(h:IsMk w v m)(hg:goodM m=0):
  Calls Tryz.prog 70 #[v] w fun e w'=>e=.returned (.tuple #[.string (fitT (zn3 m)),.int .i64 0])∧Below w.heap.size w w':=by
 have HI:=zaa h;have HG:=zaa hg;obtain⟨a,c,a',c',rfl,hT,hN,hn,hn'⟩:=h;have HT:=zaa hT;have HN:=zaa hN;obtain⟨⟨k1,k2⟩,⟨q1,q2,p1,p2⟩,⟨f1,f2,f3⟩,ht,hb,hr,hr'⟩:=zfr hg;have HP:=zaa (And.intro f1 (And.intro f2 (And.intro f3 (And.intro ht (And.intro hb (And.intro hr hr'))))));clear hT hN hg f1 f2 f3 ht hb hr hr';go_enter Tryz.func70,Tryz.ntmps70;go_wp2_with fail;refine(zij _ m _ (HI.o.below (zab _ _))).mono ?_;rintro e w1 ⟨rfl,hb1⟩;rw[HG.o];have hs1:w.heap.size<w1.heap.size:=by have:=hb1.size;simp at this;omega
 obtain⟨⟨x0,x1,x2,x3,x4⟩,_⟩:=zie (z2j hb1);have HB1:=zaa (zae (zab _ _) hb1);clear hb1;obtain⟨kind,seq,pos,tags,blocks⟩:=m;dsimp only at *;obtain⟨kn,rfl⟩:=Int.eq_ofNat_of_zero_le (show 0≤kind by omega);have hk255:(kn:Int)≤255:=by omega
 have hk0:(0:Int)≤(kn:Int):=by omega
 have kc:=fun(w:World) (C:Array Value) (n c:Nat)=>Lib.run_convert_bytes_const (P:=Tryz.prog) w 139 5 C n c Tryz.underlying139 Tryz.underlying5;go_wp2_with (at_builtin;refine zpj rfl _ _ rfl ⟨w1.heap.size,0,none⟩ (zd8 kn) rfl ?qc1 ⟨w1.heap.size+1,0,none⟩ rfl rfl ?qc2 ?_)
 case qc1=>
  intro j u hj
  match j,hj with
  |0,hj=>cases hj;simp[go_sem];exact World.cell?_alloc_mark w1 _ _ _ _
  |1,hj=>cases hj;simp[go_sem];exact World.cell?_alloc_mark w1 _ _ _ _
  |2,hj=>cases hj;simp[go_sem];exact World.cell?_alloc_mark w1 _ _ _ _
  |3,hj=>cases hj;simp[go_sem];exact World.cell?_alloc_mark w1 _ _ _ _
 case qc2=>
  intro j u hj;rw[zcl _ (by omega)] at hj
  match j,hj with
  |0,hj=>simp at hj;subst hj;simp[go_sem]
 intro v2 w2 hown2 hg2;have hb2:Below w1.heap.size w1 w2:=((zab _ _).alloc (by simp) _).grown hg2 (by first|omega|(simp;omega)) (fun k hk=>by cases hk);have HO2:Hid (OwnB w2 w1.heap.size v2 (zla++zd8 kn)):=za5 hown2 (by first|omega|(simp;omega));clear hown2 hg2;have hs2:w1.heap.size≤w2.heap.size:=hb2.size;have hs2':w.heap.size<w2.heap.size:=by omega
 have y1:=zac hb2 hs1 x1;have HB2:=zaa hb2;clear hb2;have hq0:0≤seq/16777216:=by omega
 have hq255:seq/16777216≤255:=by omega
 go_wp2_with (at_builtin;refine zdy rfl _ _ rfl w1.heap.size _ (zla++zd8 kn) (zxt seq) rfl (HO2.o.alloc _) ⟨w2.heap.size,0,none⟩ 4 rfl rfl ?qc2 ?qc4 (by decide) ?qc6 ?_)
 case qc2=>
  intro j u hj;rw[zva seq (by omega) q2] at hj
  match j,hj with
  |0,hj=>simp at hj;subst hj;simp[go_sem]
  |1,hj=>simp at hj;subst hj;simp[go_sem]
  |2,hj=>simp at hj;subst hj;simp[go_sem]
  |3,hj=>simp at hj;subst hj;simp[go_sem]
 case qc4=>show 5≤2000;decide
 case qc6=>first|omega|(simp;omega)
 intro v3 w3 hown3 hg3;have hb3:Below w1.heap.size w1 w3:=(HB2.o.alloc hs2 _).grown hg3 (by first|omega|(simp;omega)) (fun k hk=>(HO2.o.lt k hk).1);rw[z25] at hown3;have HO3:=zaa hown3;clear hown3 hg3;have hs3:w1.heap.size≤w3.heap.size:=hb3.size;have hs3':w.heap.size<w3.heap.size:=by omega
 have z0:=(HB1.o.trans (hb3.mono (by omega)));have HB3:=zaa z0;clear z0;have y0:=zac hb3 hs1 x0;have y2:=zac hb3 hs1 x2;have y3:=zac hb3 hs1 x3;have y4:=zac hb3 hs1 x4;clear y1 x0 x1 x2 x3 x4 HB2 HO2 hq0 hq255;have HB13:=zaa hb3;clear hb3;have hk4:kn=1∨kn=2∨kn=3∨kn=4:=by omega
 have hz3:(zmc kn seq).size=9:=rfl;obtain⟨hd,hhd⟩:∃hd,hd=zmc kn seq:=⟨_,rfl⟩;rw[←hhd] at HO3 hz3;have HHD:=zaa hhd;clear hhd;rcases hk4 with rfl|rfl|rfl|rfl
 ·obtain⟨pn,rfl⟩:=Int.eq_ofNat_of_zero_le p1
  have hp255:(pn:Int)≤255:=by omega
  go_wp2_with (at_builtin;refine zdy rfl _ _ rfl w1.heap.size _ hd (zd8 pn) rfl (HO3.o.alloc _) ⟨w3.heap.size,0,none⟩ 1 rfl rfl ?qc2 ?qc4 (by decide) ?qc6 ?_)
  case qc2=>
   intro j u hj;rw[zcl _ (by omega)] at hj
   match j,hj with
   |0,hj=>simp at hj;subst hj;simp[go_sem]
  case qc4=>omega
  case qc6=>first|omega|(simp;omega)
  intro v4 w4 hown4 hg4;have hb4:Below w1.heap.size w1 w4:=(HB13.o.alloc hs3 _).grown hg4 (by first|omega|(simp;omega)) (fun k hk=>(HO3.o.lt k hk).1);have hsz:(hd++zd8 pn).size=10:=by rw[ByteArray.size_append,hz3];rfl
  have hcv:=zko hown4 (by omega);have HB4:=zaa (HB1.o.trans (hb4.mono (by omega)));obtain⟨t,ht⟩:∃t,t=hd++zd8 pn:=⟨_,rfl⟩;rw[←ht] at hcv hsz;have HTT:=zaa ht;clear hown4 hg4 hb4 ht;go_wp2_with fail;refine(zgb t _ (by rw[hsz];decide)).mono ?_;rintro e w5 ⟨rfl,hb5⟩;have HB5:=zaa (zae HB4.o hb5);clear hb5;go_wp2
  go_ret2
  exact⟨by rw[HTT.o,HHD.o];rfl,HB5.o⟩
 ·obtain⟨g1,g2,g3,ht,_,hr,_⟩:=HP.o
  have HR:=zaa hr;have hlen:=(ht rfl).2;obtain rfl:=g1 (by decide);have hbd:∀x∈tags,0≤x.1∧x.1≤11:=fun x hx=>zkn _ _ HR.o (by omega) x.1 (List.mem_map.2 ⟨x,hx,rfl⟩);have HBD:=zaa hbd;clear g1 g2 g3 ht hr hbd;go_wp2_with fail;refine(zr3 w1.heap.size _ hd a c tags _ w HO3.o HT.o HB3.o (by omega) hs3 (by omega) hlen HBD.o).mono ?_;rintro e w4 ⟨v4,rfl,hown4,hb4⟩
  have hsz:(zgf (hd++zd8 tags.length) tags).size≤30∧0<(zgf (hd++zd8 tags.length) tags).size:=by
   rw[zmz,ByteArray.size_append,hz3,show(zd8 tags.length).size=1 from rfl];omega
  have hcv:=zko hown4 hsz.2;have HB4:=zaa (HB3.o.trans (hb4.mono (by omega)));obtain⟨t,ht⟩:∃t,t=zgf (hd++zd8 tags.length) tags:=⟨_,rfl⟩;rw[←ht] at hcv hsz;have HTT:=zaa ht;clear hown4 hb4 ht;go_wp2_with fail;refine(zgb t _ (by unfold maxLen;omega)).mono ?_;rintro e w5 ⟨rfl,hb5⟩;have HB5:=zaa (zae HB4.o hb5);clear hb5;go_wp2
  go_ret2
  exact⟨by rw[HTT.o,HHD.o];rfl,HB5.o⟩
 ·obtain⟨g1,g2,g3,_,hb,_,hr⟩:=HP.o
  have HR:=zaa hr;have hlen:=(hb rfl).2;obtain rfl:=g1 (by decide);have hbd:∀x∈blocks,0≤x∧x≤11:=fun x hx=>zkn _ _ HR.o (by omega) x hx;have HBD:=zaa hbd;clear g1 g2 g3 hb hr hbd;go_wp2_with fail;refine(zn4 w1.heap.size _ hd a' c' blocks _ w HO3.o HN.o HB3.o (by omega) hs3 (by omega) hlen HBD.o).mono ?_;rintro e w4 ⟨v4,rfl,hown4,hb4⟩
  have hsz:(zgg (hd++zd8 blocks.length) blocks).size≤30∧0<(zgg (hd++zd8 blocks.length) blocks).size:=by
   rw[zm0,ByteArray.size_append,hz3,show(zd8 blocks.length).size=1 from rfl];omega
  have hcv:=zko hown4 hsz.2;have HB4:=zaa (HB3.o.trans (hb4.mono (by omega)));obtain⟨t,ht⟩:∃t,t=zgg (hd++zd8 blocks.length) blocks:=⟨_,rfl⟩;rw[←ht] at hcv hsz;have HTT:=zaa ht;clear hown4 hb4 ht;go_wp2_with fail;refine(zgb t _ (by unfold maxLen;omega)).mono ?_;rintro e w5 ⟨rfl,hb5⟩;have HB5:=zaa (zae HB4.o hb5);clear hb5;go_wp2
  go_ret2
  exact⟨by rw[HTT.o,HHD.o];rfl,HB5.o⟩
 ·have hcv:=zko HO3.o (by omega)
  go_wp2_with fail;refine(zgb hd _ (by rw[hz3];decide)).mono ?_;rintro e w5 ⟨rfl,hb5⟩;have HB5:=zaa (zae HB3.o hb5);clear hb5;go_wp2
  go_ret2
  exact⟨by rw[HHD.o];rfl,HB5.o⟩
theorem zdn (v:Value)(m:Mk)(w:World)(h:IsMk w v m):
  Calls Tryz.prog 70 #[v] w fun e w'=>e=.returned (.tuple #[.string (encT m),.int .i64 (goodM m)])∧Below w.heap.size w w':=by
 by_cases hg:goodM m=0
 ·have hE:encT m=fitT (zn3 m):=by rw[encT,if_pos hg]
  rw[hE,hg];exact zme v m w h hg
 ·exact zmd v m w h hg
theorem zlc (s:ByteArray)(w:World)(hn:s.size≤maxLen):
  Calls Tryz.prog 130 #[.string s,.string ⟨#[87,66,75,49]⟩] w fun e w'=>e=.returned (.bool (isMagic s))∧w=w':=by
 unfold maxLen at hn;go_enter Tryz.func130,Tryz.ntmps130;by_cases h4:4≤s.size
 ·have h4':(4:Int)≤(s.size:Int):=by omega
  by_cases hm:((s.extract 0 4).toList==[87,66,75,49])=true
  ·have HM:Hid (isMagic s=true):=by rw[Hid,isMagic,if_pos h4];exact hm
   go_wp2;go_ret;exact⟨by rw[HM.o];rfl,rfl⟩
  ·have hm':((s.extract 0 4).toList==[87,66,75,49])=false:=by simpa using hm
   have HM:Hid (isMagic s=false):=by rw[Hid,isMagic,if_pos h4];exact hm'
   clear hm;go_wp2;go_ret;exact⟨by rw[HM.o];rfl,rfl⟩
 ·have h4':¬(4:Int)≤(s.size:Int):=by omega
  have HM:Hid (isMagic s=false):=by rw[Hid,isMagic,if_neg h4]
  go_wp2;go_ret;exact⟨by rw[HM.o];rfl,rfl⟩
def z2p (s:ByteArray):ByteArray:=if isMagic s then s.extract 4 s.size else s
theorem zed {s:ByteArray}(h:isMagic s=true):4≤s.size:=by
 by_cases h4:4≤s.size
 ·exact h4
 ·rw[isMagic,if_neg h4] at h;cases h
theorem zji (s:ByteArray)(b:Bool)(w:World)(hn:s.size≤maxLen):
  Calls Tryz.prog 191 #[.string s,.bool b] w fun e w'=>e=.returned (.string (zew s b))∧w=w':=by
 unfold maxLen at hn;go_enter Tryz.func191,Tryz.ntmps191
 cases b with
 |false=>
  go_wp2;go_ret;exact⟨by simp[zew],rfl⟩
 |true=>
  by_cases h4:s.size<4
  ·have h4':(s.size:Int)<4:=by omega
   go_wp2;go_ret;exact⟨by simp[zew,h4],rfl⟩
  ·have h4':¬(s.size:Int)<4:=by omega
   go_wp2;go_ret;exact⟨by simp[zew,h4],rfl⟩
theorem zog (s:ByteArray)(w:World)(hn:s.size≤maxLen):
  Calls Tryz.prog 218 #[.string s,.string ⟨#[87,66,75,49]⟩] w fun e w'=>e=.returned (.tuple #[.string (z2p s),.bool (isMagic s)])∧w=w':=by
 have HN:=zaa hn;unfold maxLen at hn;go_enter Tryz.func218,Tryz.ntmps218;go_wp2_with fail;refine(zlc s _ HN.o).mono ?_;rintro e w1 ⟨rfl,rfl⟩
 cases hm:isMagic s with
 |true=>
  have h4:=zed hm;have HM:=zaa hm;have HC:Hid (z2p s=s.extract 4 s.size):=by rw[Hid,z2p,if_pos hm]
  clear hm;go_wp2
  go_ret2
  exact⟨by rw[HC.o,HM.o];rfl,rfl⟩
 |false=>
  have HM:=zaa hm;have HC:Hid (z2p s=s):=by rw[Hid,z2p,hm];rfl
  clear hm;go_wp2
  go_ret2
  exact⟨by rw[HC.o,HM.o];rfl,rfl⟩
theorem zyp (s:ByteArray)(w:World)(hn:s.size≤maxLen):
  Calls Tryz.prog 216 #[.string s,.string ⟨#[87,66,75,49]⟩] w fun e w'=>e=.returned (.tuple #[.string (z2p s),.bool (isMagic s)])∧w=w':=by
 have HN:=zaa hn;go_enter Tryz.func216,Tryz.ntmps216;go_wp2_with fail;refine(zog s _ HN.o).mono ?_;rintro e w1 ⟨rfl,rfl⟩;go_wp2
 go_ret2
 exact⟨rfl,rfl⟩
theorem zlg (s:ByteArray)(w:World)(hn:s.size≤maxLen):
  Calls Tryz.prog 202 #[.string s] w fun e w'=>e=.returned (.tuple #[.string (escT s),.bool (isMagic s)])∧w=w':=by
 have HN:=zaa hn;unfold maxLen at hn;go_enter Tryz.func202,Tryz.ntmps202;go_wp2_with fail;refine(zyp s _ HN.o).mono ?_;rintro e w1 ⟨rfl,rfl⟩
 cases hm:isMagic s with
 |true=>
  have h4:=zed hm;have HM:=zaa hm;have HC:Hid (z2p s=s.extract 4 s.size):=by rw[Hid,z2p,if_pos hm]
  have HE:Hid (escT s=(⟨#[0,0,0,0]⟩:ByteArray)++s.extract 4 s.size):=by rw[Hid,escT,if_pos hm]
  have hz:(s.extract 4 s.size).size≤s.size:=by rw[ByteArray.size_extract];omega
  clear hm;rw[HC.o];go_wp2
  go_ret2
  exact⟨by rw[HE.o,HM.o];rfl,rfl⟩
 |false=>
  have HM:=zaa hm;have HE:Hid (escT s=s):=by rw[Hid,escT,hm];rfl
  clear hm;go_wp2
  go_ret2
  exact⟨by rw[HE.o,HM.o];rfl,rfl⟩
end Go.Proofs.YtjnpndfpajjihacGreat

