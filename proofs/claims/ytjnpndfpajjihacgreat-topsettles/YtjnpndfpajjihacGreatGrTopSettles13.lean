/-
  
-/
import Derived.Test.YtjnpndfpajjihacGreatSApp
import Derived.ArgAppend
import Derived.Lib.SlBytesConst
set_option maxRecDepth 100000
set_option maxHeartbeats 40000000
namespace Go.Proofs.YtjnpndfpajjihacGreat
open Go.Proofs.Tryz
open Go.RowKit
def zlj:ByteArray:=⟨#[87,66,75,49]⟩
theorem zpz{w:World}{ops:Array Oper}{rest:List Oper}{o:Oper}{a:Act}{Q:Exit→Act→World→Prop}(hgd:o.guard=none)(s x:Operand)
  (ho:o.op=.call {callee:=.builtin .append,args:=#[s,x],argTypes:=#[139,139]})
  (b:Addr) (nw:ByteArray) (hs:a.eval s=.slice (some b) 4 4) (holds:∀j u,(cellsB zlj)[j]?=some u→w.cell? (b.add j)=some u) (ad:Addr) (hx:a.eval x=.slice (some ad) 1 1) (hm:nw.size=1)
  (hnews:∀j u,(cellsB nw)[j]?=some u→w.cell? (ad.add j)=some u)
  (h:∀v' w',OwnB w' w.heap.size v' (zlj++nw)→w.grownBy w' none→wpList prog ops Q rest (a.put o.dst v') w'):wpList prog ops Q (o::rest) a w:=by
 obtain⟨E,F,C,A,B⟩:=info_parts z42;refine wpList_append_grows w hgd s x 139 ho 5 E (.int .u8 0) 1 1 underlying139 F C A B rfl (by decide) (some b) 4 4 (cellsB zlj) hs (fun e=>by cases e) rfl (fun b' e j u hj=>by cases e;exact holds j u hj) ad 1 1 (cellsB nw) hx (by rw[ziz,hm]) hnews zj8 (by omega) (by decide) (by omega) ?_;intro v' w' D I;exact h v' w' (OwnB.more (by rw[hm];rfl) D) I
def zyi (q:Int):ByteArray:=zeq (q/16777216).toNat++zeq (q/65536%256).toNat++zeq (q/256%256).toNat++zeq (q%256).toNat
theorem zv1(q:Int)(h0:0≤q)(h1:q≤2147483647):cellsB (zyi q)=[.int .u8 (q/16777216),.int .u8 (q/65536%256),.int .u8 (q/256%256),.int .u8 (q%256)]:=by
 rw[zyi,zdu,zdu,zdu,zcu _ (by omega),zcu _ (by omega),zcu _ (by omega),zcu _ (by omega)];rw[Int.toNat_of_nonneg (by omega),Int.toNat_of_nonneg (by omega),Int.toNat_of_nonneg (by omega),Int.toNat_of_nonneg (by omega)];rfl
theorem z30(n:Nat)(q:Int):(zlj++zeq n)++zyi q=zmm n q:=by
 rw[zyi,zmm,Int.toNat_natCast,zlj];simp only[ByteArray.append_assoc]
theorem zmn(v:Value)(m:Mk)(w:World)(h:IsMk w v m)(hno:¬goodM m=0):
  Calls prog 70 #[v] w fun e w'=>e=.returned (.tuple #[.string (encT m),.int .i64 (goodM m)])∧Below w.heap.size w w':=by
 have B:=zaa h;obtain⟨a,c,a',c',rfl,_,_,_,_⟩:=h;have C:Hid (encT m=ByteArray.empty):=by rw[Hid,encT,if_neg hno]
 have A0:(goodM m !=0)=true:=by simpa using hno
 clear hno;go_enter func70,ntmps70;go_wp2_with fail;refine(ziv _ m _ (B.o.below (zab _ _))).mono ?_;rintro e w1 ⟨rfl,A⟩;have D:=zaa (zae (zab _ _) A);clear A;go_wp2
 go_ret2
 exact⟨by rw[C.o];rfl,D.o⟩
theorem zmo(v:Value)(m:Mk)(w:World)(h:IsMk w v m)(hg:goodM m=0):
  Calls prog 70 #[v] w fun e w'=>e=.returned (.tuple #[.string (fitT (zoa m)),.int .i64 0])∧Below w.heap.size w w':=by
 have HI:=zaa h;have HG:=zaa hg;obtain⟨a,c,a',c',rfl,hT,hN,hn,B8⟩:=h;have HT:=zaa hT;have HN:=zaa hN;obtain⟨⟨k1,k2⟩,⟨q1,q2,p1,p2⟩,⟨f1,f2,f3⟩,I,hb,d,A4⟩:=zge hg;have HP:=zaa (And.intro f1 (And.intro f2 (And.intro f3 (And.intro I (And.intro hb (And.intro d A4))))));clear hT hN hg f1 f2 f3 I hb d A4;go_enter func70,ntmps70;go_wp2_with fail;refine(ziv _ m _ (HI.o.below (zab _ _))).mono ?_;rintro e E ⟨rfl,s⟩;rw[HG.o];have Y:w.heap.size<E.heap.size:=by have:=s.size;simp at this;omega
 obtain⟨⟨x0,x1,x2,x3,x4⟩,_⟩:=zjn (z3v s);have A5:=zaa (zae (zab _ _) s);clear s;obtain⟨kind,seq,pos,F,B⟩:=m;dsimp only at *;obtain⟨N,rfl⟩:=Int.eq_ofNat_of_zero_le (show 0≤kind by omega);have B5:(N:Int)≤255:=by omega
 have B9:(0:Int)≤(N:Int):=by omega
 have kc:=fun(w:World) (C:Array Value) (n c:Nat)=>Lib.run_convert_bytes_const (P:=prog) w 139 5 C n c underlying139 underlying5;go_wp2_with (at_builtin;refine zpz rfl _ _ rfl ⟨E.heap.size,0,none⟩ (zeq N) rfl ?qc1 ⟨E.heap.size+1,0,none⟩ rfl rfl ?qc2 ?_)
 case qc1=>
  intro j u A
  match j,A with
  |0,A=>cases A;simp[go_sem];exact World.cell?_alloc_mark E _ _ _ _
  |1,A=>cases A;simp[go_sem];exact World.cell?_alloc_mark E _ _ _ _
  |2,A=>cases A;simp[go_sem];exact World.cell?_alloc_mark E _ _ _ _
  |3,A=>cases A;simp[go_sem];exact World.cell?_alloc_mark E _ _ _ _
 case qc2=>
  intro j u A;rw[zcu _ (by omega)]at A
  match j,A with
  |0,A=>simp at A;subst A;simp[go_sem]
 intro v2 z r A7;have p:Below E.heap.size E z:=((zab _ _).alloc (by simp) _).grown A7 (by first|omega|(simp;omega)) (fun k hk=>by cases hk);have A2:Hid (OwnB z E.heap.size v2 (zlj++zeq N)):=za8 r (by first|omega|(simp;omega));clear r A7;have B1:E.heap.size≤z.heap.size:=p.size;have B7:w.heap.size<z.heap.size:=by omega
 have y1:=zac p Y x1;have A8:=zaa p;clear p;have B2:0≤seq/16777216:=by omega
 have A3:seq/16777216≤255:=by omega
 go_wp2_with (at_builtin;refine zd6 rfl _ _ rfl E.heap.size _ (zlj++zeq N) (zyi seq) rfl (A2.o.alloc _) ⟨z.heap.size,0,none⟩ 4 rfl rfl ?qc2 ?qc4 (by decide) ?qc6 ?_)
 case qc2=>
  intro j u A;rw[zv1 seq (by omega) q2]at A
  match j,A with
  |0,A=>simp at A;subst A;simp[go_sem]
  |1,A=>simp at A;subst A;simp[go_sem]
  |2,A=>simp at A;subst A;simp[go_sem]
  |3,A=>simp at A;subst A;simp[go_sem]
 case qc4=>show 5≤2000;decide
 case qc6=>first|omega|(simp;omega)
 intro v3 w3 S A9;have L:Below E.heap.size E w3:=(A8.o.alloc B1 _).grown A9 (by first|omega|(simp;omega)) (fun k hk=>(A2.o.lt k hk).1);rw[z30]at S;have R:=zaa S;clear S A9;have y:E.heap.size≤w3.heap.size:=L.size;have B6:w.heap.size<w3.heap.size:=by omega
 have z0:=(A5.o.trans (L.mono (by omega)));have X:=zaa z0;clear z0;have y0:=zac L Y x0;have y2:=zac L Y x2;have y3:=zac L Y x3;have y4:=zac L Y x4;clear y1 x0 x1 x2 x3 x4 A8 A2 B2 A3;have B0:=zaa L;clear L;have B3:N=1∨N=2∨N=3∨N=4:=by omega
 have U:(zmm N seq).size=9:=rfl;obtain⟨hd,A1⟩:∃hd,hd=zmm N seq:=⟨_,rfl⟩;rw[←A1]at R U;have q:=zaa A1;clear A1;rcases B3 with rfl|rfl|rfl|rfl
 ·obtain⟨pn,rfl⟩:=Int.eq_ofNat_of_zero_le p1;have B4:(pn:Int)≤255:=by omega
  go_wp2_with (at_builtin;refine zd6 rfl _ _ rfl E.heap.size _ hd (zeq pn) rfl (R.o.alloc _) ⟨w3.heap.size,0,none⟩ 1 rfl rfl ?qc2 ?qc4 (by decide) ?qc6 ?_)
  case qc2=>
   intro j u A;rw[zcu _ (by omega)]at A
   match j,A with
   |0,A=>simp at A;subst A;simp[go_sem]
  case qc4=>omega
  case qc6=>first|omega|(simp;omega)
  intro v4 w4 D A6;have M:Below E.heap.size E w4:=(B0.o.alloc y _).grown A6 (by first|omega|(simp;omega)) (fun k hk=>(R.o.lt k hk).1);have K:(hd++zeq pn).size=10:=by rw[ByteArray.size_append,U];rfl
  have Q:=zk0 D (by omega);have b:=zaa (A5.o.trans (M.mono (by omega)));obtain⟨t,I⟩:∃t,t=hd++zeq pn:=⟨_,rfl⟩;rw[←I]at Q K;have Z:=zaa I;clear D A6 M I;go_wp2_with fail;refine(zgt t _ (by rw[K];decide)).mono ?_;rintro e w5 ⟨rfl,J⟩;have O:=zaa (zae b.o J);clear J;go_wp2
  go_ret2
  exact⟨by rw[Z.o,q.o];rfl,O.o⟩
 ·obtain⟨g1,g2,g3,I,_,d,_⟩:=HP.o;have HR:=zaa d;have l:=(I rfl).2;obtain rfl:=g1 (by decide);have i:∀x∈F,0≤x.1∧x.1≤11:=fun x hx=>zkz _ _ HR.o (by omega) x.1 (List.mem_map.2 ⟨x,hx,rfl⟩);have A0:=zaa i;clear g1 g2 g3 I d i;go_wp2_with fail;refine(zsl E.heap.size _ hd a c F _ w R.o HT.o X.o (by omega) y (by omega) l A0.o).mono ?_;rintro e w4 ⟨v4,rfl,D,M⟩
  have K:(zgw (hd++zeq F.length) F).size≤30∧0<(zgw (hd++zeq F.length) F).size:=by
   rw[zm5,ByteArray.size_append,U,show(zeq F.length).size=1 from rfl];omega
  have Q:=zk0 D K.2;have b:=zaa (X.o.trans (M.mono (by omega)));obtain⟨t,I⟩:∃t,t=zgw (hd++zeq F.length) F:=⟨_,rfl⟩;rw[←I]at Q K;have Z:=zaa I;clear D M I;go_wp2_with fail;refine(zgt t _ (by unfold maxLen;omega)).mono ?_;rintro e w5 ⟨rfl,J⟩;have O:=zaa (zae b.o J);clear J;go_wp2
  go_ret2
  exact⟨by rw[Z.o,q.o];rfl,O.o⟩
 ·obtain⟨g1,g2,g3,_,hb,_,d⟩:=HP.o;have HR:=zaa d;have l:=(hb rfl).2;obtain rfl:=g1 (by decide);have i:∀x∈B,0≤x∧x≤11:=fun x hx=>zkz _ _ HR.o (by omega) x hx;have A0:=zaa i;clear g1 g2 g3 hb d i;go_wp2_with fail;refine(zob E.heap.size _ hd a' c' B _ w R.o HN.o X.o (by omega) y (by omega) l A0.o).mono ?_;rintro e w4 ⟨v4,rfl,D,M⟩
  have K:(zgx (hd++zeq B.length) B).size≤30∧0<(zgx (hd++zeq B.length) B).size:=by
   rw[zm6,ByteArray.size_append,U,show(zeq B.length).size=1 from rfl];omega
  have Q:=zk0 D K.2;have b:=zaa (X.o.trans (M.mono (by omega)));obtain⟨t,I⟩:∃t,t=zgx (hd++zeq B.length) B:=⟨_,rfl⟩;rw[←I]at Q K;have Z:=zaa I;clear D M I;go_wp2_with fail;refine(zgt t _ (by unfold maxLen;omega)).mono ?_;rintro e w5 ⟨rfl,J⟩;have O:=zaa (zae b.o J);clear J;go_wp2
  go_ret2
  exact⟨by rw[Z.o,q.o];rfl,O.o⟩
 ·have Q:=zk0 R.o (by omega);go_wp2_with fail;refine(zgt hd _ (by rw[U];decide)).mono ?_;rintro e w5 ⟨rfl,J⟩;have O:=zaa (zae X.o J);clear J;go_wp2
  go_ret2
  exact⟨by rw[q.o];rfl,O.o⟩
theorem zdv(v:Value)(m:Mk)(w:World)(h:IsMk w v m):
  Calls prog 70 #[v] w fun e w'=>e=.returned (.tuple #[.string (encT m),.int .i64 (goodM m)])∧Below w.heap.size w w':=by
 by_cases hg:goodM m=0
 ·have A:encT m=fitT (zoa m):=by rw[encT,if_pos hg]
  rw[A,hg];exact zmo v m w h hg
 ·exact zmn v m w h hg
theorem zll(s:ByteArray)(w:World)(hn:s.size≤maxLen):
  Calls Tryz.prog 130 #[.string s,.string ⟨#[87,66,75,49]⟩] w fun e w'=>e=.returned (.bool (isMagic s))∧w=w':=by
 unfold maxLen at hn;go_enter Tryz.func130,Tryz.ntmps130;by_cases h4:4≤s.size
 ·have C:(4:Int)≤(s.size:Int):=by omega
  by_cases hm:((s.extract 0 4).toList==[87,66,75,49])=true
  ·have A:Hid (isMagic s=true):=by rw[Hid,isMagic,if_pos h4];exact hm
   go_wp2;go_ret;exact⟨by rw[A.o];rfl,rfl⟩
  ·have B:((s.extract 0 4).toList==[87,66,75,49])=false:=by simpa using hm
   have A:Hid (isMagic s=false):=by rw[Hid,isMagic,if_pos h4];exact B
   clear hm;go_wp2;go_ret;exact⟨by rw[A.o];rfl,rfl⟩
 ·have C:¬(4:Int)≤(s.size:Int):=by omega
  have A:Hid (isMagic s=false):=by rw[Hid,isMagic,if_neg h4]
  go_wp2;go_ret;exact⟨by rw[A.o];rfl,rfl⟩
def z3n (s:ByteArray):ByteArray:=if isMagic s then s.extract 4 s.size else s
theorem zew{s:ByteArray}(h:isMagic s=true):4≤s.size:=by
 by_cases h4:4≤s.size
 ·exact h4
 ·rw[isMagic,if_neg h4]at h;cases h
theorem zjt(s:ByteArray)(b:Bool)(w:World)(hn:s.size≤maxLen):
  Calls Tryz.prog 191 #[.string s,.bool b] w fun e w'=>e=.returned (.string (zff s b))∧w=w':=by
 unfold maxLen at hn;go_enter Tryz.func191,Tryz.ntmps191
 cases b with
 |false=>
  go_wp2;go_ret;exact⟨by simp[zff],rfl⟩
 |true=>
  by_cases h4:s.size<4
  ·have A:(s.size:Int)<4:=by omega
   go_wp2;go_ret;exact⟨by simp[zff,h4],rfl⟩
  ·have A:¬(s.size:Int)<4:=by omega
   go_wp2;go_ret;exact⟨by simp[zff,h4],rfl⟩
open Go.Proofs.Tryz
theorem zon(s:ByteArray)(w:World)(hn:s.size≤maxLen):
  Calls prog 218 #[.string s,.string ⟨#[87,66,75,49]⟩] w fun e w'=>e=.returned (.tuple #[.string (z3n s),.bool (isMagic s)])∧w=w':=by
 have C:=zaa hn;unfold maxLen at hn;go_enter func218,ntmps218;go_wp2_with fail;refine(zll s _ C.o).mono ?_;rintro e w1 ⟨rfl,rfl⟩
 cases hm:isMagic s with
 |true=>
  have h4:=zew hm;have A:=zaa hm;have B:Hid (z3n s=s.extract 4 s.size):=by rw[Hid,z3n,if_pos hm]
  clear hm;go_wp2
  go_ret2
  exact⟨by rw[B.o,A.o];rfl,rfl⟩
 |false=>
  have A:=zaa hm;have B:Hid (z3n s=s):=by rw[Hid,z3n,hm];rfl
  clear hm;go_wp2
  go_ret2
  exact⟨by rw[B.o,A.o];rfl,rfl⟩
theorem zze(s:ByteArray)(w:World)(hn:s.size≤maxLen):
  Calls prog 216 #[.string s,.string ⟨#[87,66,75,49]⟩] w fun e w'=>e=.returned (.tuple #[.string (z3n s),.bool (isMagic s)])∧w=w':=by
 have A:=zaa hn;go_enter func216,ntmps216;go_wp2_with fail;refine(zon s _ A.o).mono ?_;rintro e w1 ⟨rfl,rfl⟩;go_wp2
 go_ret2
 exact⟨rfl,rfl⟩
theorem zlq(s:ByteArray)(w:World)(hn:s.size≤maxLen):
  Calls prog 202 #[.string s] w fun e w'=>e=.returned (.tuple #[.string (escT s),.bool (isMagic s)])∧w=w':=by
 have C:=zaa hn;unfold maxLen at hn;go_enter func202,ntmps202;go_wp2_with fail;refine(zze s _ C.o).mono ?_;rintro e w1 ⟨rfl,rfl⟩
 cases hm:isMagic s with
 |true=>
  have h4:=zew hm;have A:=zaa hm;have D:Hid (z3n s=s.extract 4 s.size):=by rw[Hid,z3n,if_pos hm]
  have B:Hid (escT s=(⟨#[0,0,0,0]⟩:ByteArray)++s.extract 4 s.size):=by rw[Hid,escT,if_pos hm]
  have hz:(s.extract 4 s.size).size≤s.size:=by rw[ByteArray.size_extract];omega
  clear hm;rw[D.o];go_wp2
  go_ret2
  exact⟨by rw[B.o,A.o];rfl,rfl⟩
 |false=>
  have A:=zaa hm;have B:Hid (escT s=s):=by rw[Hid,escT,hm];rfl
  clear hm;go_wp2
  go_ret2
  exact⟨by rw[B.o,A.o];rfl,rfl⟩
