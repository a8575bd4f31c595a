/-
  
-/
import Derived.Test.YtjnpndfpajjihacGreatSApp
import Derived.ArgAppend
import Derived.Lib.SlBytesConst
set_option maxRecDepth 100000
set_option maxHeartbeats 40000000
namespace Go.Proofs.YtjnpndfpajjihacGreat
open Go.Proofs.Tryz
open Go.RowKit
def zlt:ByteArray:=⟨#[87,66,75,49]⟩
theorem zp7{w:World}{ops:Array Oper}{rest:List Oper}{o:Oper}{a:Act}{Q:Exit→Act→World→Prop}(hgd:o.guard=none)(s x:Operand)
  (ho:o.op=.call {callee:=.builtin .append,args:=#[s,x],argTypes:=#[139,139]})
  (b:Addr) (nw:ByteArray) (hs:a.eval s=.slice (some b) 4 4) (holds:∀j u,(cellsB zlt)[j]?=some u→w.cell? (b.add j)=some u) (ad:Addr) (hx:a.eval x=.slice (some ad) 1 1) (hm:nw.size=1)
  (hnews:∀j u,(cellsB nw)[j]?=some u→w.cell? (ad.add j)=some u)
  (h:∀v' w',OwnB w' w.heap.size v' (zlt++nw)→w.grownBy w' none→wpList prog ops Q rest (a.put o.dst v') w'):wpList prog ops Q (o::rest) a w:=by
 obtain⟨D,F,B,C,A⟩:=info_parts z49;refine wpList_append_grows w hgd s x 139 ho 5 D (.int .u8 0) 1 1 underlying139 F B C A rfl (by decide) (some b) 4 4 (cellsB zlt) hs (fun e=>by cases e) rfl (fun b' e j u hj=>by cases e;exact holds j u hj) ad 1 1 (cellsB nw) hx (by rw[zi1,hm]) hnews zke (by omega) (by decide) (by omega) ?_;intro v' w' I E;exact h v' w' (OwnB.more (by rw[hm];rfl) I) E
def zyn (q:Int):ByteArray:=zef (q/16777216).toNat++zef (q/65536%256).toNat++zef (q/256%256).toNat++zef (q%256).toNat
theorem zv4(q:Int)(h0:0≤q)(h1:q≤2147483647):cellsB (zyn q)=[.int .u8 (q/16777216),.int .u8 (q/65536%256),.int .u8 (q/256%256),.int .u8 (q%256)]:=by
 rw[zyn,zdr,zdr,zdr,zcr _ (by omega),zcr _ (by omega),zcr _ (by omega),zcr _ (by omega)];rw[Int.toNat_of_nonneg (by omega),Int.toNat_of_nonneg (by omega),Int.toNat_of_nonneg (by omega),Int.toNat_of_nonneg (by omega)];rfl
theorem z38(n:Nat)(q:Int):(zlt++zef n)++zyn q=zmx n q:=by
 rw[zyn,zmx,Int.toNat_natCast,zlt];simp only[ByteArray.append_assoc]
theorem zmy(v:Value)(m:Mk)(w:World)(h:IsMk w v m)(hno:¬goodM m=0):
  Calls prog 70 #[v] w fun e w'=>e=.returned (.tuple #[.string (encT m),.int .i64 (goodM m)])∧Below w.heap.size w w':=by
 have D:=zab h;obtain⟨a,c,a',c',rfl,_,_,_,_⟩:=h;have B:Hid (encT m=ByteArray.empty):=by rw[Hid,encT,if_neg hno]
 have A0:(goodM m !=0)=true:=by simpa using hno
 clear hno;go_enter func70,ntmps70;go_wp2_with fail;refine(zix _ m _ (D.o.below (zaa _ _))).mono ?_;rintro e w1 ⟨rfl,A⟩;have C:=zab (zae (zaa _ _) A);clear A;go_wp2
 go_ret2
 exact⟨by rw[B.o];rfl,C.o⟩
theorem zmz(v:Value)(m:Mk)(w:World)(h:IsMk w v m)(hg:goodM m=0):
  Calls prog 70 #[v] w fun e w'=>e=.returned (.tuple #[.string (fitT (zom m)),.int .i64 0])∧Below w.heap.size w w':=by
 have HI:=zab h;have HG:=zab hg;obtain⟨a,c,a',c',rfl,hT,hN,hn,B8⟩:=h;have HT:=zab hT;have HN:=zab hN;obtain⟨⟨k1,k2⟩,⟨q1,q2,p1,p2⟩,⟨f1,f2,f3⟩,J,hb,U,A6⟩:=zgd hg;have HP:=zab (And.intro f1 (And.intro f2 (And.intro f3 (And.intro J (And.intro hb (And.intro U A6))))));clear hT hN hg f1 f2 f3 J hb U A6;go_enter func70,ntmps70;go_wp2_with fail;refine(zix _ m _ (HI.o.below (zaa _ _))).mono ?_;rintro e E ⟨rfl,q⟩;rw[HG.o];have i:w.heap.size<E.heap.size:=by have:=q.size;simp at this;omega
 obtain⟨⟨x0,x1,x2,x3,x4⟩,_⟩:=zis (z32 q);have A7:=zab (zae (zaa _ _) q);clear q;obtain⟨kind,seq,pos,F,B⟩:=m;dsimp only at *;obtain⟨N,rfl⟩:=Int.eq_ofNat_of_zero_le (show 0≤kind by omega);have B4:(N:Int)≤255:=by omega
 have B9:(0:Int)≤(N:Int):=by omega
 have kc:=fun(w:World) (C:Array Value) (n c:Nat)=>Lib.run_convert_bytes_const (P:=prog) w 139 5 C n c underlying139 underlying5;go_wp2_with (at_builtin;refine zp7 rfl _ _ rfl ⟨E.heap.size,0,none⟩ (zef N) rfl ?qc1 ⟨E.heap.size+1,0,none⟩ rfl rfl ?qc2 ?_)
 case qc1=>
  intro j u A
  match j,A with
  |0,A=>cases A;simp[go_sem];exact World.cell?_alloc_mark E _ _ _ _
  |1,A=>cases A;simp[go_sem];exact World.cell?_alloc_mark E _ _ _ _
  |2,A=>cases A;simp[go_sem];exact World.cell?_alloc_mark E _ _ _ _
  |3,A=>cases A;simp[go_sem];exact World.cell?_alloc_mark E _ _ _ _
 case qc2=>
  intro j u A;rw[zcr _ (by omega)]at A
  match j,A with
  |0,A=>simp at A;subst A;simp[go_sem]
 intro v2 w2 p A8;have r:Below E.heap.size E w2:=((zaa _ _).alloc (by simp) _).grown A8 (by first|omega|(simp;omega)) (fun k hk=>by cases hk);have A2:Hid (OwnB w2 E.heap.size v2 (zlt++zef N)):=za6 p (by first|omega|(simp;omega));clear p A8;have B3:E.heap.size≤w2.heap.size:=r.size;have B7:w.heap.size<w2.heap.size:=by omega
 have y1:=zac r i x1;have A4:=zab r;clear r;have B1:0≤seq/16777216:=by omega
 have A3:seq/16777216≤255:=by omega
 go_wp2_with (at_builtin;refine zd3 rfl _ _ rfl E.heap.size _ (zlt++zef N) (zyn seq) rfl (A2.o.alloc _) ⟨w2.heap.size,0,none⟩ 4 rfl rfl ?qc2 ?qc4 (by decide) ?qc6 ?_)
 case qc2=>
  intro j u A;rw[zv4 seq (by omega) q2]at A
  match j,A with
  |0,A=>simp at A;subst A;simp[go_sem]
  |1,A=>simp at A;subst A;simp[go_sem]
  |2,A=>simp at A;subst A;simp[go_sem]
  |3,A=>simp at A;subst A;simp[go_sem]
 case qc4=>show 5≤2000;decide
 case qc6=>first|omega|(simp;omega)
 intro v3 w3 S A9;have M:Below E.heap.size E w3:=(A4.o.alloc B3 _).grown A9 (by first|omega|(simp;omega)) (fun k hk=>(A2.o.lt k hk).1);rw[z38]at S;have R:=zab S;clear S A9;have A1:E.heap.size≤w3.heap.size:=M.size;have B6:w.heap.size<w3.heap.size:=by omega
 have z0:=(A7.o.trans (M.mono (by omega)));have Z:=zab z0;clear z0;have y0:=zac M i x0;have y2:=zac M i x2;have y3:=zac M i x3;have y4:=zac M i x4;clear y1 x0 x1 x2 x3 x4 A4 A2 B1 A3;have B0:=zab M;clear M;have B2:N=1∨N=2∨N=3∨N=4:=by omega
 have b:(zmx N seq).size=9:=rfl;obtain⟨hd,A0⟩:∃hd,hd=zmx N seq:=⟨_,rfl⟩;rw[←A0]at R b;have s:=zab A0;clear A0;rcases B2 with rfl|rfl|rfl|rfl
 ·obtain⟨pn,rfl⟩:=Int.eq_ofNat_of_zero_le p1;have B5:(pn:Int)≤255:=by omega
  go_wp2_with (at_builtin;refine zd3 rfl _ _ rfl E.heap.size _ hd (zef pn) rfl (R.o.alloc _) ⟨w3.heap.size,0,none⟩ 1 rfl rfl ?qc2 ?qc4 (by decide) ?qc6 ?_)
  case qc2=>
   intro j u A;rw[zcr _ (by omega)]at A
   match j,A with
   |0,A=>simp at A;subst A;simp[go_sem]
  case qc4=>omega
  case qc6=>first|omega|(simp;omega)
  intro v4 w4 D A5;have K:Below E.heap.size E w4:=(B0.o.alloc A1 _).grown A5 (by first|omega|(simp;omega)) (fun k hk=>(R.o.lt k hk).1);have L:(hd++zef pn).size=10:=by rw[ByteArray.size_append,b];rfl
  have Q:=zk7 D (by omega);have X:=zab (A7.o.trans (K.mono (by omega)));obtain⟨t,J⟩:∃t,t=hd++zef pn:=⟨_,rfl⟩;rw[←J]at Q L;have Y:=zab J;clear D A5 K J;go_wp2_with fail;refine(zgb t _ (by rw[L];decide)).mono ?_;rintro e w5 ⟨rfl,I⟩;have O:=zab (zae X.o I);clear I;go_wp2
  go_ret2
  exact⟨by rw[Y.o,s.o];rfl,O.o⟩
 ·obtain⟨z,g2,g3,J,_,U,_⟩:=HP.o;have HR:=zab U;have l:=(J rfl).2;obtain rfl:=z (by decide);have d:∀x∈F,0≤x.1∧x.1≤11:=fun x hx=>zk6 _ _ HR.o (by omega) x.1 (List.mem_map.2 ⟨x,hx,rfl⟩);have y:=zab d;clear z g2 g3 J U d;go_wp2_with fail;refine(zsq E.heap.size _ hd a c F _ w R.o HT.o Z.o (by omega) A1 (by omega) l y.o).mono ?_;rintro e w4 ⟨v4,rfl,D,K⟩
  have L:(zgv (hd++zef F.length) F).size≤30∧0<(zgv (hd++zef F.length) F).size:=by
   rw[znj,ByteArray.size_append,b,show(zef F.length).size=1 from rfl];omega
  have Q:=zk7 D L.2;have X:=zab (Z.o.trans (K.mono (by omega)));obtain⟨t,J⟩:∃t,t=zgv (hd++zef F.length) F:=⟨_,rfl⟩;rw[←J]at Q L;have Y:=zab J;clear D K J;go_wp2_with fail;refine(zgb t _ (by unfold maxLen;omega)).mono ?_;rintro e w5 ⟨rfl,I⟩;have O:=zab (zae X.o I);clear I;go_wp2
  go_ret2
  exact⟨by rw[Y.o,s.o];rfl,O.o⟩
 ·obtain⟨z,g2,g3,_,hb,_,U⟩:=HP.o;have HR:=zab U;have l:=(hb rfl).2;obtain rfl:=z (by decide);have d:∀x∈B,0≤x∧x≤11:=fun x hx=>zk6 _ _ HR.o (by omega) x hx;have y:=zab d;clear z g2 g3 hb U d;go_wp2_with fail;refine(zon E.heap.size _ hd a' c' B _ w R.o HN.o Z.o (by omega) A1 (by omega) l y.o).mono ?_;rintro e w4 ⟨v4,rfl,D,K⟩
  have L:(zgw (hd++zef B.length) B).size≤30∧0<(zgw (hd++zef B.length) B).size:=by
   rw[znk,ByteArray.size_append,b,show(zef B.length).size=1 from rfl];omega
  have Q:=zk7 D L.2;have X:=zab (Z.o.trans (K.mono (by omega)));obtain⟨t,J⟩:∃t,t=zgw (hd++zef B.length) B:=⟨_,rfl⟩;rw[←J]at Q L;have Y:=zab J;clear D K J;go_wp2_with fail;refine(zgb t _ (by unfold maxLen;omega)).mono ?_;rintro e w5 ⟨rfl,I⟩;have O:=zab (zae X.o I);clear I;go_wp2
  go_ret2
  exact⟨by rw[Y.o,s.o];rfl,O.o⟩
 ·have Q:=zk7 R.o (by omega);go_wp2_with fail;refine(zgb hd _ (by rw[b];decide)).mono ?_;rintro e w5 ⟨rfl,I⟩;have O:=zab (zae Z.o I);clear I;go_wp2
  go_ret2
  exact⟨by rw[s.o];rfl,O.o⟩
theorem zds(v:Value)(m:Mk)(w:World)(h:IsMk w v m):
  Calls prog 70 #[v] w fun e w'=>e=.returned (.tuple #[.string (encT m),.int .i64 (goodM m)])∧Below w.heap.size w w':=by
 by_cases hg:goodM m=0
 ·have A:encT m=fitT (zom m):=by rw[encT,if_pos hg]
  rw[A,hg];exact zmz v m w h hg
 ·exact zmy v m w h hg
theorem zlv(s:ByteArray)(w:World)(hn:s.size≤maxLen):
  Calls Tryz.prog 130 #[.string s,.string ⟨#[87,66,75,49]⟩] w fun e w'=>e=.returned (.bool (isMagic s))∧w=w':=by
 unfold maxLen at hn;go_enter Tryz.func130,Tryz.ntmps130;by_cases h4:4≤s.size
 ·have B:(4:Int)≤(s.size:Int):=by omega
  by_cases hm:((s.extract 0 4).toList==[87,66,75,49])=true
  ·have A:Hid (isMagic s=true):=by rw[Hid,isMagic,if_pos h4];exact hm
   go_wp2;go_ret;exact⟨by rw[A.o];rfl,rfl⟩
  ·have C:((s.extract 0 4).toList==[87,66,75,49])=false:=by simpa using hm
   have A:Hid (isMagic s=false):=by rw[Hid,isMagic,if_pos h4];exact C
   clear hm;go_wp2;go_ret;exact⟨by rw[A.o];rfl,rfl⟩
 ·have B:¬(4:Int)≤(s.size:Int):=by omega
  have A:Hid (isMagic s=false):=by rw[Hid,isMagic,if_neg h4]
  go_wp2;go_ret;exact⟨by rw[A.o];rfl,rfl⟩
def z3s (s:ByteArray):ByteArray:=if isMagic s then s.extract 4 s.size else s
theorem zel{s:ByteArray}(h:isMagic s=true):4≤s.size:=by
 by_cases h4:4≤s.size
 ·exact h4
 ·rw[isMagic,if_neg h4]at h;cases h
theorem zjx(s:ByteArray)(b:Bool)(w:World)(hn:s.size≤maxLen):
  Calls Tryz.prog 191 #[.string s,.bool b] w fun e w'=>e=.returned (.string (zfa s b))∧w=w':=by
 unfold maxLen at hn;go_enter Tryz.func191,Tryz.ntmps191
 cases b with
 |false=>
  go_wp2;go_ret;exact⟨by simp[zfa],rfl⟩
 |true=>
  by_cases h4:s.size<4
  ·have A:(s.size:Int)<4:=by omega
   go_wp2;go_ret;exact⟨by simp[zfa,h4],rfl⟩
  ·have A:¬(s.size:Int)<4:=by omega
   go_wp2;go_ret;exact⟨by simp[zfa,h4],rfl⟩
open Go.Proofs.Tryz
theorem zoz(s:ByteArray)(w:World)(hn:s.size≤maxLen):
  Calls prog 218 #[.string s,.string ⟨#[87,66,75,49]⟩] w fun e w'=>e=.returned (.tuple #[.string (z3s s),.bool (isMagic s)])∧w=w':=by
 have C:=zab hn;unfold maxLen at hn;go_enter func218,ntmps218;go_wp2_with fail;refine(zlv s _ C.o).mono ?_;rintro e w1 ⟨rfl,rfl⟩
 cases hm:isMagic s with
 |true=>
  have h4:=zel hm;have B:=zab hm;have A:Hid (z3s s=s.extract 4 s.size):=by rw[Hid,z3s,if_pos hm]
  clear hm;go_wp2
  go_ret2
  exact⟨by rw[A.o,B.o];rfl,rfl⟩
 |false=>
  have B:=zab hm;have A:Hid (z3s s=s):=by rw[Hid,z3s,hm];rfl
  clear hm;go_wp2
  go_ret2
  exact⟨by rw[A.o,B.o];rfl,rfl⟩
theorem zzj(s:ByteArray)(w:World)(hn:s.size≤maxLen):
  Calls prog 216 #[.string s,.string ⟨#[87,66,75,49]⟩] w fun e w'=>e=.returned (.tuple #[.string (z3s s),.bool (isMagic s)])∧w=w':=by
 have A:=zab hn;go_enter func216,ntmps216;go_wp2_with fail;refine(zoz s _ A.o).mono ?_;rintro e w1 ⟨rfl,rfl⟩;go_wp2
 go_ret2
 exact⟨rfl,rfl⟩
theorem zl0(s:ByteArray)(w:World)(hn:s.size≤maxLen):
  Calls prog 202 #[.string s] w fun e w'=>e=.returned (.tuple #[.string (escT s),.bool (isMagic s)])∧w=w':=by
 have D:=zab hn;unfold maxLen at hn;go_enter func202,ntmps202;go_wp2_with fail;refine(zzj s _ D.o).mono ?_;rintro e w1 ⟨rfl,rfl⟩
 cases hm:isMagic s with
 |true=>
  have h4:=zel hm;have B:=zab hm;have C:Hid (z3s s=s.extract 4 s.size):=by rw[Hid,z3s,if_pos hm]
  have A:Hid (escT s=(⟨#[0,0,0,0]⟩:ByteArray)++s.extract 4 s.size):=by rw[Hid,escT,if_pos hm]
  have hz:(s.extract 4 s.size).size≤s.size:=by rw[ByteArray.size_extract];omega
  clear hm;rw[C.o];go_wp2
  go_ret2
  exact⟨by rw[A.o,B.o];rfl,rfl⟩
 |false=>
  have B:=zab hm;have A:Hid (escT s=s):=by rw[Hid,escT,hm];rfl
  clear hm;go_wp2
  go_ret2
  exact⟨by rw[A.o,B.o];rfl,rfl⟩
