/-
  
-/
import Derived.Test.YtjnpndfpajjihacGreatSApp
import Derived.ArgAppend
import Derived.Lib.SlBytesConst
set_option maxRecDepth 100000
set_option maxHeartbeats 40000000
namespace Go.Proofs.YtjnpndfpajjihacGreat
open Go.Proofs.Tryz
open Go.RowKit
def zls:ByteArray:=⟨#[87,66,75,49]⟩
theorem zp9{w:World}{ops:Array Oper}{rest:List Oper}{o:Oper}{a:Act}{Q:Exit→Act→World→Prop}(hgd:o.guard=none)(s x:Operand)
  (ho:o.op=.call {callee:=.builtin .append,args:=#[s,x],argTypes:=#[139,139]})
  (b:Addr) (nw:ByteArray) (hs:a.eval s=.slice (some b) 4 4) (holds:∀j u,(cellsB zls)[j]?=some u→w.cell? (b.add j)=some u) (ad:Addr) (hx:a.eval x=.slice (some ad) 1 1) (hm:nw.size=1)
  (hnews:∀j u,(cellsB nw)[j]?=some u→w.cell? (ad.add j)=some u)
  (h:∀v' w',OwnB w' w.heap.size v' (zls++nw)→w.grownBy w' none→wpList prog ops Q rest (a.put o.dst v') w'):wpList prog ops Q (o::rest) a w:=by
 obtain⟨F,I,C,A,B⟩:=info_parts z5n;refine wpList_append_grows w hgd s x 139 ho 5 F (.int .u8 0) 1 1 underlying139 I C A B rfl (by decide) (some b) 4 4 (cellsB zls) hs (fun e=>by cases e) rfl (fun b' e j u hj=>by cases e;exact holds j u hj) ad 1 1 (cellsB nw) hx (by rw[zi0,hm]) hnews zkd (by omega) (by decide) (by omega) ?_;intro v' w' E D;exact h v' w' (OwnB.more (by rw[hm];rfl) E) D
def zyn (q:Int):ByteArray:=zei (q/16777216).toNat++zei (q/65536%256).toNat++zei (q/256%256).toNat++zei (q%256).toNat
theorem zv3(q:Int)(h0:0≤q)(h1:q≤2147483647):cellsB (zyn q)=[.int .u8 (q/16777216),.int .u8 (q/65536%256),.int .u8 (q/256%256),.int .u8 (q%256)]:=by
 rw[zyn,zdr,zdr,zdr,zcr _ (by omega),zcr _ (by omega),zcr _ (by omega),zcr _ (by omega)];rw[Int.toNat_of_nonneg (by omega),Int.toNat_of_nonneg (by omega),Int.toNat_of_nonneg (by omega),Int.toNat_of_nonneg (by omega)];rfl
theorem z4g(n:Nat)(q:Int):(zls++zei n)++zyn q=zmw n q:=by
 rw[zyn,zmw,Int.toNat_natCast,zls];simp only[ByteArray.append_assoc]
theorem zmx(v:Value)(m:Mk)(w:World)(h:IsMk w v m)(hno:¬goodM m=0):
  Calls prog 70 #[v] w fun e w'=>e=.returned (.tuple #[.string (encT m),.int .i64 (goodM m)])∧Below w.heap.size w w':=by
 have C:=zaa h;obtain⟨a,c,a',c',rfl,_,_,_,_⟩:=h;have D:Hid (encT m=ByteArray.empty):=by rw[Hid,encT,if_neg hno]
 have A0:(goodM m !=0)=true:=by simpa using hno
 clear hno;go_enter func70,ntmps70;go_wp2_with fail;refine(ziw _ m _ (C.o.below (zab _ _))).mono ?_;rintro e w1 ⟨rfl,A⟩;have B:=zaa (zae (zab _ _) A);clear A;go_wp2
 go_ret2
 exact⟨by rw[D.o];rfl,B.o⟩
theorem zmy(v:Value)(m:Mk)(w:World)(h:IsMk w v m)(hg:goodM m=0):
  Calls prog 70 #[v] w fun e w'=>e=.returned (.tuple #[.string (fitT (zol m)),.int .i64 0])∧Below w.heap.size w w':=by
 have HI:=zaa h;have HG:=zaa hg;obtain⟨a,c,a',c',rfl,hT,hN,hn,B7⟩:=h;have HT:=zaa hT;have HN:=zaa hN;obtain⟨⟨k1,k2⟩,⟨q1,q2,p1,p2⟩,⟨f1,f2,f3⟩,I,hb,U,A3⟩:=zgb hg;have HP:=zaa (And.intro f1 (And.intro f2 (And.intro f3 (And.intro I (And.intro hb (And.intro U A3))))));clear hT hN hg f1 f2 f3 I hb U A3;go_enter func70,ntmps70;go_wp2_with fail;refine(ziw _ m _ (HI.o.below (zab _ _))).mono ?_;rintro e E ⟨rfl,s⟩;rw[HG.o];have b:w.heap.size<E.heap.size:=by have:=s.size;simp at this;omega
 obtain⟨⟨x0,x1,x2,x3,x4⟩,_⟩:=zhn (z4b s);have A5:=zaa (zae (zab _ _) s);clear s;obtain⟨kind,seq,pos,F,B⟩:=m;dsimp only at *;obtain⟨N,rfl⟩:=Int.eq_ofNat_of_zero_le (show 0≤kind by omega);have B4:(N:Int)≤255:=by omega
 have B8:(0:Int)≤(N:Int):=by omega
 have kc:=fun(w:World) (C:Array Value) (n c:Nat)=>Lib.run_convert_bytes_const (P:=prog) w 139 5 C n c underlying139 underlying5;go_wp2_with (at_builtin;refine zp9 rfl _ _ rfl ⟨E.heap.size,0,none⟩ (zei N) rfl ?qc1 ⟨E.heap.size+1,0,none⟩ rfl rfl ?qc2 ?_)
 case qc1=>
  intro j u A
  match j,A with
  |0,A=>cases A;simp[go_sem];exact World.cell?_alloc_mark E _ _ _ _
  |1,A=>cases A;simp[go_sem];exact World.cell?_alloc_mark E _ _ _ _
  |2,A=>cases A;simp[go_sem];exact World.cell?_alloc_mark E _ _ _ _
  |3,A=>cases A;simp[go_sem];exact World.cell?_alloc_mark E _ _ _ _
 case qc2=>
  intro j u A;rw[zcr _ (by omega)]at A
  match j,A with
  |0,A=>simp at A;subst A;simp[go_sem]
 intro v2 w2 q A7;have p:Below E.heap.size E w2:=((zab _ _).alloc (by simp) _).grown A7 (by first|omega|(simp;omega)) (fun k hk=>by cases hk);have z:Hid (OwnB w2 E.heap.size v2 (zls++zei N)):=zba q (by first|omega|(simp;omega));clear q A7;have B1:E.heap.size≤w2.heap.size:=p.size;have B6:w.heap.size<w2.heap.size:=by omega
 have y1:=zac p b x1;have A6:=zaa p;clear p;have B0:0≤seq/16777216:=by omega
 have A2:seq/16777216≤255:=by omega
 go_wp2_with (at_builtin;refine zd3 rfl _ _ rfl E.heap.size _ (zls++zei N) (zyn seq) rfl (z.o.alloc _) ⟨w2.heap.size,0,none⟩ 4 rfl rfl ?qc2 ?qc4 (by decide) ?qc6 ?_)
 case qc2=>
  intro j u A;rw[zv3 seq (by omega) q2]at A
  match j,A with
  |0,A=>simp at A;subst A;simp[go_sem]
  |1,A=>simp at A;subst A;simp[go_sem]
  |2,A=>simp at A;subst A;simp[go_sem]
  |3,A=>simp at A;subst A;simp[go_sem]
 case qc4=>show 5≤2000;decide
 case qc6=>first|omega|(simp;omega)
 intro v3 w3 S A8;have L:Below E.heap.size E w3:=(A6.o.alloc B1 _).grown A8 (by first|omega|(simp;omega)) (fun k hk=>(z.o.lt k hk).1);rw[z4g]at S;have Q:=zaa S;clear S A8;have A1:E.heap.size≤w3.heap.size:=L.size;have B5:w.heap.size<w3.heap.size:=by omega
 have z0:=(A5.o.trans (L.mono (by omega)));have d:=zaa z0;clear z0;have y0:=zac L b x0;have y2:=zac L b x2;have y3:=zac L b x3;have y4:=zac L b x4;clear y1 x0 x1 x2 x3 x4 A6 z B0 A2;have A9:=zaa L;clear L;have B2:N=1∨N=2∨N=3∨N=4:=by omega
 have i:(zmw N seq).size=9:=rfl;obtain⟨hd,A0⟩:∃hd,hd=zmw N seq:=⟨_,rfl⟩;rw[←A0]at Q i;have r:=zaa A0;clear A0;rcases B2 with rfl|rfl|rfl|rfl
 ·obtain⟨pn,rfl⟩:=Int.eq_ofNat_of_zero_le p1;have B3:(pn:Int)≤255:=by omega
  go_wp2_with (at_builtin;refine zd3 rfl _ _ rfl E.heap.size _ hd (zei pn) rfl (Q.o.alloc _) ⟨w3.heap.size,0,none⟩ 1 rfl rfl ?qc2 ?qc4 (by decide) ?qc6 ?_)
  case qc2=>
   intro j u A;rw[zcr _ (by omega)]at A
   match j,A with
   |0,A=>simp at A;subst A;simp[go_sem]
  case qc4=>omega
  case qc6=>first|omega|(simp;omega)
  intro v4 w4 D A4;have K:Below E.heap.size E w4:=(A9.o.alloc A1 _).grown A4 (by first|omega|(simp;omega)) (fun k hk=>(Q.o.lt k hk).1);have M:(hd++zei pn).size=10:=by rw[ByteArray.size_append,i];rfl
  have R:=zk5 D (by omega);have Y:=zaa (A5.o.trans (K.mono (by omega)));obtain⟨t,I⟩:∃t,t=hd++zei pn:=⟨_,rfl⟩;rw[←I]at R M;have X:=zaa I;clear D A4 K I;go_wp2_with fail;refine(zf9 t _ (by rw[M];decide)).mono ?_;rintro e w5 ⟨rfl,J⟩;have O:=zaa (zae Y.o J);clear J;go_wp2
  go_ret2
  exact⟨by rw[X.o,r.o];rfl,O.o⟩
 ·obtain⟨g1,g2,g3,I,_,U,_⟩:=HP.o;have HR:=zaa U;have l:=(I rfl).2;obtain rfl:=g1 (by decide);have Z:∀x∈F,0≤x.1∧x.1≤11:=fun x hx=>zk4 _ _ HR.o (by omega) x.1 (List.mem_map.2 ⟨x,hx,rfl⟩);have y:=zaa Z;clear g1 g2 g3 I U Z;go_wp2_with fail;refine(zsn E.heap.size _ hd a c F _ w Q.o HT.o d.o (by omega) A1 (by omega) l y.o).mono ?_;rintro e w4 ⟨v4,rfl,D,K⟩
  have M:(zgs (hd++zei F.length) F).size≤30∧0<(zgs (hd++zei F.length) F).size:=by
   rw[znj,ByteArray.size_append,i,show(zei F.length).size=1 from rfl];omega
  have R:=zk5 D M.2;have Y:=zaa (d.o.trans (K.mono (by omega)));obtain⟨t,I⟩:∃t,t=zgs (hd++zei F.length) F:=⟨_,rfl⟩;rw[←I]at R M;have X:=zaa I;clear D K I;go_wp2_with fail;refine(zf9 t _ (by unfold maxLen;omega)).mono ?_;rintro e w5 ⟨rfl,J⟩;have O:=zaa (zae Y.o J);clear J;go_wp2
  go_ret2
  exact⟨by rw[X.o,r.o];rfl,O.o⟩
 ·obtain⟨g1,g2,g3,_,hb,_,U⟩:=HP.o;have HR:=zaa U;have l:=(hb rfl).2;obtain rfl:=g1 (by decide);have Z:∀x∈B,0≤x∧x≤11:=fun x hx=>zk4 _ _ HR.o (by omega) x hx;have y:=zaa Z;clear g1 g2 g3 hb U Z;go_wp2_with fail;refine(zom E.heap.size _ hd a' c' B _ w Q.o HN.o d.o (by omega) A1 (by omega) l y.o).mono ?_;rintro e w4 ⟨v4,rfl,D,K⟩
  have M:(zgt (hd++zei B.length) B).size≤30∧0<(zgt (hd++zei B.length) B).size:=by
   rw[znk,ByteArray.size_append,i,show(zei B.length).size=1 from rfl];omega
  have R:=zk5 D M.2;have Y:=zaa (d.o.trans (K.mono (by omega)));obtain⟨t,I⟩:∃t,t=zgt (hd++zei B.length) B:=⟨_,rfl⟩;rw[←I]at R M;have X:=zaa I;clear D K I;go_wp2_with fail;refine(zf9 t _ (by unfold maxLen;omega)).mono ?_;rintro e w5 ⟨rfl,J⟩;have O:=zaa (zae Y.o J);clear J;go_wp2
  go_ret2
  exact⟨by rw[X.o,r.o];rfl,O.o⟩
 ·have R:=zk5 Q.o (by omega);go_wp2_with fail;refine(zf9 hd _ (by rw[i];decide)).mono ?_;rintro e w5 ⟨rfl,J⟩;have O:=zaa (zae d.o J);clear J;go_wp2
  go_ret2
  exact⟨by rw[r.o];rfl,O.o⟩
theorem zds(v:Value)(m:Mk)(w:World)(h:IsMk w v m):
  Calls prog 70 #[v] w fun e w'=>e=.returned (.tuple #[.string (encT m),.int .i64 (goodM m)])∧Below w.heap.size w w':=by
 by_cases hg:goodM m=0
 ·have A:encT m=fitT (zol m):=by rw[encT,if_pos hg]
  rw[A,hg];exact zmy v m w h hg
 ·exact zmx v m w h hg
theorem zlu(s:ByteArray)(w:World)(hn:s.size≤maxLen):
  Calls Tryz.prog 130 #[.string s,.string ⟨#[87,66,75,49]⟩] w fun e w'=>e=.returned (.bool (isMagic s))∧w=w':=by
 unfold maxLen at hn;go_enter Tryz.func130,Tryz.ntmps130;by_cases h4:4≤s.size
 ·have B:(4:Int)≤(s.size:Int):=by omega
  by_cases hm:((s.extract 0 4).toList==[87,66,75,49])=true
  ·have A:Hid (isMagic s=true):=by rw[Hid,isMagic,if_pos h4];exact hm
   go_wp2;go_ret;exact⟨by rw[A.o];rfl,rfl⟩
  ·have C:((s.extract 0 4).toList==[87,66,75,49])=false:=by simpa using hm
   have A:Hid (isMagic s=false):=by rw[Hid,isMagic,if_pos h4];exact C
   clear hm;go_wp2;go_ret;exact⟨by rw[A.o];rfl,rfl⟩
 ·have B:¬(4:Int)≤(s.size:Int):=by omega
  have A:Hid (isMagic s=false):=by rw[Hid,isMagic,if_neg h4]
  go_wp2;go_ret;exact⟨by rw[A.o];rfl,rfl⟩
def z31 (s:ByteArray):ByteArray:=if isMagic s then s.extract 4 s.size else s
theorem zeo{s:ByteArray}(h:isMagic s=true):4≤s.size:=by
 by_cases h4:4≤s.size
 ·exact h4
 ·rw[isMagic,if_neg h4]at h;cases h
theorem zjv(s:ByteArray)(b:Bool)(w:World)(hn:s.size≤maxLen):
  Calls Tryz.prog 191 #[.string s,.bool b] w fun e w'=>e=.returned (.string (zfa s b))∧w=w':=by
 unfold maxLen at hn;go_enter Tryz.func191,Tryz.ntmps191
 cases b with
 |false=>
  go_wp2;go_ret;exact⟨by simp[zfa],rfl⟩
 |true=>
  by_cases h4:s.size<4
  ·have A:(s.size:Int)<4:=by omega
   go_wp2;go_ret;exact⟨by simp[zfa,h4],rfl⟩
  ·have A:¬(s.size:Int)<4:=by omega
   go_wp2;go_ret;exact⟨by simp[zfa,h4],rfl⟩
open Go.Proofs.Tryz
theorem zoy(s:ByteArray)(w:World)(hn:s.size≤maxLen):
  Calls prog 218 #[.string s,.string ⟨#[87,66,75,49]⟩] w fun e w'=>e=.returned (.tuple #[.string (z31 s),.bool (isMagic s)])∧w=w':=by
 have C:=zaa hn;unfold maxLen at hn;go_enter func218,ntmps218;go_wp2_with fail;refine(zlu s _ C.o).mono ?_;rintro e w1 ⟨rfl,rfl⟩
 cases hm:isMagic s with
 |true=>
  have h4:=zeo hm;have B:=zaa hm;have A:Hid (z31 s=s.extract 4 s.size):=by rw[Hid,z31,if_pos hm]
  clear hm;go_wp2
  go_ret2
  exact⟨by rw[A.o,B.o];rfl,rfl⟩
 |false=>
  have B:=zaa hm;have A:Hid (z31 s=s):=by rw[Hid,z31,hm];rfl
  clear hm;go_wp2
  go_ret2
  exact⟨by rw[A.o,B.o];rfl,rfl⟩
theorem zzj(s:ByteArray)(w:World)(hn:s.size≤maxLen):
  Calls prog 216 #[.string s,.string ⟨#[87,66,75,49]⟩] w fun e w'=>e=.returned (.tuple #[.string (z31 s),.bool (isMagic s)])∧w=w':=by
 have A:=zaa hn;go_enter func216,ntmps216;go_wp2_with fail;refine(zoy s _ A.o).mono ?_;rintro e w1 ⟨rfl,rfl⟩;go_wp2
 go_ret2
 exact⟨rfl,rfl⟩
theorem zlz(s:ByteArray)(w:World)(hn:s.size≤maxLen):
  Calls prog 202 #[.string s] w fun e w'=>e=.returned (.tuple #[.string (escT s),.bool (isMagic s)])∧w=w':=by
 have D:=zaa hn;unfold maxLen at hn;go_enter func202,ntmps202;go_wp2_with fail;refine(zzj s _ D.o).mono ?_;rintro e w1 ⟨rfl,rfl⟩
 cases hm:isMagic s with
 |true=>
  have h4:=zeo hm;have B:=zaa hm;have C:Hid (z31 s=s.extract 4 s.size):=by rw[Hid,z31,if_pos hm]
  have A:Hid (escT s=(⟨#[0,0,0,0]⟩:ByteArray)++s.extract 4 s.size):=by rw[Hid,escT,if_pos hm]
  have hz:(s.extract 4 s.size).size≤s.size:=by rw[ByteArray.size_extract];omega
  clear hm;rw[C.o];go_wp2
  go_ret2
  exact⟨by rw[A.o,B.o];rfl,rfl⟩
 |false=>
  have B:=zaa hm;have A:Hid (escT s=s):=by rw[Hid,escT,hm];rfl
  clear hm;go_wp2
  go_ret2
  exact⟨by rw[A.o,B.o];rfl,rfl⟩
