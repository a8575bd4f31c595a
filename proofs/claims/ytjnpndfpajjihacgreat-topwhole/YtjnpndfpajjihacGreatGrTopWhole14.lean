/-
  
-/
import Derived.Test.YtjnpndfpajjihacGreatSApp
import Derived.ArgAppend
import Derived.Lib.SlBytesConst
set_option maxRecDepth 100000
set_option maxHeartbeats 40000000
namespace Go.Proofs.YtjnpndfpajjihacGreat
open Tryz
open Go.RowKit
def zlj:ByteArray:=⟨#[87,66,75,49]⟩
theorem zp3 {w:World}{ops:Array Oper}{rest:List Oper}{o:Oper}{a:Act}{Q:Exit→Act→World→Prop}(hgd:o.guard=none)(s x:Operand)
  (ho:o.op=.call {callee:=.builtin .append,args:=#[s,x],argTypes:=#[139,139]})
  (b:Addr) (nw:ByteArray) (hs:a.eval s=.slice (some b) 4 4) (holds:∀j u,(cellsB zlj)[j]?=some u→w.cell? (b.add j)=some u) (ad:Addr) (hx:a.eval x=.slice (some ad) 1 1) (hm:nw.size=1)
  (hnews:∀j u,(cellsB nw)[j]?=some u→w.cell? (ad.add j)=some u)
  (h:∀v' w',OwnB w' w.heap.size v' (zlj++nw)→w.grownBy w' none→wpList prog ops Q rest (a.put o.dst v') w'):wpList prog ops Q (o::rest) a w:=by
 obtain⟨F,I,B,C,A⟩:=info_parts z5c;refine wpList_append_grows w hgd s x 139 ho 5 F (.int .u8 0) 1 1 underlying139 I B C A rfl (by decide) (some b) 4 4 (cellsB zlj) hs (fun e=>by cases e) rfl (fun b' e j u hj=>by cases e;exact holds j u hj) ad 1 1 (cellsB nw) hx (by rw[ziu,hm]) hnews zj3 (by omega) (by decide) (by omega) ?_;intro v' w' E D;exact h v' w' (OwnB.more (by rw[hm];rfl) E) D
def zyi (q:Int):ByteArray:=zef (q/16777216).toNat++zef (q/65536%256).toNat++zef (q/256%256).toNat++zef (q%256).toNat
theorem zvx (q:Int)(h0:0≤q)(h1:q≤2147483647):cellsB (zyi q)=[.int .u8 (q/16777216),.int .u8 (q/65536%256),.int .u8 (q/256%256),.int .u8 (q%256)]:=by
 rw[zyi,zdr,zdr,zdr,zcr _ (by omega),zcr _ (by omega),zcr _ (by omega),zcr _ (by omega)];rw[Int.toNat_of_nonneg (by omega),Int.toNat_of_nonneg (by omega),Int.toNat_of_nonneg (by omega),Int.toNat_of_nonneg (by omega)];rfl
theorem z35 (n:Nat)(q:Int):(zlj++zef n)++zyi q=zmo n q:=by
 rw[zyi,zmo,Int.toNat_natCast,zlj];simp only[ByteArray.append_assoc]
theorem zmp (v:Value)(m:Mk)(w:World)(h:IsMk w v m)(hno:¬goodM m=0):
  Calls prog 70 #[v] w fun e w'=>e=.returned (.tuple #[.string (encT m),.int .i64 (goodM m)])∧Below w.heap.size w w':=by
 have B:=zab h;obtain⟨a,c,a',c',rfl,_,_,_,_⟩:=h;have D:Hid (encT m=ByteArray.empty):=by rw[Hid,encT,if_neg hno]
 have A0:(goodM m !=0)=true:=by simpa using hno
 clear hno;go_enter func70,ntmps70;go_wp2_with fail;refine(ziq _ m _ (B.o.below (zaa _ _))).mono ?_;rintro e w1 ⟨rfl,A⟩;have C:=zab (zae (zaa _ _) A);clear A;go_wp2
 go_ret2
 exact⟨by rw[D.o];rfl,C.o⟩
theorem zmq (v:Value)(m:Mk)(w:World)(h:IsMk w v m)(hg:goodM m=0):
  Calls prog 70 #[v] w fun e w'=>e=.returned (.tuple #[.string (fitT (zoe m)),.int .i64 0])∧Below w.heap.size w w':=by
 have HI:=zab h;have HG:=zab hg;obtain⟨a,c,a',c',rfl,hT,hN,hn,B8⟩:=h;have HT:=zab hT;have HN:=zab hN;obtain⟨⟨k1,k2⟩,⟨q1,q2,p1,p2⟩,⟨f1,f2,f3⟩,I,hb,U,A8⟩:=zf8 hg;have HP:=zab (And.intro f1 (And.intro f2 (And.intro f3 (And.intro I (And.intro hb (And.intro U A8))))));clear hT hN hg f1 f2 f3 I hb U A8;go_enter func70,ntmps70;go_wp2_with fail;refine(ziq _ m _ (HI.o.below (zaa _ _))).mono ?_;rintro e E ⟨rfl,q⟩;rw[HG.o];have d:w.heap.size<E.heap.size:=by have:=q.size;simp at this;omega
 obtain⟨⟨x0,x1,x2,x3,x4⟩,_⟩:=zhy (z30 q);have A5:=zab (zae (zaa _ _) q);clear q;obtain⟨kind,seq,pos,F,B⟩:=m;dsimp only at *;obtain⟨O,rfl⟩:=Int.eq_ofNat_of_zero_le (show 0≤kind by omega);have B5:(O:Int)≤255:=by omega
 have B9:(0:Int)≤(O:Int):=by omega
 have kc:=fun(w:World) (C:Array Value) (n c:Nat)=>Lib.run_convert_bytes_const (P:=prog) w 139 5 C n c underlying139 underlying5;go_wp2_with (at_builtin;refine zp3 rfl _ _ rfl ⟨E.heap.size,0,none⟩ (zef O) rfl ?qc1 ⟨E.heap.size+1,0,none⟩ rfl rfl ?qc2 ?_)
 case qc1=>
  intro j u A
  match j,A with
  |0,A=>cases A;simp[go_sem];exact World.cell?_alloc_mark E _ _ _ _
  |1,A=>cases A;simp[go_sem];exact World.cell?_alloc_mark E _ _ _ _
  |2,A=>cases A;simp[go_sem];exact World.cell?_alloc_mark E _ _ _ _
  |3,A=>cases A;simp[go_sem];exact World.cell?_alloc_mark E _ _ _ _
 case qc2=>
  intro j u A;rw[zcr _ (by omega)] at A
  match j,A with
  |0,A=>simp at A;subst A;simp[go_sem]
 intro v2 w2 p A7;have s:Below E.heap.size E w2:=((zaa _ _).alloc (by simp) _).grown A7 (by first|omega|(simp;omega)) (fun k hk=>by cases hk);have z:Hid (OwnB w2 E.heap.size v2 (zlj++zef O)):=za9 p (by first|omega|(simp;omega));clear p A7;have B3:E.heap.size≤w2.heap.size:=s.size;have B6:w.heap.size<w2.heap.size:=by omega
 have y1:=zac s d x1;have A4:=zab s;clear s;have B1:0≤seq/16777216:=by omega
 have A3:seq/16777216≤255:=by omega
 go_wp2_with (at_builtin;refine zd4 rfl _ _ rfl E.heap.size _ (zlj++zef O) (zyi seq) rfl (z.o.alloc _) ⟨w2.heap.size,0,none⟩ 4 rfl rfl ?qc2 ?qc4 (by decide) ?qc6 ?_)
 case qc2=>
  intro j u A;rw[zvx seq (by omega) q2] at A
  match j,A with
  |0,A=>simp at A;subst A;simp[go_sem]
  |1,A=>simp at A;subst A;simp[go_sem]
  |2,A=>simp at A;subst A;simp[go_sem]
  |3,A=>simp at A;subst A;simp[go_sem]
 case qc4=>show 5≤2000;decide
 case qc6=>first|omega|(simp;omega)
 intro v3 w3 S A9;have M:Below E.heap.size E w3:=(A4.o.alloc B3 _).grown A9 (by first|omega|(simp;omega)) (fun k hk=>(z.o.lt k hk).1);rw[z35] at S;have R:=zab S;clear S A9;have A0:E.heap.size≤w3.heap.size:=M.size;have B7:w.heap.size<w3.heap.size:=by omega
 have z0:=(A5.o.trans (M.mono (by omega)));have X:=zab z0;clear z0;have y0:=zac M d x0;have y2:=zac M d x2;have y3:=zac M d x3;have y4:=zac M d x4;clear y1 x0 x1 x2 x3 x4 A4 z B1 A3;have B0:=zab M;clear M;have B2:O=1∨O=2∨O=3∨O=4:=by omega
 have i:(zmo O seq).size=9:=rfl;obtain⟨hd,A2⟩:∃hd,hd=zmo O seq:=⟨_,rfl⟩;rw[←A2] at R i;have r:=zab A2;clear A2;rcases B2 with rfl|rfl|rfl|rfl
 ·obtain⟨pn,rfl⟩:=Int.eq_ofNat_of_zero_le p1;have B4:(pn:Int)≤255:=by omega
  go_wp2_with (at_builtin;refine zd4 rfl _ _ rfl E.heap.size _ hd (zef pn) rfl (R.o.alloc _) ⟨w3.heap.size,0,none⟩ 1 rfl rfl ?qc2 ?qc4 (by decide) ?qc6 ?_)
  case qc2=>
   intro j u A;rw[zcr _ (by omega)] at A
   match j,A with
   |0,A=>simp at A;subst A;simp[go_sem]
  case qc4=>omega
  case qc6=>first|omega|(simp;omega)
  intro v4 w4 D A6;have K:Below E.heap.size E w4:=(B0.o.alloc A0 _).grown A6 (by first|omega|(simp;omega)) (fun k hk=>(R.o.lt k hk).1);have L:(hd++zef pn).size=10:=by rw[ByteArray.size_append,i];rfl
  have Q:=zkw D (by omega);have Z:=zab (A5.o.trans (K.mono (by omega)));obtain⟨t,I⟩:∃t,t=hd++zef pn:=⟨_,rfl⟩;rw[←I] at Q L;have b:=zab I;clear D A6 K I;go_wp2_with fail;refine(zf6 t _ (by rw[L];decide)).mono ?_;rintro e w5 ⟨rfl,J⟩;have N:=zab (zae Z.o J);clear J;go_wp2
  go_ret2
  exact⟨by rw[b.o,r.o];rfl,N.o⟩
 ·obtain⟨y,g2,g3,I,_,U,_⟩:=HP.o;have HR:=zab U;have l:=(I rfl).2;obtain rfl:=y (by decide);have Y:∀x∈F,0≤x.1∧x.1≤11:=fun x hx=>zkv _ _ HR.o (by omega) x.1 (List.mem_map.2 ⟨x,hx,rfl⟩);have A1:=zab Y;clear y g2 g3 I U Y;go_wp2_with fail;refine(zsg E.heap.size _ hd a c F _ w R.o HT.o X.o (by omega) A0 (by omega) l A1.o).mono ?_;rintro e w4 ⟨v4,rfl,D,K⟩
  have L:(zgo (hd++zef F.length) F).size≤30∧0<(zgo (hd++zef F.length) F).size:=by
   rw[znb,ByteArray.size_append,i,show(zef F.length).size=1 from rfl];omega
  have Q:=zkw D L.2;have Z:=zab (X.o.trans (K.mono (by omega)));obtain⟨t,I⟩:∃t,t=zgo (hd++zef F.length) F:=⟨_,rfl⟩;rw[←I] at Q L;have b:=zab I;clear D K I;go_wp2_with fail;refine(zf6 t _ (by unfold maxLen;omega)).mono ?_;rintro e w5 ⟨rfl,J⟩;have N:=zab (zae Z.o J);clear J;go_wp2
  go_ret2
  exact⟨by rw[b.o,r.o];rfl,N.o⟩
 ·obtain⟨y,g2,g3,_,hb,_,U⟩:=HP.o;have HR:=zab U;have l:=(hb rfl).2;obtain rfl:=y (by decide);have Y:∀x∈B,0≤x∧x≤11:=fun x hx=>zkv _ _ HR.o (by omega) x hx;have A1:=zab Y;clear y g2 g3 hb U Y;go_wp2_with fail;refine(zof E.heap.size _ hd a' c' B _ w R.o HN.o X.o (by omega) A0 (by omega) l A1.o).mono ?_;rintro e w4 ⟨v4,rfl,D,K⟩
  have L:(zgp (hd++zef B.length) B).size≤30∧0<(zgp (hd++zef B.length) B).size:=by
   rw[znc,ByteArray.size_append,i,show(zef B.length).size=1 from rfl];omega
  have Q:=zkw D L.2;have Z:=zab (X.o.trans (K.mono (by omega)));obtain⟨t,I⟩:∃t,t=zgp (hd++zef B.length) B:=⟨_,rfl⟩;rw[←I] at Q L;have b:=zab I;clear D K I;go_wp2_with fail;refine(zf6 t _ (by unfold maxLen;omega)).mono ?_;rintro e w5 ⟨rfl,J⟩;have N:=zab (zae Z.o J);clear J;go_wp2
  go_ret2
  exact⟨by rw[b.o,r.o];rfl,N.o⟩
 ·have Q:=zkw R.o (by omega);go_wp2_with fail;refine(zf6 hd _ (by rw[i];decide)).mono ?_;rintro e w5 ⟨rfl,J⟩;have N:=zab (zae X.o J);clear J;go_wp2
  go_ret2
  exact⟨by rw[r.o];rfl,N.o⟩
theorem zds (v:Value)(m:Mk)(w:World)(h:IsMk w v m):
  Calls prog 70 #[v] w fun e w'=>e=.returned (.tuple #[.string (encT m),.int .i64 (goodM m)])∧Below w.heap.size w w':=by
 by_cases hg:goodM m=0
 ·have A:encT m=fitT (zoe m):=by rw[encT,if_pos hg]
  rw[A,hg];exact zmq v m w h hg
 ·exact zmp v m w h hg
end Go.Proofs.YtjnpndfpajjihacGreat


namespace Go.Proofs.YtjnpndfpajjihacGreat
open Go.RowKit
theorem zll (s:ByteArray)(w:World)(hn:s.size≤maxLen):
  Calls Tryz.prog 130 #[.string s,.string ⟨#[87,66,75,49]⟩] w fun e w'=>e=.returned (.bool (isMagic s))∧w=w':=by
 unfold maxLen at hn;go_enter Tryz.func130,Tryz.ntmps130;by_cases h4:4≤s.size
 ·have B:(4:Int)≤(s.size:Int):=by omega
  by_cases hm:((s.extract 0 4).toList==[87,66,75,49])=true
  ·have A:Hid (isMagic s=true):=by rw[Hid,isMagic,if_pos h4];exact hm
   go_wp2;go_ret;exact⟨by rw[A.o];rfl,rfl⟩
  ·have C:((s.extract 0 4).toList==[87,66,75,49])=false:=by simpa using hm
   have A:Hid (isMagic s=false):=by rw[Hid,isMagic,if_pos h4];exact C
   clear hm;go_wp2;go_ret;exact⟨by rw[A.o];rfl,rfl⟩
 ·have B:¬(4:Int)≤(s.size:Int):=by omega
  have A:Hid (isMagic s=false):=by rw[Hid,isMagic,if_neg h4]
  go_wp2;go_ret;exact⟨by rw[A.o];rfl,rfl⟩
def z3r (s:ByteArray):ByteArray:=if isMagic s then s.extract 4 s.size else s
theorem zel {s:ByteArray}(h:isMagic s=true):4≤s.size:=by
 by_cases h4:4≤s.size
 ·exact h4
 ·rw[isMagic,if_neg h4] at h;cases h
theorem zjo (s:ByteArray)(b:Bool)(w:World)(hn:s.size≤maxLen):
  Calls Tryz.prog 191 #[.string s,.bool b] w fun e w'=>e=.returned (.string (ze7 s b))∧w=w':=by
 unfold maxLen at hn;go_enter Tryz.func191,Tryz.ntmps191
 cases b with
 |false=>
  go_wp2;go_ret;exact⟨by simp[ze7],rfl⟩
 |true=>
  by_cases h4:s.size<4
  ·have A:(s.size:Int)<4:=by omega
   go_wp2;go_ret;exact⟨by simp[ze7,h4],rfl⟩
  ·have A:¬(s.size:Int)<4:=by omega
   go_wp2;go_ret;exact⟨by simp[ze7,h4],rfl⟩
end Go.Proofs.YtjnpndfpajjihacGreat


namespace Go.Proofs.YtjnpndfpajjihacGreat
open Tryz
open Go.RowKit
theorem zor (s:ByteArray)(w:World)(hn:s.size≤maxLen):
  Calls prog 218 #[.string s,.string ⟨#[87,66,75,49]⟩] w fun e w'=>e=.returned (.tuple #[.string (z3r s),.bool (isMagic s)])∧w=w':=by
 have C:=zab hn;unfold maxLen at hn;go_enter func218,ntmps218;go_wp2_with fail;refine(zll s _ C.o).mono ?_;rintro e w1 ⟨rfl,rfl⟩
 cases hm:isMagic s with
 |true=>
  have h4:=zel hm;have A:=zab hm;have B:Hid (z3r s=s.extract 4 s.size):=by rw[Hid,z3r,if_pos hm]
  clear hm;go_wp2
  go_ret2
  exact⟨by rw[B.o,A.o];rfl,rfl⟩
 |false=>
  have A:=zab hm;have B:Hid (z3r s=s):=by rw[Hid,z3r,hm];rfl
  clear hm;go_wp2
  go_ret2
  exact⟨by rw[B.o,A.o];rfl,rfl⟩
theorem zze (s:ByteArray)(w:World)(hn:s.size≤maxLen):
  Calls prog 216 #[.string s,.string ⟨#[87,66,75,49]⟩] w fun e w'=>e=.returned (.tuple #[.string (z3r s),.bool (isMagic s)])∧w=w':=by
 have A:=zab hn;go_enter func216,ntmps216;go_wp2_with fail;refine(zor s _ A.o).mono ?_;rintro e w1 ⟨rfl,rfl⟩;go_wp2
 go_ret2
 exact⟨rfl,rfl⟩
theorem zlq (s:ByteArray)(w:World)(hn:s.size≤maxLen):
  Calls prog 202 #[.string s] w fun e w'=>e=.returned (.tuple #[.string (escT s),.bool (isMagic s)])∧w=w':=by
 have C:=zab hn;unfold maxLen at hn;go_enter func202,ntmps202;go_wp2_with fail;refine(zze s _ C.o).mono ?_;rintro e w1 ⟨rfl,rfl⟩
 cases hm:isMagic s with
 |true=>
  have h4:=zel hm;have A:=zab hm;have D:Hid (z3r s=s.extract 4 s.size):=by rw[Hid,z3r,if_pos hm]
  have B:Hid (escT s=(⟨#[0,0,0,0]⟩:ByteArray)++s.extract 4 s.size):=by rw[Hid,escT,if_pos hm]
  have hz:(s.extract 4 s.size).size≤s.size:=by rw[ByteArray.size_extract];omega
  clear hm;rw[D.o];go_wp2
  go_ret2
  exact⟨by rw[B.o,A.o];rfl,rfl⟩
 |false=>
  have A:=zab hm;have B:Hid (escT s=s):=by rw[Hid,escT,hm];rfl
  clear hm;go_wp2
  go_ret2
  exact⟨by rw[B.o,A.o];rfl,rfl⟩
end Go.Proofs.YtjnpndfpajjihacGreat

