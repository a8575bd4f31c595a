import Derived.Test.YtjnpndfpajjihadGreatSApp
import Derived.ArgAppend
import Derived.Lib.SlBytesConst
set_option maxRecDepth 100000
set_option maxHeartbeats 40000000
namespace Go.Proofs.YtjnpndfpajjihadGreat
open Go.Proofs.Tryz
open Go.RowKit
open Value renaming int -> H,slice -> M,string -> A,bool -> Y,tuple -> S
open IntKind renaming i64 -> G
open Option renaming none -> Z,some -> J
open Bool renaming false -> O,true -> I
open Go renaming World -> K,Value -> E
open Ending renaming returned -> N
open _root_.ByteArray renaming empty -> U
def CF:ByteArray:=⟨#[87,66,75,49]⟩
theorem XS{w:K}{d:Array Oper}{rest:List Oper}{o:Oper}{a:Act}{Q:Exit->Act->K->Prop}(k:o.guard=Z)(s x:Operand)
  (m:o.op=.call {callee:=.builtin .append,args:=#[s,x],argTypes:=#[117,117]})
  (b:Addr) (X:ByteArray) (n:a.eval s=M (J b) 4 4) (holds:∀j u,(cellsB CF)[j]?=J u->w.cell? (b.add j)=J u) (i:Addr) (p:a.eval x=M (J i) 1 1) (l:X.size=1)
  (R:∀j u,(cellsB X)[j]?=J u->w.cell? (i.add j)=J u)
  (h:∀c L,OwnB L w.heap.size c (CF++X)->w.grownBy L Z->wpList prog d Q rest (a.put o.dst c) L):wpList prog d Q (o::rest) a w:=by
 obtain⟨D,I,B,C,A⟩:=Gc bN;refine wpList_append_grows w k s x 117 m 5 D (H .u8 0) 1 1 underlying117 I B C A rfl (by decide) (J b) 4 4 (cellsB CF) n (λe=>by cases e) rfl (λb' e j u q=>by cases e;exact holds j u q) i 1 1 (cellsB X) p (by rw[IM,l]) R eP (by omega) (by decide) (by omega) ?_;intro c L F E;exact h c L (OwnB.more (by rw[l];rfl) F) E
def EH (q:Int):ByteArray:=JA (q/16777216).toNat++JA (q/65536%256).toNat++JA (q/256%256).toNat++JA (q%256).toNat
theorem fX(q:Int)(h0:0<=q)(h1:q<=2147483647):cellsB (EH q)=[H .u8 (q/16777216),H .u8 (q/65536%256),H .u8 (q/256%256),H .u8 (q%256)]:=by
 rw[EH,eH,eH,eH,vE _ (by omega),vE _ (by omega),vE _ (by omega),vE _ (by omega)];rw[Sf (by omega),Sf (by omega),Sf (by omega),Sf (by omega)];rfl
theorem QW(n:Nat)(q:Int):(CF++JA n)++EH q=YB n q:=by
 rw[EH,YB,pd,CF];simp only[ByteArray.append_assoc]
theorem wS(v:E)(m:Mk)(w:K)(h:IsMk w v m)(L:¬goodM m=0):
  Calls prog 28 #[v] w λe R=>e=N (S #[A (encT m),H G (goodM m)])/\Below w.heap.size w R:=by
 have D:=zA h;obtain⟨a,c,a',c',rfl,_,_,_,_⟩:=h;have C:Hid (encT m=U):=by rw[Hid,encT,Qb L]
 have A0:(goodM m !=0)=I:=by simpa using L
 clear L;go_enter func28,ntmps28;go_wp2_with fail;refine(qQ _ m _ (D.o.below (qA _ _))).mono ?_;rintro e w1 ⟨rfl,Q⟩;have B:=zA (vA (qA _ _) Q);clear Q;go_wp2
 go_ret2
 exact⟨by rw[C.o];rfl,B.o⟩
theorem WS(v:E)(m:Mk)(w:K)(h:IsMk w v m)(hg:goodM m=0):
  Calls prog 28 #[v] w λe w'=>e=N (S #[A (fitT (XC m)),H G 0])/\Below w.heap.size w w':=by
 have HI:=zA h;have HG:=zA hg;obtain⟨a,c,a',c',rfl,hT,hN,hn,B8⟩:=h;have HT:=zA hT;have HN:=zA hN;obtain⟨⟨k1,k2⟩,⟨q1,q2,p1,p2⟩,⟨f1,f2,f3⟩,I,hb,d,A3⟩:=EG hg;have HP:=zA (And.intro f1 (And.intro f2 (And.intro f3 (And.intro I (And.intro hb (And.intro d A3))))));clear hT hN hg f1 f2 f3 I hb d A3;go_enter func28,ntmps28;go_wp2_with fail;refine(qQ _ m _ (HI.o.below (qA _ _))).mono ?_;rintro e C0 ⟨rfl,s⟩;rw[HG.o];have X:w.heap.size<C0.heap.size:=by have:=s.size;simp at this;omega
 obtain⟨⟨x0,x1,x2,x3,x4⟩,_⟩:=LA (TG s);have A4:=zA (vA (qA _ _) s);clear s;obtain⟨kind,seq,pos,F,B⟩:=m;dsimp only at *;obtain⟨C1,rfl⟩:=Jd (show 0<=kind by omega);have B3:(C1:Int)<=255:=by omega
 have B7:(0:Int)<=(C1:Int):=by omega
 have kc:=fun(w:K) (C:Array E) (n c:Nat)=>Lib.run_convert_bytes_const (P:=prog) w 117 5 C n c underlying117 underlying5;go_wp2_with (at_builtin;refine XS rfl _ _ rfl ⟨C0.heap.size,0,Z⟩ (JA C1) rfl ?qc1 ⟨C0.heap.size+1,0,Z⟩ rfl rfl ?qc2 ?_)
 case qc1=>
  intro j u B9
  match j,B9 with
  |0,B9=>cases B9;simp[go_sem];exact af C0 _ _ _ _
  |1,B9=>cases B9;simp[go_sem];exact af C0 _ _ _ _
  |2,B9=>cases B9;simp[go_sem];exact af C0 _ _ _ _
  |3,B9=>cases B9;simp[go_sem];exact af C0 _ _ _ _
 case qc2=>
  intro j u B9;rw[vE _ (by omega)]at B9
  match j,B9 with
  |0,B9=>simp at B9;subst B9;simp[go_sem]
 intro v2 w2 q A7;have r:Below C0.heap.size C0 w2:=((qA _ _).alloc (by simp) _).grown A7 (by first|omega|(simp;omega)) (λk hk=>by cases hk);have A1:Hid (OwnB w2 C0.heap.size v2 (CF++JA C1)):=qB q (by first|omega|(simp;omega));clear q A7;have B0:C0.heap.size<=w2.heap.size:=r.size;have B6:w.heap.size<w2.heap.size:=by omega
 have y1:=xA r X x1;have A8:=zA r;clear r;have B1:0<=seq/16777216:=by omega
 have A2:seq/16777216<=255:=by omega
 go_wp2_with (at_builtin;refine jG rfl _ _ rfl C0.heap.size _ (CF++JA C1) (EH seq) rfl (A1.o.alloc _) ⟨w2.heap.size,0,Z⟩ 4 rfl rfl ?qc2 ?qc4 (by decide) ?qc6 ?_)
 case qc2=>
  intro j u B9;rw[fX seq (by omega) q2]at B9
  match j,B9 with
  |0,B9=>simp at B9;subst B9;simp[go_sem]
  |1,B9=>simp at B9;subst B9;simp[go_sem]
  |2,B9=>simp at B9;subst B9;simp[go_sem]
  |3,B9=>simp at B9;subst B9;simp[go_sem]
 case qc4=>show 5<=2000;decide
 case qc6=>first|omega|(simp;omega)
 intro v3 w3 C4 A6;have M:Below C0.heap.size C0 w3:=(A8.o.alloc B0 _).grown A6 (by first|omega|(simp;omega)) (λk hk=>(A1.o.lt k hk).1);rw[QW]at C4;have Q:=zA C4;clear C4 A6;have y:C0.heap.size<=w3.heap.size:=M.size;have B5:w.heap.size<w3.heap.size:=by omega
 have z0:=(A4.o.trans (M.mono (by omega)));have U:=zA z0;clear z0;have y0:=xA M X x0;have y2:=xA M X x2;have y3:=xA M X x3;have y4:=xA M X x4;clear y1 x0 x1 x2 x3 x4 A8 A1 B1 A2;have A9:=zA M;clear M;have B2:C1=1\/C1=2\/C1=3\/C1=4:=by omega
 have Y:(YB C1 seq).size=9:=rfl;obtain⟨hd,z⟩:∃hd,hd=YB C1 seq:=⟨_,rfl⟩;rw[<-z]at Q Y;have p:=zA z;clear z;rcases B2 with rfl|rfl|rfl|rfl
 .obtain⟨pn,rfl⟩:=Jd p1;have B4:(pn:Int)<=255:=by omega
  go_wp2_with (at_builtin;refine jG rfl _ _ rfl C0.heap.size _ hd (JA pn) rfl (Q.o.alloc _) ⟨w3.heap.size,0,Z⟩ 1 rfl rfl ?qc2 ?qc4 (by decide) ?qc6 ?_)
  case qc2=>
   intro j u B9;rw[vE _ (by omega)]at B9
   match j,B9 with
   |0,B9=>simp at B9;subst B9;simp[go_sem]
  case qc4=>omega
  case qc6=>first|omega|(simp;omega)
  intro v4 w4 D A5;have L:Below C0.heap.size C0 w4:=(A9.o.alloc y _).grown A5 (by first|omega|(simp;omega)) (λk hk=>(Q.o.lt k hk).1);have C2:(hd++JA pn).size=10:=by rw[Ge,Y];rfl
  have R:=iJ D (by omega);have C3:=zA (A4.o.trans (L.mono (by omega)));obtain⟨t,I⟩:∃t,t=hd++JA pn:=⟨_,rfl⟩;rw[<-I]at R C2;have i:=zA I;clear D A5 L I;go_wp2_with fail;refine(OF t _ (by rw[C2];decide)).mono ?_;rintro e w5 ⟨rfl,J⟩;have O:=zA (vA C3.o J);clear J;go_wp2
  go_ret2
  exact⟨by rw[i.o,p.o];rfl,O.o⟩
 .obtain⟨g1,g2,g3,I,_,d,_⟩:=HP.o;have HR:=zA d;have l:=(I rfl).2;obtain rfl:=g1 (by decide);have b:∀x∈F,0<=x.1/\x.1<=11:=λx hx=>gG _ _ HR.o (by omega) x.1 (Wc.2 ⟨x,hx,rfl⟩);have A0:=zA b;clear g1 g2 g3 I d b;go_wp2_with fail;refine(eZ C0.heap.size _ hd a c F _ w Q.o HT.o U.o (by omega) y (by omega) l A0.o).mono ?_;rintro e w4 ⟨v4,rfl,D,L⟩
  have C2:(RB (hd++JA F.length) F).size<=30/\0<(RB (hd++JA F.length) F).size:=by
   rw[qL,Ge,Y,show(JA F.length).size=1 from rfl];omega
  have R:=iJ D C2.2;have C3:=zA (U.o.trans (L.mono (by omega)));obtain⟨t,I⟩:∃t,t=RB (hd++JA F.length) F:=⟨_,rfl⟩;rw[<-I]at R C2;have i:=zA I;clear D L I;go_wp2_with fail;refine(OF t _ (by unfold maxLen;omega)).mono ?_;rintro e w5 ⟨rfl,J⟩;have O:=zA (vA C3.o J);clear J;go_wp2
  go_ret2
  exact⟨by rw[i.o,p.o];rfl,O.o⟩
 .obtain⟨g1,g2,g3,_,hb,_,d⟩:=HP.o;have HR:=zA d;have l:=(hb rfl).2;obtain rfl:=g1 (by decide);have b:∀x∈B,0<=x/\x<=11:=λx hx=>gG _ _ HR.o (by omega) x hx;have A0:=zA b;clear g1 g2 g3 hb d b;go_wp2_with fail;refine(GZ C0.heap.size _ hd a' c' B _ w Q.o HN.o U.o (by omega) y (by omega) l A0.o).mono ?_;rintro e w4 ⟨v4,rfl,D,L⟩
  have C2:(TB (hd++JA B.length) B).size<=30/\0<(TB (hd++JA B.length) B).size:=by
   rw[WL,Ge,Y,show(JA B.length).size=1 from rfl];omega
  have R:=iJ D C2.2;have C3:=zA (U.o.trans (L.mono (by omega)));obtain⟨t,I⟩:∃t,t=TB (hd++JA B.length) B:=⟨_,rfl⟩;rw[<-I]at R C2;have i:=zA I;clear D L I;go_wp2_with fail;refine(OF t _ (by unfold maxLen;omega)).mono ?_;rintro e w5 ⟨rfl,J⟩;have O:=zA (vA C3.o J);clear J;go_wp2
  go_ret2
  exact⟨by rw[i.o,p.o];rfl,O.o⟩
 .have R:=iJ Q.o (by omega);go_wp2_with fail;refine(OF hd _ (by rw[Y];decide)).mono ?_;rintro e w5 ⟨rfl,J⟩;have O:=zA (vA U.o J);clear J;go_wp2
  go_ret2
  exact⟨by rw[p.o];rfl,O.o⟩
theorem wI(v:E)(m:Mk)(w:K)(h:IsMk w v m):
  Calls prog 28 #[v] w λe B=>e=N (S #[A (encT m),H G (goodM m)])/\Below w.heap.size w B:=by
 by_cases hg:goodM m=0
 .have D:encT m=fitT (XC m):=by rw[encT,Rb hg]
  rw[D,hg];exact WS v m w h hg
 .exact wS v m w h hg
theorem ER(s:ByteArray)(w:K)(Q:s.size<=maxLen):
  Calls Tryz.prog 187 #[A s,A ⟨#[87,66,75,49]⟩] w λe L=>e=N (Y (isMagic s))/\w=L:=by
 unfold maxLen at Q;go_enter Tryz.func187,Tryz.ntmps187;by_cases h4:4<=s.size
 .have B:(4:Int)<=(s.size:Int):=by omega
  by_cases hm:((s.extract 0 4).toList==[87,66,75,49])=I
  .have D:Hid (isMagic s=I):=by rw[Hid,isMagic,Rb h4];exact hm
   go_wp2;go_ret;exact⟨by rw[D.o];rfl,rfl⟩
  .have C:((s.extract 0 4).toList==[87,66,75,49])=O:=by simpa using hm
   have D:Hid (isMagic s=O):=by rw[Hid,isMagic,Rb h4];exact C
   clear hm;go_wp2;go_ret;exact⟨by rw[D.o];rfl,rfl⟩
 .have B:¬(4:Int)<=(s.size:Int):=by omega
  have D:Hid (isMagic s=O):=by rw[Hid,isMagic,Qb h4]
  go_wp2;go_ret;exact⟨by rw[D.o];rfl,rfl⟩
def uF (s:ByteArray):ByteArray:=if isMagic s then s.extract 4 s.size else s
theorem AG{s:ByteArray}(h:isMagic s=I):4<=s.size:=by
 by_cases h4:4<=s.size
 .exact h4
 .rw[isMagic,Qb h4]at h;cases h
theorem cX(s:ByteArray)(b:Bool)(w:K)(D:s.size<=maxLen):
  Calls Tryz.prog 194 #[A s,Y b] w λe B=>e=N (A (aB s b))/\w=B:=by
 unfold maxLen at D;go_enter Tryz.func194,Tryz.ntmps194
 cases b with
 |false=>
  go_wp2;go_ret;exact⟨by simp[aB],rfl⟩
 |true=>
  by_cases h4:s.size<4
  .have L:(s.size:Int)<4:=by omega
   go_wp2;go_ret;exact⟨by simp[aB,h4],rfl⟩
  .have L:¬(s.size:Int)<4:=by omega
   go_wp2;go_ret;exact⟨by simp[aB,h4],rfl⟩
open Go.Proofs.Tryz
theorem mV(s:ByteArray)(w:K)(L:s.size<=maxLen):
  Calls prog 241 #[A s,A ⟨#[87,66,75,49]⟩] w λe Q=>e=N (S #[A (uF s),Y (isMagic s)])/\w=Q:=by
 have C:=zA L;unfold maxLen at L;go_enter func241,ntmps241;go_wp2_with fail;refine(ER s _ C.o).mono ?_;rintro e w1 ⟨rfl,rfl⟩
 cases hm:isMagic s with
 |true=>
  have h4:=AG hm;have D:=zA hm;have B:Hid (uF s=s.extract 4 s.size):=by rw[Hid,uF,Rb hm]
  clear hm;go_wp2
  go_ret2
  exact⟨by rw[B.o,D.o];rfl,rfl⟩
 |false=>
  have D:=zA hm;have B:Hid (uF s=s):=by rw[Hid,uF,hm];rfl
  clear hm;go_wp2
  go_ret2
  exact⟨by rw[B.o,D.o];rfl,rfl⟩
theorem kX(s:ByteArray)(w:K)(D:s.size<=maxLen):
  Calls prog 229 #[A s,A ⟨#[87,66,75,49]⟩] w λe B=>e=N (S #[A (uF s),Y (isMagic s)])/\w=B:=by
 have L:=zA D;go_enter func229,ntmps229;go_wp2_with fail;refine(mV s _ L.o).mono ?_;rintro e w1 ⟨rfl,rfl⟩;go_wp2
 go_ret2
 exact⟨rfl,rfl⟩
theorem Bb(s:ByteArray)(w:K)(Q:s.size<=maxLen):
  Calls prog 213 #[A s] w λe R=>e=N (S #[A (escT s),Y (isMagic s)])/\w=R:=by
 have C:=zA Q;unfold maxLen at Q;go_enter func213,ntmps213;go_wp2_with fail;refine(kX s _ C.o).mono ?_;rintro e w1 ⟨rfl,rfl⟩
 cases hm:isMagic s with
 |true=>
  have h4:=AG hm;have L:=zA hm;have D:Hid (uF s=s.extract 4 s.size):=by rw[Hid,uF,Rb hm]
  have B:Hid (escT s=(⟨#[0,0,0,0]⟩:ByteArray)++s.extract 4 s.size):=by rw[Hid,escT,Rb hm]
  have hz:(s.extract 4 s.size).size<=s.size:=by rw[Tf];omega
  clear hm;rw[D.o];go_wp2
  go_ret2
  exact⟨by rw[B.o,L.o];rfl,rfl⟩
 |false=>
  have L:=zA hm;have B:Hid (escT s=s):=by rw[Hid,escT,hm];rfl
  clear hm;go_wp2
  go_ret2
  exact⟨by rw[B.o,L.o];rfl,rfl⟩
