import Derived.Test.YtjnpndfpajjihadGreatSGood
import Derived.Test.YtjnpndfpajjihadGreatGrJournalRuns7
namespace Go.Proofs.YtjnpndfpajjihadGreat
open Go.Proofs.Tryz
set_option maxRecDepth 100000
set_option maxHeartbeats 40000000
open Go.RowKit
open Value renaming int -> H,slice -> M,string -> A
open IntKind renaming i64 -> G
open Option renaming none -> Z,some -> J
open Bool renaming false -> O,true -> I
open Go renaming World -> K,Value -> E
open Ending renaming returned -> N
variable{base:Nat}{s:ByteArray}{v:Value}{w:World}
def cellsB (s:ByteArray):List E:=s.data.toList.map qF
theorem IM(s:ByteArray):(cellsB s).length=s.size*1:=by
 have:s.data.toList.length=s.size:=rfl;simp[cellsB]
theorem eH(s t:ByteArray):cellsB (s++t)=cellsB s++cellsB t:=by simp[cellsB,ByteArray.data_append]
theorem vE(n:Nat)(h:n<256):cellsB (JA n)=[H .u8 (n:Int)]:=by
 have:(UInt8.ofNat n).toNat=n:=by simp;omega
 simp[cellsB,JA,qF];omega
theorem eP:∀u∈cellsB s,u.oneCell'=I:=by
 intro u A;obtain⟨b,_,rfl⟩:=Wc.1 A;rfl
theorem bN:(prog.info? 5).map (λi=>(i.zero,i.size,i.bytes))=J (J (H .u8 0),1,1):=by kernel_rfl
def OwnB (w:K)(base:Nat)(v:E)(s:ByteArray):Prop:=w.ownsRow base 5 1 v s.size (cellsB s)
theorem OwnB.more{t:ByteArray}{n:Nat}(B:n=s.size+t.size)(h:w.ownsRow base 5 1 v n (cellsB s++cellsB t)):OwnB w base v (s++t):=by
 rw[OwnB,Ge,eH,<-B];exact h
theorem iJ(h:OwnB w base v s)(h0:0<s.size):(convert 117 9 v).run prog w=.ok (A s) w:=by
 rcases h.2 with⟨_,h1⟩|⟨g,cap,A1,rfl,hb,hg,rest⟩
 .omega
 .refine(run_convert_bytes_back (P:=prog) w 117 9 5 ⟨g,0,Z⟩ cap s.data.toList underlying117 underlying5 underlying9 (λj B=>?_));have A0:j<s.size:=B;rw[qd,Dc,Kg h j (by omega),cellsB,Ld,Ic B];rfl
theorem jG{d:Array Oper}{rest:List Oper}{o:Oper}{a:Act}{Q:Exit->Act->K->Prop}(k:o.guard=Z)(s x:Operand)
  (n:o.op=.call {callee:=.builtin .append,args:=#[s,x],argTypes:=#[117,117]})
  (base:Nat) (v:E) (t c:ByteArray) (p:a.eval s=v) (e:OwnB w base v t) (i:Addr) (m:Nat) (q:a.eval x=M (J i) m m) (l:c.size=m)
  (b:∀j u,(cellsB c)[j]?=J u->w.cell? (i.add j)=J u) (A1:t.size<=2000) (A0:m<=100) (X:base<=w.heap.size)
  (h:∀R L,OwnB L base R (t++c)->w.grownBy L v.ownBlock->wpList prog d Q rest (a.put o.dst R) L):wpList prog d Q (o::rest) a w:=by
 obtain⟨D,I,B,C,A⟩:=Gc bN;refine wd w k s x 117 n base 5 D (H .u8 0) 1 1 underlying117 I B C A rfl (by decide) v t.size (cellsB t) p e i m m (cellsB c) q (by rw[IM,l]) b eP (by unfold maxLen;omega) (by omega) X ?_;intro R L F r _;exact h R L (OwnB.more (by rw[l]) F) r
theorem GZ(base:Nat)(v:E)(s:ByteArray)(a:Option Addr)(c:Nat)(l:List Int)(w w0:K)(A7:OwnB w base v s)(hl:SegI w0 a l)(A9:Below w0.heap.size w0 w)(h0:w0.heap.size<=base)(A8:base<=w.heap.size)
  (hs:s.size<=1000) (B7:l.length<=20) (B0:∀x∈l,0<=x/\x<=11):
  Calls prog 70 #[v,M a l.length c] w λe w'=>∃v2,e=N v2/\OwnB w' base v2 (TB (s++JA l.length) l)/\Below base w w':=by
 have B2:=zA A7;have HL:=zA hl;have R:=zA B0;have U:=zA A9;have A2:(l.length:Int)<=255:=by omega
 have A0:(0:Int)<=(l.length:Int):=by omega
 clear A7 hl B0 A9;go_enter func70,ntmps70;go_wp2_with (at_builtin;refine jG rfl _ _ rfl base v s (JA l.length) rfl (B2.o.alloc _) ⟨w.heap.size,0,Z⟩ 1 rfl rfl ?qc2 ?qc4 (by decide) ?qc6 ?_)
 case qc2=>
  intro j u A;rw[vE _ (by omega)]at A
  match j,A with
  |0,A=>simp at A;subst A;simp[go_sem]
 case qc4=>omega
 case qc6=>first|omega|(simp;omega)
 intro v1 z D L;have n:Below base w z:=((Ub _ _).alloc A8 _).grown L (by simp;omega) (λk B1=>(B2.o.lt k B1).1);have B3:=zA D;clear D L;obtain⟨F,C⟩:∃F,F=s++JA l.length:=⟨_,rfl⟩;have Y:F.size<=1001:=by rw[C,Ge];show s.size+1<=1001;omega
 have HZ:=zA Y;rw[<-C]at B3;have d:=zA C;clear Y C;go_wp2
 go_loopw [0,15] (λv i wr=>∃k:Nat,k<=l.length/\i=H G k/\Hid (OwnB wr base v (TB F (l.take k)))/\Below base w wr) (λ_ i _=>l.length - (intOf i).toNat)
 case atStart=>exact⟨0,Vb _,rfl,B3,n⟩
 case round=>
  obtain⟨k,B1,rfl,A7,B⟩:=hrel;have S:base<=wr.heap.size:=by have:=B.size;omega
  obtain⟨t,I⟩:∃t,t=TB F (l.take k):=⟨_,rfl⟩;have A3:t.size<=1021:=by rw[I,WL,Nc];have:=HZ.o;omega
  rw[<-I]at A7;have B5:=zA I;clear I;by_cases hlt:k<l.length
  .obtain⟨b,A5,rfl,hb,q⟩:=HL.o.resolve_left (by intro e;rw[e]at hlt;simp at hlt);obtain⟨x,Q⟩:∃x,x=l.getD k 0:=⟨_,rfl⟩;have p:=xA (U.o.trans (B.mono h0)) hb (q k hlt);rw[<-Q]at p;have r:Hid (l[k]?=J x):=by rw[Q];exact YA _ _ _ hlt
   have X:=R.o x (Yc r.o);have HN:Hid (TB F (l.take (k+1))=t++JA x.toNat):=by rw[Hid,B5.o,Oc,r.o];exact LP _ _ _
   have A1:(k:Int)<(l.length:Int):=by omega
   clear Q q;obtain⟨O,rfl⟩:=Jd X.1;have A4:(O:Int)<=255:=by omega
   have A6:(0:Int)<=(O:Int):=by omega
   go_wp2_with (at_builtin;refine jG rfl _ _ rfl base _ t (JA O) rfl (A7.o.alloc _) ⟨wr.heap.size,0,Z⟩ 1 rfl rfl ?qc2 ?qc4 (by decide) ?qc6 ?_)
   case qc2=>
    intro j u A;rw[vE _ (by omega)]at A
    match j,A with
    |0,A=>simp at A;subst A;simp[go_sem]
   case qc4=>omega
   case qc6=>first|omega|(simp;omega)
   intro v4 y B6 B4;have m:Below base w y:=(B.alloc S _).grown B4 (by simp;omega) (λk B1=>(A7.o.lt k B1).1);have h:=zA B6;clear B6 B4 A7 B;go_wp2
   go_roundw
   case rel=>exact⟨k+1,by omega,by go_num,by rw[HN.o,pd];exact h,m⟩
   case measure=>simp[intOf];omega
  .have e:l.take k=l:=zd (by omega);have HF:Hid (TB (s++JA l.length) l=t):=by rw[Hid,B5.o,e,d.o]
   clear e;go_wp2;go_ret;exact⟨_,rfl,by rw[HF.o];exact A7.o,B⟩
theorem iZ(n:Nat)(h:n<256)(f:Bool):cellsB (JA n++(if f then(⟨#[1]⟩:ByteArray) else⟨#[0]⟩))=[H .u8 (n:Int),H .u8 (if f then 1 else 0)]:=by
 rw[eH,vE n h];cases f<;>rfl
theorem eZ(base:Nat)(v:E)(s:ByteArray)(a:Option Addr)(c:Nat)(l:List (Int×Bool))(w w0:K)(B0:OwnB w base v s)(hl:SegT w0 a l)(B4:Below w0.heap.size w0 w)(h0:w0.heap.size<=base)(B1:base<=w.heap.size)
  (hs:s.size<=1000) (C1:l.length<=10) (B5:∀x∈l,0<=x.1/\x.1<=11):
  Calls prog 69 #[v,M a l.length c] w λe w'=>∃v2,e=N v2/\OwnB w' base v2 (RB (s++JA l.length) l)/\Below base w w':=by
 have r:=zA B0;have HL:=zA hl;have m:=zA B5;have Q:=zA B4;have A5:(l.length:Int)<=255:=by omega
 have A3:(0:Int)<=(l.length:Int):=by omega
 clear B0 hl B5 B4;go_enter func69,ntmps69;go_wp2_with (at_builtin;refine jG rfl _ _ rfl base v s (JA l.length) rfl (r.o.alloc _) ⟨w.heap.size,0,Z⟩ 1 rfl rfl ?qc2 ?qc4 (by decide) ?qc6 ?_)
 case qc2=>
  intro j u A;rw[vE _ (by omega)]at A
  match j,A with
  |0,A=>simp at A;subst A;simp[go_sem]
 case qc4=>omega
 case qc6=>first|omega|(simp;omega)
 intro v1 w1 D S;have A1:Below base w w1:=((Ub _ _).alloc B1 _).grown S (by simp;omega) (λk B7=>(r.o.lt k B7).1);have U:=zA D;clear D S;obtain⟨I,C⟩:∃I,I=s++JA l.length:=⟨_,rfl⟩;have q:I.size<=1001:=by rw[C,Ge];show s.size+1<=1001;omega
 have HZ:=zA q;rw[<-C]at U;have y:=zA C;clear q C;go_wp2
 go_loopw [0,16] (λv i wr=>∃k:Nat,k<=l.length/\i=H G k/\Hid (OwnB wr base v (RB I (l.take k)))/\Below base w wr) (λ_ i _=>l.length - (intOf i).toNat)
 case atStart=>exact⟨0,Vb _,rfl,U,A1⟩
 case round=>
  obtain⟨k,B7,rfl,B0,B⟩:=hrel;have n:base<=wr.heap.size:=by have:=B.size;omega
  obtain⟨t,B6⟩:∃t,t=RB I (l.take k):=⟨_,rfl⟩;have A6:t.size<=1021:=by rw[B6,qL,Nc];have:=HZ.o;omega
  rw[<-B6]at B0;have X:=zA B6;clear B6;by_cases hlt:k<l.length
  .obtain⟨b,A8,rfl,hb,h⟩:=HL.o.resolve_left (by intro e;rw[e]at hlt;simp at hlt);obtain⟨x,d⟩:∃x,x=l.getD k (0,O):=⟨_,rfl⟩;have Y:=xA (Q.o.trans (B.mono h0)) hb (h k hlt).1;have L:=xA (Q.o.trans (B.mono h0)) hb (h k hlt).2;rw[<-d]at Y L;have HX:Hid (l[k]?=J x):=by rw[d];exact YA _ _ _ hlt
   have R:=m.o x (Yc HX.o);have B9:Hid (RB I (l.take (k+1))=t++(JA x.1.toNat++(if x.2 then(⟨#[1]⟩:ByteArray) else⟨#[0]⟩))):=by rw[Hid,X.o,Oc,HX.o,<-ByteArray.append_assoc];exact PN _ _ _
   have A4:(k:Int)<(l.length:Int):=by omega
   clear d h;obtain⟨xi,f⟩:=x;dsimp only at R Y L B9;obtain⟨B2,rfl⟩:=Jd R.1;have A7:(B2:Int)<=255:=by omega
   have A9:(0:Int)<=(B2:Int):=by omega
   obtain⟨B3,B8⟩:∃B3,B3=JA B2++(if f then(⟨#[1]⟩:ByteArray) else⟨#[0]⟩):=⟨_,rfl⟩;have p:Hid (cellsB B3=[H .u8 (B2:Int),H .u8 (if f then 1 else 0)]):=by rw[B8];exact iZ B2 (by omega) f
   have A2:Hid (B3.size=2):=by rw[B8];cases f<;>rfl
   rw[pd,<-B8]at B9;clear B8;cases f
   all_goals
    go_wp2_with (at_builtin;refine jG rfl _ _ rfl base _ t B3 rfl ((B0.o.alloc _).alloc _) ⟨wr.heap.size+1,0,Z⟩ 2 rfl A2.o ?qc2 ?qc4 (by decide) ?qc6 ?_)
    case qc2=>
     intro j u A;rw[p.o]at A
     match j,A with
     |0,A=>simp at A;subst A;simp[go_sem]
     |1,A=>simp at A;subst A;simp[go_sem]
    case qc4=>omega
    case qc6=>first|omega|(simp;omega)
    intro v4 w4 F C0;have A0:Below base w w4:=((B.alloc n _).alloc (by simp;omega) _).grown C0 (by simp;omega) (λk B7=>(B0.o.lt k B7).1);have z:=zA F;clear F C0 B0 B;go_wp2
    go_roundw
    case rel=>exact⟨k+1,by omega,by go_num,by rw[B9.o];exact z,A0⟩
    case measure=>simp[intOf];omega
  .have e:l.take k=l:=zd (by omega);have HF:Hid (RB (s++JA l.length) l=t):=by rw[Hid,X.o,e,y.o]
   clear e;go_wp2;go_ret;exact⟨_,rfl,by rw[HF.o];exact B0.o,B⟩
