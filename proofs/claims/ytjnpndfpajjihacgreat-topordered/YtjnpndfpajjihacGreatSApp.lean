/- -/
import Derived.Test.YtjnpndfpajjihacGreatSGood
import Derived.Test.YtjnpndfpajjihacGreatGrTopOrdered7
namespace Go.Proofs.YtjnpndfpajjihacGreat
open Go.Proofs.Tryz
set_option maxRecDepth 100000
set_option maxHeartbeats 40000000
open Go.RowKit
def cellsB (s:ByteArray):List Value:=s.data.toList.map z48
theorem zi1(s:ByteArray):(cellsB s).length=s.size*1:=by
 have:s.data.toList.length=s.size:=rfl;simp[cellsB]
theorem zdr(s t:ByteArray):cellsB (s++t)=cellsB s++cellsB t:=by simp[cellsB,ByteArray.data_append]
theorem zcr(n:Nat)(h:n<256):cellsB (zef n)=[.int .u8 (n:Int)]:=by
 have:(UInt8.ofNat n).toNat=n:=by simp;omega
 simp[cellsB,zef,z48];omega
theorem zke{s:ByteArray}:∀u∈cellsB s,u.oneCell'=true:=by
 intro u A;obtain⟨b,_,rfl⟩:=List.mem_map.1 A;rfl
theorem z49:(prog.info? 5).map (fun i=>(i.zero,i.size,i.bytes))=some (some (.int .u8 0),1,1):=by kernel_rfl
def OwnB (w:World)(base:Nat)(v:Value)(s:ByteArray):Prop:=w.ownsRow base 5 1 v s.size (cellsB s)
theorem OwnB.more{w:World}{base:Nat}{v:Value}{s t:ByteArray}{n:Nat}(hn:n=s.size+t.size)(h:w.ownsRow base 5 1 v n (cellsB s++cellsB t)):OwnB w base v (s++t):=by
 rw[OwnB,ByteArray.size_append,zdr,←hn];exact h
theorem zk7{w:World}{base:Nat}{v:Value}{s:ByteArray}(h:OwnB w base v s)(h0:0<s.size):(convert 139 9 v).run prog w=.ok (.string s) w:=by
 rcases h.2 with⟨_,h1⟩|⟨g,cap,cur,rfl,hb,hg,rest⟩
 ·omega
 ·refine(run_convert_bytes_back (P:=prog) w 139 9 5 ⟨g,0,none⟩ cap s.data.toList underlying139 underlying5 underlying9 (fun j hj=>?_));have A0:j<s.size:=hj;rw[Addr.add_lit,Nat.zero_add,World.ownsRow.cellAt h j (by omega),cellsB,List.getElem?_map,List.getElem?_eq_getElem hj];rfl
theorem zd3{w:World}{ops:Array Oper}{rest:List Oper}{o:Oper}{a:Act}{Q:Exit→Act→World→Prop}(hgd:o.guard=none)(s x:Operand)
  (ho:o.op=.call {callee:=.builtin .append,args:=#[s,x],argTypes:=#[139,139]})
  (base:Nat) (v:Value) (t nw:ByteArray) (hs:a.eval s=v) (hown:OwnB w base v t) (ad:Addr) (m:Nat) (hx:a.eval x=.slice (some ad) m m) (hm:nw.size=m)
  (hnews:∀j u,(cellsB nw)[j]?=some u→w.cell? (ad.add j)=some u) (h63:t.size≤2000) (hm':m≤100) (hbase:base≤w.heap.size)
  (h:∀v' w',OwnB w' base v' (t++nw)→w.grownBy w' v.ownBlock→wpList prog ops Q rest (a.put o.dst v') w'):wpList prog ops Q (o::rest) a w:=by
 obtain⟨D,F,B,C,A⟩:=info_parts z49;refine wpList_append_own w hgd s x 139 ho base 5 D (.int .u8 0) 1 1 underlying139 F B C A rfl (by decide) v t.size (cellsB t) hs hown ad m m (cellsB nw) hx (by rw[zi1,hm]) hnews zke (by unfold maxLen;omega) (by omega) hbase ?_;intro v' w' I E _;exact h v' w' (OwnB.more (by rw[hm]) I) E
theorem zon(base:Nat)(v:Value)(s:ByteArray)(a:Option Addr)(c:Nat)(l:List Int)(w w0:World)(hown:OwnB w base v s)(hl:SegI w0 a l)(hw0:Below w0.heap.size w0 w)(h0:w0.heap.size≤base)(hbase:base≤w.heap.size)
  (hs:s.size≤1000) (h20:l.length≤20) (hbd:∀x∈l,0≤x∧x≤11):
  Calls prog 107 #[v,.slice a l.length c] w fun e w'=>∃v2,e=.returned v2∧OwnB w' base v2 (zgw (s++zef l.length) l)∧Below base w w':=by
 have h:=zab hown;have y:=zab hl;have R:=zab hbd;have Y:=zab hw0;have A1:(l.length:Int)≤255:=by omega
 have A0:(0:Int)≤(l.length:Int):=by omega
 clear hown hl hbd hw0;go_enter func107,ntmps107;go_wp2_with (at_builtin;refine zd3 rfl _ _ rfl base v s (zef l.length) rfl (h.o.alloc _) ⟨w.heap.size,0,none⟩ 1 rfl rfl ?qc2 ?qc4 (by decide) ?qc6 ?_)
 case qc2=>
  intro j u A;rw[zcr _ (by omega)]at A
  match j,A with
  |0,A=>simp at A;subst A;simp[go_sem]
 case qc4=>omega
 case qc6=>first|omega|(simp;omega)
 intro v1 z E K;have m:Below base w z:=((Below.refl _ _).alloc hbase _).grown K (by simp;omega) (fun k I=>(h.o.lt k I).1);have L:=zab E;clear E K;obtain⟨F,C⟩:∃F,F=s++zef l.length:=⟨_,rfl⟩;have U:F.size≤1001:=by rw[C,ByteArray.size_append];show s.size+1≤1001;omega
 have HZ:=zab U;rw[←C]at L;have X:=zab C;clear U C;go_wp2
 go_loopw [0,15] (fun v i wr=>∃k:Nat,k≤l.length∧i=.int .i64 k∧Hid (OwnB wr base v (zgw F (l.take k)))∧Below base w wr) (fun _ i _=>l.length - (intOf i).toNat)
 case atStart=>exact⟨0,Nat.zero_le _,rfl,L,m⟩
 case round=>
  obtain⟨k,I,rfl,hown,B⟩:=hrel;have Z:base≤wr.heap.size:=by have:=B.size;omega
  obtain⟨t,J⟩:∃t,t=zgw F (l.take k):=⟨_,rfl⟩;have A4:t.size≤1021:=by rw[J,znk,List.length_take];have:=HZ.o;omega
  rw[←J]at hown;have N:=zab J;clear J;by_cases hlt:k<l.length
  ·obtain⟨b,A3,rfl,hb,d⟩:=y.o.resolve_left (by intro e;rw[e]at hlt;simp at hlt);obtain⟨x,Q⟩:∃x,x=l.getD k 0:=⟨_,rfl⟩;have n:=zac (Y.o.trans (B.mono h0)) hb (d k hlt);rw[←Q]at n;have p:Hid (l[k]?=some x):=by rw[Q];exact zcd _ _ _ hlt
   have r:=R.o x (List.mem_of_getElem? p.o);have HN:Hid (zgw F (l.take (k+1))=t++zef x.toNat):=by rw[Hid,N.o,List.take_add_one,p.o];exact zv2 _ _ _
   have A2:(k:Int)<(l.length:Int):=by omega
   clear Q d;obtain⟨O,rfl⟩:=Int.eq_ofNat_of_zero_le r.1;have A5:(O:Int)≤255:=by omega
   have A6:(0:Int)≤(O:Int):=by omega
   go_wp2_with (at_builtin;refine zd3 rfl _ _ rfl base _ t (zef O) rfl (hown.o.alloc _) ⟨wr.heap.size,0,none⟩ 1 rfl rfl ?qc2 ?qc4 (by decide) ?qc6 ?_)
   case qc2=>
    intro j u A;rw[zcr _ (by omega)]at A
    match j,A with
    |0,A=>simp at A;subst A;simp[go_sem]
   case qc4=>omega
   case qc6=>first|omega|(simp;omega)
   intro v4 w4 D M;have q:Below base w w4:=(B.alloc Z _).grown M (by simp;omega) (fun k I=>(hown.o.lt k I).1);have S:=zab D;clear D M hown B;go_wp2
   go_roundw
   case rel=>exact⟨k+1,by omega,by go_num,by rw[HN.o,Int.toNat_natCast];exact S,q⟩
   case measure=>simp[intOf];omega
  ·have e:l.take k=l:=List.take_of_length_le (by omega);have HF:Hid (zgw (s++zef l.length) l=t):=by rw[Hid,N.o,e,X.o]
   clear e;go_wp2;go_ret;exact⟨_,rfl,by rw[HF.o];exact hown.o,B⟩
theorem zv3(n:Nat)(h:n<256)(f:Bool):cellsB (zef n++(if f then(⟨#[1]⟩:ByteArray) else⟨#[0]⟩))=[.int .u8 (n:Int),.int .u8 (if f then 1 else 0)]:=by
 rw[zdr,zcr n h];cases f<;>rfl
theorem zsq(base:Nat)(v:Value)(s:ByteArray)(a:Option Addr)(c:Nat)(l:List (Int×Bool))(w w0:World)(hown:OwnB w base v s)(hl:SegT w0 a l)(hw0:Below w0.heap.size w0 w)(h0:w0.heap.size≤base)(hbase:base≤w.heap.size)
  (hs:s.size≤1000) (h20:l.length≤10) (hbd:∀x∈l,0≤x.1∧x.1≤11):
  Calls prog 106 #[v,.slice a l.length c] w fun e w'=>∃v2,e=.returned v2∧OwnB w' base v2 (zgv (s++zef l.length) l)∧Below base w w':=by
 have z:=zab hown;have HL:=zab hl;have m:=zab hbd;have R:=zab hw0;have A4:(l.length:Int)≤255:=by omega
 have A3:(0:Int)≤(l.length:Int):=by omega
 clear hown hl hbd hw0;go_enter func106,ntmps106;go_wp2_with (at_builtin;refine zd3 rfl _ _ rfl base v s (zef l.length) rfl (z.o.alloc _) ⟨w.heap.size,0,none⟩ 1 rfl rfl ?qc2 ?qc4 (by decide) ?qc6 ?_)
 case qc2=>
  intro j u A;rw[zcr _ (by omega)]at A
  match j,A with
  |0,A=>simp at A;subst A;simp[go_sem]
 case qc4=>omega
 case qc6=>first|omega|(simp;omega)
 intro v1 w1 E O;have A0:Below base w w1:=((Below.refl _ _).alloc hbase _).grown O (by simp;omega) (fun k M=>(z.o.lt k M).1);have Q:=zab E;clear E O;obtain⟨I,C⟩:∃I,I=s++zef l.length:=⟨_,rfl⟩;have p:I.size≤1001:=by rw[C,ByteArray.size_append];show s.size+1≤1001;omega
 have HZ:=zab p;rw[←C]at Q;have q:=zab C;clear p C;go_wp2
 go_loopw [0,16] (fun v i wr=>∃k:Nat,k≤l.length∧i=.int .i64 k∧Hid (OwnB wr base v (zgv I (l.take k)))∧Below base w wr) (fun _ i _=>l.length - (intOf i).toNat)
 case atStart=>exact⟨0,Nat.zero_le _,rfl,Q,A0⟩
 case round=>
  obtain⟨k,M,rfl,hown,B⟩:=hrel;have y:base≤wr.heap.size:=by have:=B.size;omega
  obtain⟨t,N⟩:∃t,t=zgv I (l.take k):=⟨_,rfl⟩;have A7:t.size≤1021:=by rw[N,znj,List.length_take];have:=HZ.o;omega
  rw[←N]at hown;have U:=zab N;clear N;by_cases hlt:k<l.length
  ·obtain⟨b,A6,rfl,hb,h⟩:=HL.o.resolve_left (by intro e;rw[e]at hlt;simp at hlt);obtain⟨x,Z⟩:∃x,x=l.getD k (0,false):=⟨_,rfl⟩;have X:=zac (R.o.trans (B.mono h0)) hb (h k hlt).1;have K:=zac (R.o.trans (B.mono h0)) hb (h k hlt).2;rw[←Z]at X K;have HX:Hid (l[k]?=some x):=by rw[Z];exact zcd _ _ _ hlt
   have Y:=m.o x (List.mem_of_getElem? HX.o);have d:Hid (zgv I (l.take (k+1))=t++(zef x.1.toNat++(if x.2 then(⟨#[1]⟩:ByteArray) else⟨#[0]⟩))):=by rw[Hid,U.o,List.take_add_one,HX.o,←ByteArray.append_assoc];exact zv1 _ _ _
   have A5:(k:Int)<(l.length:Int):=by omega
   clear Z h;obtain⟨xi,f⟩:=x;dsimp only at Y X K d;obtain⟨J,rfl⟩:=Int.eq_ofNat_of_zero_le Y.1;have A8:(J:Int)≤255:=by omega
   have A9:(0:Int)≤(J:Int):=by omega
   obtain⟨L,F⟩:∃L,L=zef J++(if f then(⟨#[1]⟩:ByteArray) else⟨#[0]⟩):=⟨_,rfl⟩;have A2:Hid (cellsB L=[.int .u8 (J:Int),.int .u8 (if f then 1 else 0)]):=by rw[F];exact zv3 J (by omega) f
   have r:Hid (L.size=2):=by rw[F];cases f<;>rfl
   rw[Int.toNat_natCast,←F]at d;clear F;cases f
   all_goals
    go_wp2_with (at_builtin;refine zd3 rfl _ _ rfl base _ t L rfl ((hown.o.alloc _).alloc _) ⟨wr.heap.size+1,0,none⟩ 2 rfl r.o ?qc2 ?qc4 (by decide) ?qc6 ?_)
    case qc2=>
     intro j u A;rw[A2.o]at A
     match j,A with
     |0,A=>simp at A;subst A;simp[go_sem]
     |1,A=>simp at A;subst A;simp[go_sem]
    case qc4=>omega
    case qc6=>first|omega|(simp;omega)
    intro v4 w4 D S;have A1:Below base w w4:=((B.alloc y _).alloc (by simp;omega) _).grown S (by simp;omega) (fun k M=>(hown.o.lt k M).1);have n:=zab D;clear D S hown B;go_wp2
    go_roundw
    case rel=>exact⟨k+1,by omega,by go_num,by rw[d.o];exact n,A1⟩
    case measure=>simp[intOf];omega
  ·have e:l.take k=l:=List.take_of_length_le (by omega);have HF:Hid (zgv (s++zef l.length) l=t):=by rw[Hid,U.o,e,q.o]
   clear e;go_wp2;go_ret;exact⟨_,rfl,by rw[HF.o];exact hown.o,B⟩
