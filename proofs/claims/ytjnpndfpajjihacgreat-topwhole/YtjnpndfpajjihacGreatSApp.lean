/- -/
import Derived.Test.YtjnpndfpajjihacGreatSGood
import Derived.Test.YtjnpndfpajjihacGreatGrTopWhole8
namespace Go.Proofs.YtjnpndfpajjihacGreat
open Tryz
set_option maxRecDepth 100000
set_option maxHeartbeats 40000000
open Go.RowKit
def cellsB (s:ByteArray):List Value:=s.data.toList.map z5b
theorem ziu (s:ByteArray):(cellsB s).length=s.size*1:=by
 have:s.data.toList.length=s.size:=rfl;simp[cellsB]
theorem zdr (s t:ByteArray):cellsB (s++t)=cellsB s++cellsB t:=by simp[cellsB,ByteArray.data_append]
theorem zcr (n:Nat)(h:n<256):cellsB (zef n)=[.int .u8 (n:Int)]:=by
 have:(UInt8.ofNat n).toNat=n:=by simp;omega
 simp[cellsB,zef,z5b];omega
theorem zj3 {s:ByteArray}:∀u∈cellsB s,u.oneCell'=true:=by
 intro u A;obtain⟨b,_,rfl⟩:=List.mem_map.1 A;rfl
theorem z5c:(prog.info? 5).map (fun i=>(i.zero,i.size,i.bytes))=some (some (.int .u8 0),1,1):=by kernel_rfl
def OwnB (w:World)(base:Nat)(v:Value)(s:ByteArray):Prop:=w.ownsRow base 5 1 v s.size (cellsB s)
theorem OwnB.more {w:World}{base:Nat}{v:Value}{s t:ByteArray}{n:Nat}(hn:n=s.size+t.size)(h:w.ownsRow base 5 1 v n (cellsB s++cellsB t)):OwnB w base v (s++t):=by
 rw[OwnB,ByteArray.size_append,zdr,←hn];exact h
theorem zkw {w:World}{base:Nat}{v:Value}{s:ByteArray}(h:OwnB w base v s)(h0:0<s.size):(convert 139 9 v).run prog w=.ok (.string s) w:=by
 rcases h.2 with⟨_,h1⟩|⟨g,cap,cur,rfl,hb,hg,rest⟩
 ·omega
 ·refine(run_convert_bytes_back (P:=prog) w 139 9 5 ⟨g,0,none⟩ cap s.data.toList underlying139 underlying5 underlying9 (fun j hj=>?_));have A0:j<s.size:=hj;rw[Addr.add_lit,Nat.zero_add,World.ownsRow.cellAt h j (by omega),cellsB,List.getElem?_map,List.getElem?_eq_getElem hj];rfl
theorem zd4 {w:World}{ops:Array Oper}{rest:List Oper}{o:Oper}{a:Act}{Q:Exit→Act→World→Prop}(hgd:o.guard=none)(s x:Operand)
  (ho:o.op=.call {callee:=.builtin .append,args:=#[s,x],argTypes:=#[139,139]})
  (base:Nat) (v:Value) (t nw:ByteArray) (hs:a.eval s=v) (hown:OwnB w base v t) (ad:Addr) (m:Nat) (hx:a.eval x=.slice (some ad) m m) (hm:nw.size=m)
  (hnews:∀j u,(cellsB nw)[j]?=some u→w.cell? (ad.add j)=some u) (h63:t.size≤2000) (hm':m≤100) (hbase:base≤w.heap.size)
  (h:∀v' w',OwnB w' base v' (t++nw)→w.grownBy w' v.ownBlock→wpList prog ops Q rest (a.put o.dst v') w'):wpList prog ops Q (o::rest) a w:=by
 obtain⟨F,I,B,C,A⟩:=info_parts z5c;refine wpList_append_own w hgd s x 139 ho base 5 F (.int .u8 0) 1 1 underlying139 I B C A rfl (by decide) v t.size (cellsB t) hs hown ad m m (cellsB nw) hx (by rw[ziu,hm]) hnews zj3 (by unfold maxLen;omega) (by omega) hbase ?_;intro v' w' E D _;exact h v' w' (OwnB.more (by rw[hm]) E) D
theorem zof (base:Nat)(v:Value)(s:ByteArray)(a:Option Addr)(c:Nat)(l:List Int)(w w0:World)(hown:OwnB w base v s)(hl:SegI w0 a l)(hw0:Below w0.heap.size w0 w)(h0:w0.heap.size≤base)(hbase:base≤w.heap.size)
  (hs:s.size≤1000) (h20:l.length≤20) (hbd:∀x∈l,0≤x∧x≤11):
  Calls prog 107 #[v,.slice a l.length c] w fun e w'=>∃v2,e=.returned v2∧OwnB w' base v2 (zgp (s++zef l.length) l)∧Below base w w':=by
 have n:=zab hown;have HL:=zab hl;have S:=zab hbd;have X:=zab hw0;have A1:(l.length:Int)≤255:=by omega
 have A0:(0:Int)≤(l.length:Int):=by omega
 clear hown hl hbd hw0;go_enter func107,ntmps107;go_wp2_with (at_builtin;refine zd4 rfl _ _ rfl base v s (zef l.length) rfl (n.o.alloc _) ⟨w.heap.size,0,none⟩ 1 rfl rfl ?qc2 ?qc4 (by decide) ?qc6 ?_)
 case qc2=>
  intro j u A;rw[zcr _ (by omega)] at A
  match j,A with
  |0,A=>simp at A;subst A;simp[go_sem]
 case qc4=>omega
 case qc6=>first|omega|(simp;omega)
 intro v1 w1 C N;have q:Below base w w1:=((Below.refl _ _).alloc hbase _).grown N (by simp;omega) (fun k I=>(n.o.lt k I).1);have M:=zab C;clear C N;obtain⟨F,E⟩:∃F,F=s++zef l.length:=⟨_,rfl⟩;have m:F.size≤1001:=by rw[E,ByteArray.size_append];show s.size+1≤1001;omega
 have z:=zab m;rw[←E] at M;have Y:=zab E;clear m E;go_wp2
 go_loopw [0,15] (fun v i wr=>∃k:Nat,k≤l.length∧i=.int .i64 k∧Hid (OwnB wr base v (zgp F (l.take k)))∧Below base w wr) (fun _ i _=>l.length - (intOf i).toNat)
 case atStart=>exact⟨0,Nat.zero_le _,rfl,M,q⟩
 case round=>
  obtain⟨k,I,rfl,hown,B⟩:=hrel;have h:base≤wr.heap.size:=by have:=B.size;omega
  obtain⟨t,J⟩:∃t,t=zgp F (l.take k):=⟨_,rfl⟩;have A6:t.size≤1021:=by rw[J,znc,List.length_take];have:=z.o;omega
  rw[←J] at hown;have K:=zab J;clear J;by_cases hlt:k<l.length
  ·obtain⟨b,A4,rfl,hb,U⟩:=HL.o.resolve_left (by intro e;rw[e] at hlt;simp at hlt);obtain⟨x,Q⟩:∃x,x=l.getD k 0:=⟨_,rfl⟩;have d:=zac (X.o.trans (B.mono h0)) hb (U k hlt);rw[←Q] at d;have p:Hid (l[k]?=some x):=by rw[Q];exact zcg _ _ _ hlt
   have Z:=S.o x (List.mem_of_getElem? p.o);have HN:Hid (zgp F (l.take (k+1))=t++zef x.toNat):=by rw[Hid,K.o,List.take_add_one,p.o];exact zvv _ _ _
   have A2:(k:Int)<(l.length:Int):=by omega
   clear Q U;obtain⟨O,rfl⟩:=Int.eq_ofNat_of_zero_le Z.1;have A3:(O:Int)≤255:=by omega
   have A5:(0:Int)≤(O:Int):=by omega
   go_wp2_with (at_builtin;refine zd4 rfl _ _ rfl base _ t (zef O) rfl (hown.o.alloc _) ⟨wr.heap.size,0,none⟩ 1 rfl rfl ?qc2 ?qc4 (by decide) ?qc6 ?_)
   case qc2=>
    intro j u A;rw[zcr _ (by omega)] at A
    match j,A with
    |0,A=>simp at A;subst A;simp[go_sem]
   case qc4=>omega
   case qc6=>first|omega|(simp;omega)
   intro v4 w4 D L;have R:Below base w w4:=(B.alloc h _).grown L (by simp;omega) (fun k I=>(hown.o.lt k I).1);have r:=zab D;clear D L hown B;go_wp2
   go_roundw
   case rel=>exact⟨k+1,by omega,by go_num,by rw[HN.o,Int.toNat_natCast];exact r,R⟩
   case measure=>simp[intOf];omega
  ·have e:l.take k=l:=List.take_of_length_le (by omega);have y:Hid (zgp (s++zef l.length) l=t):=by rw[Hid,K.o,e,Y.o]
   clear e;go_wp2;go_ret;exact⟨_,rfl,by rw[y.o];exact hown.o,B⟩
theorem zvw (n:Nat)(h:n<256)(f:Bool):cellsB (zef n++(if f then(⟨#[1]⟩:ByteArray) else⟨#[0]⟩))=[.int .u8 (n:Int),.int .u8 (if f then 1 else 0)]:=by
 rw[zdr,zcr n h];cases f<;>rfl
theorem zsg (base:Nat)(v:Value)(s:ByteArray)(a:Option Addr)(c:Nat)(l:List (Int×Bool))(w w0:World)(hown:OwnB w base v s)(hl:SegT w0 a l)(hw0:Below w0.heap.size w0 w)(h0:w0.heap.size≤base)(hbase:base≤w.heap.size)
  (hs:s.size≤1000) (h20:l.length≤10) (hbd:∀x∈l,0≤x.1∧x.1≤11):
  Calls prog 106 #[v,.slice a l.length c] w fun e w'=>∃v2,e=.returned v2∧OwnB w' base v2 (zgo (s++zef l.length) l)∧Below base w w':=by
 have z:=zab hown;have HL:=zab hl;have n:=zab hbd;have S:=zab hw0;have A4:(l.length:Int)≤255:=by omega
 have A3:(0:Int)≤(l.length:Int):=by omega
 clear hown hl hbd hw0;go_enter func106,ntmps106;go_wp2_with (at_builtin;refine zd4 rfl _ _ rfl base v s (zef l.length) rfl (z.o.alloc _) ⟨w.heap.size,0,none⟩ 1 rfl rfl ?qc2 ?qc4 (by decide) ?qc6 ?_)
 case qc2=>
  intro j u A;rw[zcr _ (by omega)] at A
  match j,A with
  |0,A=>simp at A;subst A;simp[go_sem]
 case qc4=>omega
 case qc6=>first|omega|(simp;omega)
 intro v1 w1 C U;have A1:Below base w w1:=((Below.refl _ _).alloc hbase _).grown U (by simp;omega) (fun k M=>(z.o.lt k M).1);have R:=zab C;clear C U;obtain⟨I,F⟩:∃I,I=s++zef l.length:=⟨_,rfl⟩;have y:I.size≤1001:=by rw[F,ByteArray.size_append];show s.size+1≤1001;omega
 have HZ:=zab y;rw[←F] at R;have p:=zab F;clear y F;go_wp2
 go_loopw [0,16] (fun v i wr=>∃k:Nat,k≤l.length∧i=.int .i64 k∧Hid (OwnB wr base v (zgo I (l.take k)))∧Below base w wr) (fun _ i _=>l.length - (intOf i).toNat)
 case atStart=>exact⟨0,Nat.zero_le _,rfl,R,A1⟩
 case round=>
  obtain⟨k,M,rfl,hown,B⟩:=hrel;have r:base≤wr.heap.size:=by have:=B.size;omega
  obtain⟨t,N⟩:∃t,t=zgo I (l.take k):=⟨_,rfl⟩;have A9:t.size≤1021:=by rw[N,znb,List.length_take];have:=HZ.o;omega
  rw[←N] at hown;have O:=zab N;clear N;by_cases hlt:k<l.length
  ·obtain⟨b,A7,rfl,hb,Z⟩:=HL.o.resolve_left (by intro e;rw[e] at hlt;simp at hlt);obtain⟨x,h⟩:∃x,x=l.getD k (0,false):=⟨_,rfl⟩;have Y:=zac (S.o.trans (B.mono h0)) hb (Z k hlt).1;have K:=zac (S.o.trans (B.mono h0)) hb (Z k hlt).2;rw[←h] at Y K;have HX:Hid (l[k]?=some x):=by rw[h];exact zcg _ _ _ hlt
   have X:=n.o x (List.mem_of_getElem? HX.o);have d:Hid (zgo I (l.take (k+1))=t++(zef x.1.toNat++(if x.2 then(⟨#[1]⟩:ByteArray) else⟨#[0]⟩))):=by rw[Hid,O.o,List.take_add_one,HX.o,←ByteArray.append_assoc];exact zvu _ _ _
   have A5:(k:Int)<(l.length:Int):=by omega
   clear h Z;obtain⟨xi,f⟩:=x;dsimp only at X Y K d;obtain⟨J,rfl⟩:=Int.eq_ofNat_of_zero_le X.1;have A6:(J:Int)≤255:=by omega
   have A8:(0:Int)≤(J:Int):=by omega
   obtain⟨L,E⟩:∃L,L=zef J++(if f then(⟨#[1]⟩:ByteArray) else⟨#[0]⟩):=⟨_,rfl⟩;have q:Hid (cellsB L=[.int .u8 (J:Int),.int .u8 (if f then 1 else 0)]):=by rw[E];exact zvw J (by omega) f
   have A0:Hid (L.size=2):=by rw[E];cases f<;>rfl
   rw[Int.toNat_natCast,←E] at d;clear E;cases f
   all_goals
    go_wp2_with (at_builtin;refine zd4 rfl _ _ rfl base _ t L rfl ((hown.o.alloc _).alloc _) ⟨wr.heap.size+1,0,none⟩ 2 rfl A0.o ?qc2 ?qc4 (by decide) ?qc6 ?_)
    case qc2=>
     intro j u A;rw[q.o] at A
     match j,A with
     |0,A=>simp at A;subst A;simp[go_sem]
     |1,A=>simp at A;subst A;simp[go_sem]
    case qc4=>omega
    case qc6=>first|omega|(simp;omega)
    intro v4 w4 D Q;have m:Below base w w4:=((B.alloc r _).alloc (by simp;omega) _).grown Q (by simp;omega) (fun k M=>(hown.o.lt k M).1);have A2:=zab D;clear D Q hown B;go_wp2
    go_roundw
    case rel=>exact⟨k+1,by omega,by go_num,by rw[d.o];exact A2,m⟩
    case measure=>simp[intOf];omega
  ·have e:l.take k=l:=List.take_of_length_le (by omega);have HF:Hid (zgo (s++zef l.length) l=t):=by rw[Hid,O.o,e,p.o]
   clear e;go_wp2;go_ret;exact⟨_,rfl,by rw[HF.o];exact hown.o,B⟩
end Go.Proofs.YtjnpndfpajjihacGreat

