/- -/
import Derived.Test.YtjnpndfpajjihacGreatSGood
import Derived.Test.YtjnpndfpajjihacGreatGrTopAnywhere8
namespace Go.Proofs.YtjnpndfpajjihacGreat
open Go.Proofs.Tryz
set_option maxRecDepth 100000
set_option maxHeartbeats 40000000
open Go.RowKit
def cellsB (s:ByteArray):List Value:=s.data.toList.map z5m
theorem zi0(s:ByteArray):(cellsB s).length=s.size*1:=by
 have:s.data.toList.length=s.size:=rfl;simp[cellsB]
theorem zdr(s t:ByteArray):cellsB (s++t)=cellsB s++cellsB t:=by simp[cellsB,ByteArray.data_append]
theorem zcr(n:Nat)(h:n<256):cellsB (zei n)=[.int .u8 (n:Int)]:=by
 have:(UInt8.ofNat n).toNat=n:=by simp;omega
 simp[cellsB,zei,z5m];omega
theorem zkd{s:ByteArray}:∀u∈cellsB s,u.oneCell'=true:=by
 intro u A;obtain⟨b,_,rfl⟩:=List.mem_map.1 A;rfl
theorem z5n:(prog.info? 5).map (fun i=>(i.zero,i.size,i.bytes))=some (some (.int .u8 0),1,1):=by kernel_rfl
def OwnB (w:World)(base:Nat)(v:Value)(s:ByteArray):Prop:=w.ownsRow base 5 1 v s.size (cellsB s)
theorem OwnB.more{w:World}{base:Nat}{v:Value}{s t:ByteArray}{n:Nat}(hn:n=s.size+t.size)(h:w.ownsRow base 5 1 v n (cellsB s++cellsB t)):OwnB w base v (s++t):=by
 rw[OwnB,ByteArray.size_append,zdr,←hn];exact h
theorem zk5{w:World}{base:Nat}{v:Value}{s:ByteArray}(h:OwnB w base v s)(h0:0<s.size):(convert 139 9 v).run prog w=.ok (.string s) w:=by
 rcases h.2 with⟨_,h1⟩|⟨g,cap,cur,rfl,hb,hg,rest⟩
 ·omega
 ·refine(run_convert_bytes_back (P:=prog) w 139 9 5 ⟨g,0,none⟩ cap s.data.toList underlying139 underlying5 underlying9 (fun j hj=>?_));have A0:j<s.size:=hj;rw[Addr.add_lit,Nat.zero_add,World.ownsRow.cellAt h j (by omega),cellsB,List.getElem?_map,List.getElem?_eq_getElem hj];rfl
theorem zd3{w:World}{ops:Array Oper}{rest:List Oper}{o:Oper}{a:Act}{Q:Exit→Act→World→Prop}(hgd:o.guard=none)(s x:Operand)
  (ho:o.op=.call {callee:=.builtin .append,args:=#[s,x],argTypes:=#[139,139]})
  (base:Nat) (v:Value) (t nw:ByteArray) (hs:a.eval s=v) (hown:OwnB w base v t) (ad:Addr) (m:Nat) (hx:a.eval x=.slice (some ad) m m) (hm:nw.size=m)
  (hnews:∀j u,(cellsB nw)[j]?=some u→w.cell? (ad.add j)=some u) (h63:t.size≤2000) (hm':m≤100) (hbase:base≤w.heap.size)
  (h:∀v' w',OwnB w' base v' (t++nw)→w.grownBy w' v.ownBlock→wpList prog ops Q rest (a.put o.dst v') w'):wpList prog ops Q (o::rest) a w:=by
 obtain⟨F,I,C,A,B⟩:=info_parts z5n;refine wpList_append_own w hgd s x 139 ho base 5 F (.int .u8 0) 1 1 underlying139 I C A B rfl (by decide) v t.size (cellsB t) hs hown ad m m (cellsB nw) hx (by rw[zi0,hm]) hnews zkd (by unfold maxLen;omega) (by omega) hbase ?_;intro v' w' E D _;exact h v' w' (OwnB.more (by rw[hm]) E) D
theorem zom(base:Nat)(v:Value)(s:ByteArray)(a:Option Addr)(c:Nat)(l:List Int)(w w0:World)(hown:OwnB w base v s)(hl:SegI w0 a l)(hw0:Below w0.heap.size w0 w)(h0:w0.heap.size≤base)(hbase:base≤w.heap.size)
  (hs:s.size≤1000) (h20:l.length≤20) (hbd:∀x∈l,0≤x∧x≤11):
  Calls prog 107 #[v,.slice a l.length c] w fun e w'=>∃v2,e=.returned v2∧OwnB w' base v2 (zgt (s++zei l.length) l)∧Below base w w':=by
 have d:=zaa hown;have HL:=zaa hl;have S:=zaa hbd;have m:=zaa hw0;have A2:(l.length:Int)≤255:=by omega
 have A0:(0:Int)≤(l.length:Int):=by omega
 clear hown hl hbd hw0;go_enter func107,ntmps107;go_wp2_with (at_builtin;refine zd3 rfl _ _ rfl base v s (zei l.length) rfl (d.o.alloc _) ⟨w.heap.size,0,none⟩ 1 rfl rfl ?qc2 ?qc4 (by decide) ?qc6 ?_)
 case qc2=>
  intro j u A;rw[zcr _ (by omega)]at A
  match j,A with
  |0,A=>simp at A;subst A;simp[go_sem]
 case qc4=>omega
 case qc6=>first|omega|(simp;omega)
 intro v1 y C L;have n:Below base w y:=((Below.refl _ _).alloc hbase _).grown L (by simp;omega) (fun k J=>(d.o.lt k J).1);have K:=zaa C;clear C L;obtain⟨F,E⟩:∃F,F=s++zei l.length:=⟨_,rfl⟩;have Z:F.size≤1001:=by rw[E,ByteArray.size_append];show s.size+1≤1001;omega
 have HZ:=zaa Z;rw[←E]at K;have p:=zaa E;clear Z E;go_wp2
 go_loopw [0,15] (fun v i wr=>∃k:Nat,k≤l.length∧i=.int .i64 k∧Hid (OwnB wr base v (zgt F (l.take k)))∧Below base w wr) (fun _ i _=>l.length - (intOf i).toNat)
 case atStart=>exact⟨0,Nat.zero_le _,rfl,K,n⟩
 case round=>
  obtain⟨k,J,rfl,hown,B⟩:=hrel;have U:base≤wr.heap.size:=by have:=B.size;omega
  obtain⟨t,I⟩:∃t,t=zgt F (l.take k):=⟨_,rfl⟩;have A3:t.size≤1021:=by rw[I,znk,List.length_take];have:=HZ.o;omega
  rw[←I]at hown;have N:=zaa I;clear I;by_cases hlt:k<l.length
  ·obtain⟨b,A5,rfl,hb,R⟩:=HL.o.resolve_left (by intro e;rw[e]at hlt;simp at hlt);obtain⟨x,Q⟩:∃x,x=l.getD k 0:=⟨_,rfl⟩;have r:=zac (m.o.trans (B.mono h0)) hb (R k hlt);rw[←Q]at r;have q:Hid (l[k]?=some x):=by rw[Q];exact zcf _ _ _ hlt
   have Y:=S.o x (List.mem_of_getElem? q.o);have HN:Hid (zgt F (l.take (k+1))=t++zei x.toNat):=by rw[Hid,N.o,List.take_add_one,q.o];exact zv1 _ _ _
   have A1:(k:Int)<(l.length:Int):=by omega
   clear Q R;obtain⟨O,rfl⟩:=Int.eq_ofNat_of_zero_le Y.1;have A4:(O:Int)≤255:=by omega
   have A6:(0:Int)≤(O:Int):=by omega
   go_wp2_with (at_builtin;refine zd3 rfl _ _ rfl base _ t (zei O) rfl (hown.o.alloc _) ⟨wr.heap.size,0,none⟩ 1 rfl rfl ?qc2 ?qc4 (by decide) ?qc6 ?_)
   case qc2=>
    intro j u A;rw[zcr _ (by omega)]at A
    match j,A with
    |0,A=>simp at A;subst A;simp[go_sem]
   case qc4=>omega
   case qc6=>first|omega|(simp;omega)
   intro v4 z D M;have X:Below base w z:=(B.alloc U _).grown M (by simp;omega) (fun k J=>(hown.o.lt k J).1);have h:=zaa D;clear D M hown B;go_wp2
   go_roundw
   case rel=>exact⟨k+1,by omega,by go_num,by rw[HN.o,Int.toNat_natCast];exact h,X⟩
   case measure=>simp[intOf];omega
  ·have e:l.take k=l:=List.take_of_length_le (by omega);have HF:Hid (zgt (s++zei l.length) l=t):=by rw[Hid,N.o,e,p.o]
   clear e;go_wp2;go_ret;exact⟨_,rfl,by rw[HF.o];exact hown.o,B⟩
theorem zv2(n:Nat)(h:n<256)(f:Bool):cellsB (zei n++(if f then(⟨#[1]⟩:ByteArray) else⟨#[0]⟩))=[.int .u8 (n:Int),.int .u8 (if f then 1 else 0)]:=by
 rw[zdr,zcr n h];cases f<;>rfl
theorem zsn(base:Nat)(v:Value)(s:ByteArray)(a:Option Addr)(c:Nat)(l:List (Int×Bool))(w w0:World)(hown:OwnB w base v s)(hl:SegT w0 a l)(hw0:Below w0.heap.size w0 w)(h0:w0.heap.size≤base)(hbase:base≤w.heap.size)
  (hs:s.size≤1000) (h20:l.length≤10) (hbd:∀x∈l,0≤x.1∧x.1≤11):
  Calls prog 106 #[v,.slice a l.length c] w fun e w'=>∃v2,e=.returned v2∧OwnB w' base v2 (zgs (s++zei l.length) l)∧Below base w w':=by
 have z:=zaa hown;have HL:=zaa hl;have n:=zaa hbd;have X:=zaa hw0;have A5:(l.length:Int)≤255:=by omega
 have A3:(0:Int)≤(l.length:Int):=by omega
 clear hown hl hbd hw0;go_enter func106,ntmps106;go_wp2_with (at_builtin;refine zd3 rfl _ _ rfl base v s (zei l.length) rfl (z.o.alloc _) ⟨w.heap.size,0,none⟩ 1 rfl rfl ?qc2 ?qc4 (by decide) ?qc6 ?_)
 case qc2=>
  intro j u A;rw[zcr _ (by omega)]at A
  match j,A with
  |0,A=>simp at A;subst A;simp[go_sem]
 case qc4=>omega
 case qc6=>first|omega|(simp;omega)
 intro v1 w1 C R;have A1:Below base w w1:=((Below.refl _ _).alloc hbase _).grown R (by simp;omega) (fun k N=>(z.o.lt k N).1);have O:=zaa C;clear C R;obtain⟨I,F⟩:∃I,I=s++zei l.length:=⟨_,rfl⟩;have y:I.size≤1001:=by rw[F,ByteArray.size_append];show s.size+1≤1001;omega
 have HZ:=zaa y;rw[←F]at O;have A2:=zaa F;clear y F;go_wp2
 go_loopw [0,16] (fun v i wr=>∃k:Nat,k≤l.length∧i=.int .i64 k∧Hid (OwnB wr base v (zgs I (l.take k)))∧Below base w wr) (fun _ i _=>l.length - (intOf i).toNat)
 case atStart=>exact⟨0,Nat.zero_le _,rfl,O,A1⟩
 case round=>
  obtain⟨k,N,rfl,hown,B⟩:=hrel;have p:base≤wr.heap.size:=by have:=B.size;omega
  obtain⟨t,M⟩:∃t,t=zgs I (l.take k):=⟨_,rfl⟩;have A6:t.size≤1021:=by rw[M,znj,List.length_take];have:=HZ.o;omega
  rw[←M]at hown;have U:=zaa M;clear M;by_cases hlt:k<l.length
  ·obtain⟨b,A8,rfl,hb,Z⟩:=HL.o.resolve_left (by intro e;rw[e]at hlt;simp at hlt);obtain⟨x,d⟩:∃x,x=l.getD k (0,false):=⟨_,rfl⟩;have Y:=zac (X.o.trans (B.mono h0)) hb (Z k hlt).1;have J:=zac (X.o.trans (B.mono h0)) hb (Z k hlt).2;rw[←d]at Y J;have HX:Hid (l[k]?=some x):=by rw[d];exact zcf _ _ _ hlt
   have Q:=n.o x (List.mem_of_getElem? HX.o);have h:Hid (zgs I (l.take (k+1))=t++(zei x.1.toNat++(if x.2 then(⟨#[1]⟩:ByteArray) else⟨#[0]⟩))):=by rw[Hid,U.o,List.take_add_one,HX.o,←ByteArray.append_assoc];exact zv0 _ _ _
   have A4:(k:Int)<(l.length:Int):=by omega
   clear d Z;obtain⟨xi,f⟩:=x;dsimp only at Q Y J h;obtain⟨K,rfl⟩:=Int.eq_ofNat_of_zero_le Q.1;have A7:(K:Int)≤255:=by omega
   have A9:(0:Int)≤(K:Int):=by omega
   obtain⟨L,E⟩:∃L,L=zei K++(if f then(⟨#[1]⟩:ByteArray) else⟨#[0]⟩):=⟨_,rfl⟩;have q:Hid (cellsB L=[.int .u8 (K:Int),.int .u8 (if f then 1 else 0)]):=by rw[E];exact zv2 K (by omega) f
   have m:Hid (L.size=2):=by rw[E];cases f<;>rfl
   rw[Int.toNat_natCast,←E]at h;clear E;cases f
   all_goals
    go_wp2_with (at_builtin;refine zd3 rfl _ _ rfl base _ t L rfl ((hown.o.alloc _).alloc _) ⟨wr.heap.size+1,0,none⟩ 2 rfl m.o ?qc2 ?qc4 (by decide) ?qc6 ?_)
    case qc2=>
     intro j u A;rw[q.o]at A
     match j,A with
     |0,A=>simp at A;subst A;simp[go_sem]
     |1,A=>simp at A;subst A;simp[go_sem]
    case qc4=>omega
    case qc6=>first|omega|(simp;omega)
    intro v4 w4 D S;have r:Below base w w4:=((B.alloc p _).alloc (by simp;omega) _).grown S (by simp;omega) (fun k N=>(hown.o.lt k N).1);have A0:=zaa D;clear D S hown B;go_wp2
    go_roundw
    case rel=>exact⟨k+1,by omega,by go_num,by rw[h.o];exact A0,r⟩
    case measure=>simp[intOf];omega
  ·have e:l.take k=l:=List.take_of_length_le (by omega);have HF:Hid (zgs (s++zei l.length) l=t):=by rw[Hid,U.o,e,A2.o]
   clear e;go_wp2;go_ret;exact⟨_,rfl,by rw[HF.o];exact hown.o,B⟩
