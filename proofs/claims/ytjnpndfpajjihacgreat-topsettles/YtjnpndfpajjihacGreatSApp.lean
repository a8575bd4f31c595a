/- -/
import Derived.Test.YtjnpndfpajjihacGreatSGood
import Derived.Test.YtjnpndfpajjihacGreatGrTopSettles7
namespace Go.Proofs.YtjnpndfpajjihacGreat
open Go.Proofs.Tryz
set_option maxRecDepth 100000
set_option maxHeartbeats 40000000
open Go.RowKit
def cellsB (s:ByteArray):List Value:=s.data.toList.map z41
theorem ziz(s:ByteArray):(cellsB s).length=s.size*1:=by
 have:s.data.toList.length=s.size:=rfl;simp[cellsB]
theorem zdu(s t:ByteArray):cellsB (s++t)=cellsB s++cellsB t:=by simp[cellsB,ByteArray.data_append]
theorem zcu(n:Nat)(h:n<256):cellsB (zeq n)=[.int .u8 (n:Int)]:=by
 have:(UInt8.ofNat n).toNat=n:=by simp;omega
 simp[cellsB,zeq,z41];omega
theorem zj8{s:ByteArray}:∀u∈cellsB s,u.oneCell'=true:=by
 intro u A;obtain⟨b,_,rfl⟩:=List.mem_map.1 A;rfl
theorem z42:(prog.info? 5).map (fun i=>(i.zero,i.size,i.bytes))=some (some (.int .u8 0),1,1):=by kernel_rfl
def OwnB (w:World)(base:Nat)(v:Value)(s:ByteArray):Prop:=w.ownsRow base 5 1 v s.size (cellsB s)
theorem OwnB.more{w:World}{base:Nat}{v:Value}{s t:ByteArray}{n:Nat}(hn:n=s.size+t.size)(h:w.ownsRow base 5 1 v n (cellsB s++cellsB t)):OwnB w base v (s++t):=by
 rw[OwnB,ByteArray.size_append,zdu,←hn];exact h
theorem zk0{w:World}{base:Nat}{v:Value}{s:ByteArray}(h:OwnB w base v s)(h0:0<s.size):(convert 139 9 v).run prog w=.ok (.string s) w:=by
 rcases h.2 with⟨_,h1⟩|⟨g,cap,cur,rfl,hb,hg,rest⟩
 ·omega
 ·refine(run_convert_bytes_back (P:=prog) w 139 9 5 ⟨g,0,none⟩ cap s.data.toList underlying139 underlying5 underlying9 (fun j hj=>?_));have A0:j<s.size:=hj;rw[Addr.add_lit,Nat.zero_add,World.ownsRow.cellAt h j (by omega),cellsB,List.getElem?_map,List.getElem?_eq_getElem hj];rfl
theorem zd6{w:World}{ops:Array Oper}{rest:List Oper}{o:Oper}{a:Act}{Q:Exit→Act→World→Prop}(hgd:o.guard=none)(s x:Operand)
  (ho:o.op=.call {callee:=.builtin .append,args:=#[s,x],argTypes:=#[139,139]})
  (base:Nat) (v:Value) (t nw:ByteArray) (hs:a.eval s=v) (hown:OwnB w base v t) (ad:Addr) (m:Nat) (hx:a.eval x=.slice (some ad) m m) (hm:nw.size=m)
  (hnews:∀j u,(cellsB nw)[j]?=some u→w.cell? (ad.add j)=some u) (h63:t.size≤2000) (hm':m≤100) (hbase:base≤w.heap.size)
  (h:∀v' w',OwnB w' base v' (t++nw)→w.grownBy w' v.ownBlock→wpList prog ops Q rest (a.put o.dst v') w'):wpList prog ops Q (o::rest) a w:=by
 obtain⟨E,F,C,A,B⟩:=info_parts z42;refine wpList_append_own w hgd s x 139 ho base 5 E (.int .u8 0) 1 1 underlying139 F C A B rfl (by decide) v t.size (cellsB t) hs hown ad m m (cellsB nw) hx (by rw[ziz,hm]) hnews zj8 (by unfold maxLen;omega) (by omega) hbase ?_;intro v' w' D I _;exact h v' w' (OwnB.more (by rw[hm]) D) I
theorem zob(base:Nat)(v:Value)(s:ByteArray)(a:Option Addr)(c:Nat)(l:List Int)(w w0:World)(hown:OwnB w base v s)(hl:SegI w0 a l)(hw0:Below w0.heap.size w0 w)(h0:w0.heap.size≤base)(hbase:base≤w.heap.size)
  (hs:s.size≤1000) (h20:l.length≤20) (hbd:∀x∈l,0≤x∧x≤11):
  Calls prog 107 #[v,.slice a l.length c] w fun e w'=>∃v2,e=.returned v2∧OwnB w' base v2 (zgx (s++zeq l.length) l)∧Below base w w':=by
 have U:=zaa hown;have HL:=zaa hl;have r:=zaa hbd;have R:=zaa hw0;have A1:(l.length:Int)≤255:=by omega
 have A0:(0:Int)≤(l.length:Int):=by omega
 clear hown hl hbd hw0;go_enter func107,ntmps107;go_wp2_with (at_builtin;refine zd6 rfl _ _ rfl base v s (zeq l.length) rfl (U.o.alloc _) ⟨w.heap.size,0,none⟩ 1 rfl rfl ?qc2 ?qc4 (by decide) ?qc6 ?_)
 case qc2=>
  intro j u A;rw[zcu _ (by omega)]at A
  match j,A with
  |0,A=>simp at A;subst A;simp[go_sem]
 case qc4=>omega
 case qc6=>first|omega|(simp;omega)
 intro v1 w1 C L;have X:Below base w w1:=((Below.refl _ _).alloc hbase _).grown L (by simp;omega) (fun k J=>(U.o.lt k J).1);have K:=zaa C;clear C L;obtain⟨F,E⟩:∃F,F=s++zeq l.length:=⟨_,rfl⟩;have Z:F.size≤1001:=by rw[E,ByteArray.size_append];show s.size+1≤1001;omega
 have HZ:=zaa Z;rw[←E]at K;have S:=zaa E;clear Z E;go_wp2
 go_loopw [0,15] (fun v i wr=>∃k:Nat,k≤l.length∧i=.int .i64 k∧Hid (OwnB wr base v (zgx F (l.take k)))∧Below base w wr) (fun _ i _=>l.length - (intOf i).toNat)
 case atStart=>exact⟨0,Nat.zero_le _,rfl,K,X⟩
 case round=>
  obtain⟨k,J,rfl,hown,B⟩:=hrel;have Y:base≤wr.heap.size:=by have:=B.size;omega
  obtain⟨t,I⟩:∃t,t=zgx F (l.take k):=⟨_,rfl⟩;have A5:t.size≤1021:=by rw[I,zm6,List.length_take];have:=HZ.o;omega
  rw[←I]at hown;have M:=zaa I;clear I;by_cases hlt:k<l.length
  ·obtain⟨b,off,rfl,hb,q⟩:=HL.o.resolve_left (by intro e;rw[e]at hlt;simp at hlt);obtain⟨x,O⟩:∃x,x=l.getD k 0:=⟨_,rfl⟩;have d:=zac (R.o.trans (B.mono h0)) hb (q k hlt);rw[←O]at d;have h:Hid (l[k]?=some x):=by rw[O];exact zce _ _ _ hlt
   have p:=r.o x (List.mem_of_getElem? h.o);have HN:Hid (zgx F (l.take (k+1))=t++zeq x.toNat):=by rw[Hid,M.o,List.take_add_one,h.o];exact zvz _ _ _
   have A2:(k:Int)<(l.length:Int):=by omega
   clear O q;obtain⟨Q,rfl⟩:=Int.eq_ofNat_of_zero_le p.1;have A4:(Q:Int)≤255:=by omega
   have A3:(0:Int)≤(Q:Int):=by omega
   go_wp2_with (at_builtin;refine zd6 rfl _ _ rfl base _ t (zeq Q) rfl (hown.o.alloc _) ⟨wr.heap.size,0,none⟩ 1 rfl rfl ?qc2 ?qc4 (by decide) ?qc6 ?_)
   case qc2=>
    intro j u A;rw[zcu _ (by omega)]at A
    match j,A with
    |0,A=>simp at A;subst A;simp[go_sem]
   case qc4=>omega
   case qc6=>first|omega|(simp;omega)
   intro v4 z D N;have m:Below base w z:=(B.alloc Y _).grown N (by simp;omega) (fun k J=>(hown.o.lt k J).1);have n:=zaa D;clear D N hown B;go_wp2
   go_roundw
   case rel=>exact⟨k+1,by omega,by go_num,by rw[HN.o,Int.toNat_natCast];exact n,m⟩
   case measure=>simp[intOf];omega
  ·have e:l.take k=l:=List.take_of_length_le (by omega);have y:Hid (zgx (s++zeq l.length) l=t):=by rw[Hid,M.o,e,S.o]
   clear e;go_wp2;go_ret;exact⟨_,rfl,by rw[y.o];exact hown.o,B⟩
theorem zv0(n:Nat)(h:n<256)(f:Bool):cellsB (zeq n++(if f then(⟨#[1]⟩:ByteArray) else⟨#[0]⟩))=[.int .u8 (n:Int),.int .u8 (if f then 1 else 0)]:=by
 rw[zdu,zcu n h];cases f<;>rfl
theorem zsl(base:Nat)(v:Value)(s:ByteArray)(a:Option Addr)(c:Nat)(l:List (Int×Bool))(w w0:World)(hown:OwnB w base v s)(hl:SegT w0 a l)(hw0:Below w0.heap.size w0 w)(h0:w0.heap.size≤base)(hbase:base≤w.heap.size)
  (hs:s.size≤1000) (h20:l.length≤10) (hbd:∀x∈l,0≤x.1∧x.1≤11):
  Calls prog 106 #[v,.slice a l.length c] w fun e w'=>∃v2,e=.returned v2∧OwnB w' base v2 (zgw (s++zeq l.length) l)∧Below base w w':=by
 have q:=zaa hown;have HL:=zaa hl;have A2:=zaa hbd;have O:=zaa hw0;have A4:(l.length:Int)≤255:=by omega
 have A3:(0:Int)≤(l.length:Int):=by omega
 clear hown hl hbd hw0;go_enter func106,ntmps106;go_wp2_with (at_builtin;refine zd6 rfl _ _ rfl base v s (zeq l.length) rfl (q.o.alloc _) ⟨w.heap.size,0,none⟩ 1 rfl rfl ?qc2 ?qc4 (by decide) ?qc6 ?_)
 case qc2=>
  intro j u A;rw[zcu _ (by omega)]at A
  match j,A with
  |0,A=>simp at A;subst A;simp[go_sem]
 case qc4=>omega
 case qc6=>first|omega|(simp;omega)
 intro v1 w1 C R;have r:Below base w w1:=((Below.refl _ _).alloc hbase _).grown R (by simp;omega) (fun k N=>(q.o.lt k N).1);have Q:=zaa C;clear C R;obtain⟨I,E⟩:∃I,I=s++zeq l.length:=⟨_,rfl⟩;have z:I.size≤1001:=by rw[E,ByteArray.size_append];show s.size+1≤1001;omega
 have HZ:=zaa z;rw[←E]at Q;have n:=zaa E;clear z E;go_wp2
 go_loopw [0,16] (fun v i wr=>∃k:Nat,k≤l.length∧i=.int .i64 k∧Hid (OwnB wr base v (zgw I (l.take k)))∧Below base w wr) (fun _ i _=>l.length - (intOf i).toNat)
 case atStart=>exact⟨0,Nat.zero_le _,rfl,Q,r⟩
 case round=>
  obtain⟨k,N,rfl,hown,B⟩:=hrel;have y:base≤wr.heap.size:=by have:=B.size;omega
  obtain⟨t,M⟩:∃t,t=zgw I (l.take k):=⟨_,rfl⟩;have A8:t.size≤1021:=by rw[M,zm5,List.length_take];have:=HZ.o;omega
  rw[←M]at hown;have S:=zaa M;clear M;by_cases hlt:k<l.length
  ·obtain⟨b,off,rfl,hb,h⟩:=HL.o.resolve_left (by intro e;rw[e]at hlt;simp at hlt);obtain⟨x,Z⟩:∃x,x=l.getD k (0,false):=⟨_,rfl⟩;have X:=zac (O.o.trans (B.mono h0)) hb (h k hlt).1;have L:=zac (O.o.trans (B.mono h0)) hb (h k hlt).2;rw[←Z]at X L;have HX:Hid (l[k]?=some x):=by rw[Z];exact zce _ _ _ hlt
   have Y:=A2.o x (List.mem_of_getElem? HX.o);have d:Hid (zgw I (l.take (k+1))=t++(zeq x.1.toNat++(if x.2 then(⟨#[1]⟩:ByteArray) else⟨#[0]⟩))):=by rw[Hid,S.o,List.take_add_one,HX.o,←ByteArray.append_assoc];exact zvy _ _ _
   have A5:(k:Int)<(l.length:Int):=by omega
   clear Z h;obtain⟨xi,f⟩:=x;dsimp only at Y X L d;obtain⟨K,rfl⟩:=Int.eq_ofNat_of_zero_le Y.1;have A7:(K:Int)≤255:=by omega
   have A6:(0:Int)≤(K:Int):=by omega
   obtain⟨J,F⟩:∃J,J=zeq K++(if f then(⟨#[1]⟩:ByteArray) else⟨#[0]⟩):=⟨_,rfl⟩;have p:Hid (cellsB J=[.int .u8 (K:Int),.int .u8 (if f then 1 else 0)]):=by rw[F];exact zv0 K (by omega) f
   have m:Hid (J.size=2):=by rw[F];cases f<;>rfl
   rw[Int.toNat_natCast,←F]at d;clear F;cases f
   all_goals
    go_wp2_with (at_builtin;refine zd6 rfl _ _ rfl base _ t J rfl ((hown.o.alloc _).alloc _) ⟨wr.heap.size+1,0,none⟩ 2 rfl m.o ?qc2 ?qc4 (by decide) ?qc6 ?_)
    case qc2=>
     intro j u A;rw[p.o]at A
     match j,A with
     |0,A=>simp at A;subst A;simp[go_sem]
     |1,A=>simp at A;subst A;simp[go_sem]
    case qc4=>omega
    case qc6=>first|omega|(simp;omega)
    intro v4 w4 D U;have A0:Below base w w4:=((B.alloc y _).alloc (by simp;omega) _).grown U (by simp;omega) (fun k N=>(hown.o.lt k N).1);have A1:=zaa D;clear D U hown B;go_wp2
    go_roundw
    case rel=>exact⟨k+1,by omega,by go_num,by rw[d.o];exact A1,A0⟩
    case measure=>simp[intOf];omega
  ·have e:l.take k=l:=List.take_of_length_le (by omega);have HF:Hid (zgw (s++zeq l.length) l=t):=by rw[Hid,S.o,e,n.o]
   clear e;go_wp2;go_ret;exact⟨_,rfl,by rw[HF.o];exact hown.o,B⟩
