/- -/
import Derived.Test.YtjnpndfpajjihacGreatSGood
import Derived.Test.YtjnpndfpajjihacGreatFitOwn
namespace Go.Proofs.YtjnpndfpajjihacGreat
set_option maxRecDepth 100000
set_option maxHeartbeats 40000000
open Go.RowKit
def cellsB (s:ByteArray):List Value:=s.data.toList.map z31
theorem zin (s:ByteArray):(cellsB s).length=s.size*1:=by
 have:s.data.toList.length=s.size:=rfl;simp[cellsB]
theorem zdm (s t:ByteArray):cellsB (s++t)=cellsB s++cellsB t:=by simp[cellsB,ByteArray.data_append]
theorem zcl (n:Nat)(h:n<256):cellsB (zd8 n)=[.int .u8 (n:Int)]:=by
 have:(UInt8.ofNat n).toNat=n:=by simp;omega
 simp[cellsB,zd8,z31];omega
theorem zjw {s:ByteArray}:∀u∈cellsB s,u.oneCell'=true:=by
 intro u hu;obtain⟨b,_,rfl⟩:=List.mem_map.1 hu;rfl
theorem z32:(Tryz.prog.info? 5).map (fun i=>(i.zero,i.size,i.bytes))=some (some (.int .u8 0),1,1):=by kernel_rfl
def OwnB (w:World)(base:Nat)(v:Value)(s:ByteArray):Prop:=w.ownsRow base 5 1 v s.size (cellsB s)
theorem OwnB.more {w:World}{base:Nat}{v:Value}{s t:ByteArray}{n:Nat}(hn:n=s.size+t.size)(h:w.ownsRow base 5 1 v n (cellsB s++cellsB t)):OwnB w base v (s++t):=by
 rw[OwnB,ByteArray.size_append,zdm,←hn];exact h
theorem zko {w:World}{base:Nat}{v:Value}{s:ByteArray}(h:OwnB w base v s)(h0:0<s.size):(convert 139 9 v).run Tryz.prog w=.ok (.string s) w:=by
 rcases h.2 with⟨_,h1⟩|⟨g,cap,cur,rfl,hb,hg,rest⟩
 ·omega
 ·refine(run_convert_bytes_back (P:=Tryz.prog) w 139 9 5 ⟨g,0,none⟩ cap s.data.toList Tryz.underlying139 Tryz.underlying5 Tryz.underlying9 (fun j hj=>?_))
  have hj':j<s.size:=hj;rw[Addr.add_lit,Nat.zero_add,World.ownsRow.cellAt h j (by omega),cellsB,List.getElem?_map,List.getElem?_eq_getElem hj];rfl
theorem zdy {w:World}{ops:Array Oper}{rest:List Oper}{o:Oper}{a:Act}{Q:Exit→Act→World→Prop}(hgd:o.guard=none)(s x:Operand)
  (ho:o.op=.call {callee:=.builtin .append,args:=#[s,x],argTypes:=#[139,139]})
  (base:Nat) (v:Value) (t nw:ByteArray) (hs:a.eval s=v) (hown:OwnB w base v t) (ad:Addr) (m:Nat) (hx:a.eval x=.slice (some ad) m m) (hm:nw.size=m)
  (hnews:∀j u,(cellsB nw)[j]?=some u→w.cell? (ad.add j)=some u) (h63:t.size≤2000) (hm':m≤100) (hbase:base≤w.heap.size)
  (h:∀v' w',OwnB w' base v' (t++nw)→w.grownBy w' v.ownBlock→wpList Tryz.prog ops Q rest (a.put o.dst v') w'):wpList Tryz.prog ops Q (o::rest) a w:=by
 obtain⟨i0,hi,hz0,hz1,hz2⟩:=info_parts z32;refine wpList_append_own w hgd s x 139 ho base 5 i0 (.int .u8 0) 1 1 Tryz.underlying139 hi hz0 hz1 hz2 rfl (by decide) v t.size (cellsB t) hs hown ad m m (cellsB nw) hx (by rw[zin,hm]) hnews zjw (by unfold maxLen;omega) (by omega) hbase ?_;intro v' w' h1 h2 _;exact h v' w' (OwnB.more (by rw[hm]) h1) h2
theorem zn4 (base:Nat)(v:Value)(s:ByteArray)(a:Option Addr)(c:Nat)(l:List Int)(w w0:World)(hown:OwnB w base v s)(hl:SegI w0 a l)(hw0:Below w0.heap.size w0 w)(h0:w0.heap.size≤base)(hbase:base≤w.heap.size)
  (hs:s.size≤1000) (h20:l.length≤20) (hbd:∀x∈l,0≤x∧x≤11):
  Calls Tryz.prog 107 #[v,.slice a l.length c] w fun e w'=>∃v2,e=.returned v2∧OwnB w' base v2 (zgg (s++zd8 l.length) l)∧Below base w w':=by
 have HO:=zaa hown;have HL:=zaa hl;have HBD:=zaa hbd;have HW0:=zaa hw0;have h255:(l.length:Int)≤255:=by omega
 have h255':(0:Int)≤(l.length:Int):=by omega
 clear hown hl hbd hw0;go_enter Tryz.func107,Tryz.ntmps107;go_wp2_with (at_builtin;refine zdy rfl _ _ rfl base v s (zd8 l.length) rfl (HO.o.alloc _) ⟨w.heap.size,0,none⟩ 1 rfl rfl ?qc2 ?qc4 (by decide) ?qc6 ?_)
 case qc2=>
  intro j u hj;rw[zcl _ (by omega)] at hj
  match j,hj with
  |0,hj=>simp at hj;subst hj;simp[go_sem]
 case qc4=>omega
 case qc6=>first|omega|(simp;omega)
 intro v1 w1 hown1 hg1;have hb1:Below base w w1:=((Below.refl _ _).alloc hbase _).grown hg1 (by simp;omega) (fun k hk=>(HO.o.lt k hk).1);have HO1:=zaa hown1;clear hown1 hg1;obtain⟨s0,hs0⟩:∃s0,s0=s++zd8 l.length:=⟨_,rfl⟩;have hz:s0.size≤1001:=by rw[hs0,ByteArray.size_append];show s.size+1≤1001;omega
 have HZ:=zaa hz;rw[←hs0] at HO1;have HS0:=zaa hs0;clear hz hs0;go_wp2
 go_loopw [0,15] (fun v i wr=>∃k:Nat,k≤l.length∧i=.int .i64 k∧Hid (OwnB wr base v (zgg s0 (l.take k)))∧Below base w wr) (fun _ i _=>l.length - (intOf i).toNat)
 case atStart=>exact⟨0,Nat.zero_le _,rfl,HO1,hb1⟩
 case round=>
  obtain⟨k,hk,rfl,hown,hbr⟩:=hrel;have hsr:base≤wr.heap.size:=by have:=hbr.size;omega
  obtain⟨t,ht⟩:∃t,t=zgg s0 (l.take k):=⟨_,rfl⟩;have htz:t.size≤1021:=by rw[ht,zm0,List.length_take];have:=HZ.o;omega
  rw[←ht] at hown;have HTT:=zaa ht;clear ht;by_cases hlt:k<l.length
  ·obtain⟨b,off,rfl,hb,hc⟩:=HL.o.resolve_left (by intro e;rw[e] at hlt;simp at hlt)
   obtain⟨x,hx⟩:∃x,x=l.getD k 0:=⟨_,rfl⟩;have hck:=zac (HW0.o.trans (hbr.mono h0)) hb (hc k hlt);rw[←hx] at hck;have HX:Hid (l[k]?=some x):=by rw[hx];exact zcb _ _ _ hlt
   have hbx:=HBD.o x (List.mem_of_getElem? HX.o);have HN:Hid (zgg s0 (l.take (k+1))=t++zd8 x.toNat):=by rw[Hid,HTT.o,List.take_add_one,HX.o];exact zu8 _ _ _
   have hlt':(k:Int)<(l.length:Int):=by omega
   clear hx hc;obtain⟨xn,rfl⟩:=Int.eq_ofNat_of_zero_le hbx.1;have hx1:(xn:Int)≤255:=by omega
   have hx0:(0:Int)≤(xn:Int):=by omega
   go_wp2_with (at_builtin;refine zdy rfl _ _ rfl base _ t (zd8 xn) rfl (hown.o.alloc _) ⟨wr.heap.size,0,none⟩ 1 rfl rfl ?qc2 ?qc4 (by decide) ?qc6 ?_)
   case qc2=>
    intro j u hj;rw[zcl _ (by omega)] at hj
    match j,hj with
    |0,hj=>simp at hj;subst hj;simp[go_sem]
   case qc4=>omega
   case qc6=>first|omega|(simp;omega)
   intro v4 w4 hown4 hg4;have hb4:Below base w w4:=(hbr.alloc hsr _).grown hg4 (by simp;omega) (fun k hk=>(hown.o.lt k hk).1);have HO4:=zaa hown4;clear hown4 hg4 hown hbr;go_wp2
   go_roundw
   case rel=>exact⟨k+1,by omega,by go_num,by rw[HN.o,Int.toNat_natCast];exact HO4,hb4⟩
   case measure=>simp[intOf];omega
  ·have e:l.take k=l:=List.take_of_length_le (by omega)
   have HF:Hid (zgg (s++zd8 l.length) l=t):=by rw[Hid,HTT.o,e,HS0.o]
   clear e;go_wp2;go_ret;exact⟨_,rfl,by rw[HF.o];exact hown.o,hbr⟩
theorem zu9 (n:Nat)(h:n<256)(f:Bool):cellsB (zd8 n++(if f then(⟨#[1]⟩:ByteArray) else⟨#[0]⟩))=[.int .u8 (n:Int),.int .u8 (if f then 1 else 0)]:=by
 rw[zdm,zcl n h];cases f<;>rfl
theorem zr3 (base:Nat)(v:Value)(s:ByteArray)(a:Option Addr)(c:Nat)(l:List (Int×Bool))(w w0:World)(hown:OwnB w base v s)(hl:SegT w0 a l)(hw0:Below w0.heap.size w0 w)(h0:w0.heap.size≤base)(hbase:base≤w.heap.size)
  (hs:s.size≤1000) (h20:l.length≤10) (hbd:∀x∈l,0≤x.1∧x.1≤11):
  Calls Tryz.prog 106 #[v,.slice a l.length c] w fun e w'=>∃v2,e=.returned v2∧OwnB w' base v2 (zgf (s++zd8 l.length) l)∧Below base w w':=by
 have HO:=zaa hown;have HL:=zaa hl;have HBD:=zaa hbd;have HW0:=zaa hw0;have h255:(l.length:Int)≤255:=by omega
 have h255':(0:Int)≤(l.length:Int):=by omega
 clear hown hl hbd hw0;go_enter Tryz.func106,Tryz.ntmps106;go_wp2_with (at_builtin;refine zdy rfl _ _ rfl base v s (zd8 l.length) rfl (HO.o.alloc _) ⟨w.heap.size,0,none⟩ 1 rfl rfl ?qc2 ?qc4 (by decide) ?qc6 ?_)
 case qc2=>
  intro j u hj;rw[zcl _ (by omega)] at hj
  match j,hj with
  |0,hj=>simp at hj;subst hj;simp[go_sem]
 case qc4=>omega
 case qc6=>first|omega|(simp;omega)
 intro v1 w1 hown1 hg1;have hb1:Below base w w1:=((Below.refl _ _).alloc hbase _).grown hg1 (by simp;omega) (fun k hk=>(HO.o.lt k hk).1);have HO1:=zaa hown1;clear hown1 hg1;obtain⟨s0,hs0⟩:∃s0,s0=s++zd8 l.length:=⟨_,rfl⟩;have hz:s0.size≤1001:=by rw[hs0,ByteArray.size_append];show s.size+1≤1001;omega
 have HZ:=zaa hz;rw[←hs0] at HO1;have HS0:=zaa hs0;clear hz hs0;go_wp2
 go_loopw [0,16] (fun v i wr=>∃k:Nat,k≤l.length∧i=.int .i64 k∧Hid (OwnB wr base v (zgf s0 (l.take k)))∧Below base w wr) (fun _ i _=>l.length - (intOf i).toNat)
 case atStart=>exact⟨0,Nat.zero_le _,rfl,HO1,hb1⟩
 case round=>
  obtain⟨k,hk,rfl,hown,hbr⟩:=hrel;have hsr:base≤wr.heap.size:=by have:=hbr.size;omega
  obtain⟨t,ht⟩:∃t,t=zgf s0 (l.take k):=⟨_,rfl⟩;have htz:t.size≤1021:=by rw[ht,zmz,List.length_take];have:=HZ.o;omega
  rw[←ht] at hown;have HTT:=zaa ht;clear ht;by_cases hlt:k<l.length
  ·obtain⟨b,off,rfl,hb,hc⟩:=HL.o.resolve_left (by intro e;rw[e] at hlt;simp at hlt)
   obtain⟨x,hx⟩:∃x,x=l.getD k (0,false):=⟨_,rfl⟩;have hck:=zac (HW0.o.trans (hbr.mono h0)) hb (hc k hlt).1;have hck2:=zac (HW0.o.trans (hbr.mono h0)) hb (hc k hlt).2;rw[←hx] at hck hck2;have HX:Hid (l[k]?=some x):=by rw[hx];exact zcb _ _ _ hlt
   have hbx:=HBD.o x (List.mem_of_getElem? HX.o);have HN:Hid (zgf s0 (l.take (k+1))=t++(zd8 x.1.toNat++(if x.2 then(⟨#[1]⟩:ByteArray) else⟨#[0]⟩))):=by rw[Hid,HTT.o,List.take_add_one,HX.o,←ByteArray.append_assoc];exact zu7 _ _ _
   have hlt':(k:Int)<(l.length:Int):=by omega
   clear hx hc;obtain⟨xi,f⟩:=x;dsimp only at hbx hck hck2 HN;obtain⟨xn,rfl⟩:=Int.eq_ofNat_of_zero_le hbx.1;have hx1:(xn:Int)≤255:=by omega
   have hx0:(0:Int)≤(xn:Int):=by omega
   obtain⟨nw,hnw⟩:∃nw,nw=zd8 xn++(if f then(⟨#[1]⟩:ByteArray) else⟨#[0]⟩):=⟨_,rfl⟩;have HNC:Hid (cellsB nw=[.int .u8 (xn:Int),.int .u8 (if f then 1 else 0)]):=by rw[hnw];exact zu9 xn (by omega) f
   have HNZ:Hid (nw.size=2):=by rw[hnw];cases f<;>rfl
   rw[Int.toNat_natCast,←hnw] at HN;clear hnw;cases f
   all_goals
    go_wp2_with (at_builtin;refine zdy rfl _ _ rfl base _ t nw rfl ((hown.o.alloc _).alloc _) ⟨wr.heap.size+1,0,none⟩ 2 rfl HNZ.o ?qc2 ?qc4 (by decide) ?qc6 ?_)
    case qc2=>
     intro j u hj;rw[HNC.o] at hj
     match j,hj with
     |0,hj=>simp at hj;subst hj;simp[go_sem]
     |1,hj=>simp at hj;subst hj;simp[go_sem]
    case qc4=>omega
    case qc6=>first|omega|(simp;omega)
    intro v4 w4 hown4 hg4;have hb4:Below base w w4:=((hbr.alloc hsr _).alloc (by simp;omega) _).grown hg4 (by simp;omega) (fun k hk=>(hown.o.lt k hk).1);have HO4:=zaa hown4;clear hown4 hg4 hown hbr;go_wp2
    go_roundw
    case rel=>exact⟨k+1,by omega,by go_num,by rw[HN.o];exact HO4,hb4⟩
    case measure=>simp[intOf];omega
  ·have e:l.take k=l:=List.take_of_length_le (by omega)
   have HF:Hid (zgf (s++zd8 l.length) l=t):=by rw[Hid,HTT.o,e,HS0.o]
   clear e;go_wp2;go_ret;exact⟨_,rfl,by rw[HF.o];exact hown.o,hbr⟩
end Go.Proofs.YtjnpndfpajjihacGreat

