/- -/
import Derived.Test.YtjnpndfpajjihacGreatGrTopMemory15
import Derived.Test.YtjnpndfpajjihacGreatGrTopMemory16
import Derived.Deep.RegionHeldLaw
namespace Go.Proofs.YtjnpndfpajjihacGreat
set_option maxRecDepth 100000
set_option maxHeartbeats 40000000
open Go.RowKit
theorem zxx {d:Dk}(hg:za1 d=true)(n:Int):(zal d n).size≤32:=by
 have key:∀(l:List (Int×ByteArray)) (z:ByteArray),z.size≤32→(∀x∈l,x.2.size≤32)→(zd4 n z l).size≤32:=by
  intro l
  induction l with
  |nil=>intro z hz _;exact hz
  |cons x r ih=>
   intro z hz hl;rw[zd4];refine ih _ ?_ (fun y hy=>hl y (by simp[hy]));split
   ·exact hl x (by simp)
   ·exact hz
 have hg2:=hg;simp only[za1,Bool.and_eq_true,List.all_eq_true] at hg2;unfold zal;split
 ·refine key _ _ ?_ (fun x hx=>?_)
  ·by_cases h:n.toNat<d.safe.length
   ·have hm:d.safe.getD n.toNat ByteArray.empty∈d.safe:=by rw[List.getD,List.getElem?_eq_getElem h];exact List.getElem_mem h
    have h2:=hg2.1.2 _ hm;unfold za9 at h2;have h3:=beq_iff_eq.1 h2;omega
   ·rw[List.getD,List.getElem?_eq_none (by omega)];exact Nat.zero_le _
  ·have h2:=hg2.2 x hx
   unfold wrB za9 at h2;have h3:=beq_iff_eq.1 (Bool.and_eq_true_iff.1 h2).2;omega
 ·exact Nat.zero_le _
theorem z07 {d:Dk}(hg:za1 d=true)(p0 i:Nat):((logOf d p0).getD i ByteArray.empty).size≤maxLen:=by
 by_cases h:i<24
 ·rw[zio d p0 i h]
  have:(zal d (1+((p0:Int)+(i:Int))%24)).size≤32:=zxx hg _;unfold maxLen;omega
 ·rw[List.getD,List.getElem?_eq_none (by rw[za6];omega)]
  exact Nat.zero_le _
def z43 (w w':World)(R:Nat)(a:Option Addr)(c:Nat)(a':Option Addr)(c':Nat)(d:Dk)(p0 i:Nat)(l:List (Int×Bool))(v:Value)(b:Bool):Prop:=
 But R w.heap.size w w'∧if i+l.length≤24 then b=true∧w'.ownsRow w.heap.size 84 2 v l.length (cellsC (copiesAt (logOf d p0) i l))∧Rd w' R a c a' c' d p0 (i+l.length) else b=false∧v=.slice none 0 0
theorem zvc {w:World}{ops:Array Oper}{o:Oper}{a:Act}{K:Act→World→Prop}{Q:Exit→Act→World→Prop}{E:Prop}(hgd:o.guard=none)(s x:Operand)
  (ho:o.op=.call {callee:=.builtin .append,args:=#[s,x],argTypes:=#[34,34]})
  (base:Nat) (v:Value) (l:List (Int×ByteArray)) (hs:a.eval s=v) (hown:w.ownsRow base 84 2 v l.length (cellsC l)) (b:Nat) (y:Int×ByteArray) (hx:a.eval x=.slice (some ⟨b,0,none⟩) 1 1)
  (h0:w.cell? ⟨b,0,none⟩=some (.int .i64 y.1)) (h1:w.cell? ⟨b,1,none⟩=some (.string y.2)) (h63:l.length≤1000) (hbase:base≤w.heap.size)
  (h:∀v' w',Hid (w'.ownsRow base 84 2 v' (l++[y]).length (cellsC (l++[y])))→w.grownBy w' v.ownBlock→K (a.put o.dst v') w'):if Region.wanted o (yielded ops a.tmps)=true then Oper.wp Tryz.prog o a w K Q else E:=by
 obtain⟨i0,hi,hz0,hz1,hz2⟩:=info_parts zuv;refine zt2 hgd s x 34 ho 84 i0 (.agg #[.int .i64 0,.string ⟨#[]⟩]) 2 24 Tryz.underlying34 hi hz0 hz1 hz2 rfl (by decide) base v l.length (cellsC l) hs hown ⟨b,0,none⟩ (cellsC [y]) hx rfl ?_ (zg4 _) h63 (by omega) hbase ?_
 ·intro j u hj
  rw[Addr.add_lit,Nat.zero_add]
  match j,hj with
  |0,hj=>simp[cellsC] at hj;subst hj;exact h0
  |1,hj=>simp[cellsC] at hj;subst hj;exact h1
  |j+2,hj=>simp[cellsC] at hj
 intro v' w' k1 k2;refine h v' w' ?_ k2;rw[Hid,zdk,List.length_append];exact k1
theorem But.grown {R base:Nat}{w w1 w2:World}{row:Option Nat}(h:But R base w w1)(hg:w1.grownBy w2 row)(hr:∀k,row=some k→base≤k)(hb:base≤w1.heap.size):But R base w w2:=
 ⟨hg.os.trans h.os,hg.tape.trans h.tape,hg.output.trans h.output,Nat.le_trans h.size hg.size,fun k hk hn=>(hg.block k (by omega) (fun e=>by have:=hr k e.symm;omega)).trans (h.block k hk hn)⟩
theorem Rd.grown {w w':World}{R:Nat}{a:Option Addr}{c:Nat}{a':Option Addr}{c':Nat}{d:Dk}{p0 i:Nat}{row:Option Nat}(h:Rd w R a c a' c' d p0 i)(hg:w.grownBy w' row)(hr:∀k,row=some k→R<k):Rd w' R a c a' c' d p0 i:=
 (hg.block R h.lt (fun e=>by have:=hr R e.symm;omega)).trans h
theorem zvd {w:World}{ops:Array Oper}{o:Oper}{a:Act}{K:Act→World→Prop}{Q:Exit→Act→World→Prop}{E:Prop}(hgd:o.guard=none)(x y:Operand)
  (ho:o.op=.call {callee:=.value (.func 191),args:=#[x,y],argTypes:=#[9,4]}) (s:ByteArray) (f:Bool) (hx:a.eval x=.string s) (hy:a.eval y=.bool f) (hn:s.size≤maxLen)
  (h:K (a.put o.dst (.string (zew s f))) w):if Region.wanted o (yielded ops a.tmps)=true then Oper.wp Tryz.prog o a w K Q else E:=by
 have hw:Region.wanted o (yielded ops a.tmps)=true:=by simp[Region.wanted,hgd]
 rw[if_pos hw];have hf:a.eval (.func 191)=.func (.func 191) #[] #[]:=rfl;unfold Oper.wp;simp[execOp,ho,resolve,invoke,hf,hx,hy,Result.andThen];refine(zji s f w hn).mono ?_;rintro e w' ⟨rfl,rfl⟩;exact h
theorem zr6 (R:Nat)(a:Option Addr)(c:Nat)(a':Option Addr)(c':Nat)(d:Dk)(p0 i:Nat)(ta:Option Addr)(tc:Nat)(l:List (Int×Bool))(w w0:World)(hR:Rd w R a c a' c' d p0 i)(hi:i≤24)(hD:IsDk w0 (.agg #[.slice a d.safe.length c,.slice a' d.wr.length c']) d)(hg:za1 d=true)(hb:Below w0.heap.size w0 w)(hR0:w0.heap.size≤R)
  (hT:SegT w ta l) (hTR:∀b off,ta=some ⟨b,off,none⟩→b≠R):
  Calls Tryz.prog 145 #[.pointer (some ⟨R,0,none⟩),.slice ta l.length tc] w fun e w'=>∃v b,e=.returned (.tuple #[v,.bool b])∧z43 w w' R a c a' c' d p0 i l v b:=by
 have hRl:=hR.lt;have HD:=zaa hD;have HBW:=zaa hb;have HT:=zaa hT;have HTR:=zaa hTR;have HR:=zaa hR;clear hD hb hT hR hTR;go_enter Tryz.func145,Tryz.ntmps145;go_wp2
 go_loopw [6,13] (fun v j wr=>∃k:Nat,k≤l.length∧i+k≤24∧j=.int .i64 k∧Hid (wr.ownsRow w.heap.size 84 2 v (copiesAt (logOf d p0) i (l.take k)).length (cellsC (copiesAt (logOf d p0) i (l.take k))))∧Hid (Rd wr R a c a' c' d p0 (i+k))∧Hid (But R w.heap.size w wr)) (fun _ j _=>l.length - (intOf j).toNat)
 case atStart=>exact⟨0,Nat.zero_le _,by omega,rfl,World.ownsRow_nil _ _ _ _,HR,But.of_below (Below.refl _ _)⟩
 case round=>
  obtain⟨k,hk,hik,rfl,hown,hRr,hbr⟩:=hrel;by_cases hlt:k<l.length
  ·obtain⟨b2,off,rfl,hb2,hc⟩:=HT.o.resolve_left (by intro e;rw[e] at hlt;simp at hlt)
   obtain⟨x,hx⟩:∃x,x=l.getD k (0,false):=⟨_,rfl⟩;obtain⟨g1,g2⟩:=hc k hlt;rw[←hx] at g1 g2;have hne:=HTR.o b2 off rfl
   replace g1:=hbr.o.cell hb2 hne g1
   replace g2:=hbr.o.cell hb2 hne g2
   have HX:Hid (l[k]?=some x):=by rw[hx];exact zcb _ _ _ hlt
   have HF:=zaa (zn5 HX.o (logOf d p0) i);have hq:(copiesAt (logOf d p0) i (l.take k)).length≤k:=by rw[zdo,List.length_take];omega
   have hlt':(k:Int)<(l.length:Int):=by omega
   clear hx hc HX;obtain⟨n,f⟩:=x;generalize copiesAt (logOf d p0) i (l.take k)=q at *;have hws:w.heap.size≤wr.heap.size:=hbr.o.size;by_cases hend:i+k=24
   ·rw[hend] at hRr
    go_wp2_with fail;refine(zpk R a c a' c' d p0 _ (hRr.o.below (zab _ _))).mono ?_;rintro e w1 ⟨rfl,rfl⟩;go_wp2;refine bodyPost_ret (v:=.tuple #[.slice none 0 0,.bool false]) (by simp[results,Tryz.results145,go_sem]) rfl ?_;refine⟨.slice none 0 0,false,rfl,hbr.o.trans (But.of_below (zab _ _)) hws,?_⟩;rw[if_neg (by omega)];exact⟨rfl,rfl⟩
   ·go_wp2_with fail
    refine(zm1 R a c a' c' d p0 (i+k) _ w0 (hRr.o.below (zab _ _)) (by omega) HD.o hg (zae (hbr.o.below HBW.o HBW.o.size hR0) (zab _ _))).mono ?_;rintro e w1 ⟨rfl,hR1,hb1⟩;rw[zm2 d p0 (i+k) (by omega)];have hsz:((logOf d p0).getD (i+k) ByteArray.empty).size≤maxLen:=z07 hg p0 (i+k);obtain⟨s,hs⟩:∃s,s=(logOf d p0).getD (i+k) ByteArray.empty:=⟨_,rfl⟩;rw[←hs] at hsz HF⊢;have HSZ:=zaa hsz;have HR1:=zaa hR1;have hs1:wr.heap.size+1≤w1.heap.size:=by have:=hb1.size;simpa using this
    have K8:Hid (w1.heap[wr.heap.size]?=some (.cells #[.int .i64 n,.bool f] 202 (0,0))):=(hb1.block _ (by simp) (by omega)).trans (heap_alloc_new wr _);have HB1:Hid (But R w.heap.size w w1):=(hbr.o.trans (But.of_below (zab _ _)) hws).trans hb1 (by simp;omega);have HO1:Hid (w1.ownsRow w.heap.size 84 2 _ q.length (cellsC q)):=zd7 (zah hown.o (zab _ _)) hb1 hRl;obtain⟨⟨y0,y1⟩,_⟩:=zfl K8.o;clear hs hsz hR1 hb1 hown hRr hbr g1 g2;obtain⟨va,vc,hv,_,_⟩:=SegC.of_owns HO1.o;subst hv;go_wp2
    go_region_law (first
     |(refine zvc rfl (.tmp 24) (.tmp 32) rfl w.heap.size _ q (by simp[Act.eval]) (zah HO1.o (zae ((Below.refl _ _).drew) (zab _ _))) w1.heap.size (n,zew s f) (by simp[Act.eval]) (by simp[go_sem]) (by simp[go_sem]) (by omega) (by simp;omega) ?_;intro v3 w3 HO3 hg3)
     |(refine zvd rfl (.tmp 27) (.tmp 29) rfl s f (by simp[Act.eval]) (by simp[Act.eval]) HSZ.o ?_))
    all_goals
     have hB2:Below w1.heap.size w1 _:=zae ((Below.refl _ _).drew) (zab _ (.cells #[.int .i64 n,.string (zew s f)] 84 (0,0)));have hob:∀k,(Value.slice va q.length vc).ownBlock=some k→w.heap.size≤k:=fun k hk=>(HO1.o.lt k hk).1;have HB3:Hid (But R w.heap.size w w3):=(HB1.o.trans (But.of_below hB2) (by omega)).grown hg3 hob (Nat.le_trans (by omega) hB2.size);have HR3:Hid (Rd w3 R a c a' c' d p0 (i+(k+1))):=(HR1.o.below hB2).grown hg3 (fun j hj=>Nat.lt_of_lt_of_le hRl (hob j hj));clear hg3 hB2 hob HO1 HB1 HR1 y0 y1;go_wp2
     go_roundw
     case rel=>exact⟨k+1,by omega,by omega,by go_num,by rw[HF.o];exact HO3,HR3,HB3⟩
     case measure=>simp[intOf];omega
  ·have e:k=l.length:=by omega
   subst e;rw[List.take_length] at hown;have HO:Hid (_):=hown.o;rw[zdo] at HO;obtain⟨va,vc,hv,_,_⟩:=SegC.of_owns hown.o;subst hv;clear hown;go_wp2;refine bodyPost_ret (v:=.tuple #[.slice va (copiesAt (logOf d p0) i l).length vc,.bool true]) (by simp[results,Tryz.results145,go_sem]) rfl ?_;refine⟨_,true,rfl,hbr.o,?_⟩;rw[if_pos hik];exact⟨rfl,HO.o,hRr.o⟩
end Go.Proofs.YtjnpndfpajjihacGreat

