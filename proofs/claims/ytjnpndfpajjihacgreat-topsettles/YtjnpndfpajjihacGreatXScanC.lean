/- -/
import Derived.Test.YtjnpndfpajjihacGreatGrTopSettles14
import Derived.Test.YtjnpndfpajjihacGreatGrTopSettles15
import Derived.Deep.RegionHeldLaw
namespace Go.Proofs.YtjnpndfpajjihacGreat
open Go.Proofs.Tryz
set_option maxRecDepth 100000
set_option maxHeartbeats 40000000
open Go.RowKit
theorem zym{d:Dk}(hg:za0 d=true)(n:Int):(zal d n).size≤32:=by
 have key:∀(l:List (Int×ByteArray)) (z:ByteArray),z.size≤32→(∀x∈l,x.2.size≤32)→(zem n z l).size≤32:=by
  intro l
  induction l with
  |nil=>intro z C _;exact C
  |cons x r ih=>
   intro z C D;rw[zem];refine ih _ ?_ (fun y hy=>D y (by simp[hy]));split
   ·exact D x (by simp)
   ·exact C
 have A:=hg;simp only[za0,Bool.and_eq_true,List.all_eq_true]at A;unfold zal;split
 ·refine key _ _ ?_ (fun x hx=>?_)
  ·by_cases h:n.toNat<d.safe.length
   ·have F:d.safe.getD n.toNat ByteArray.empty∈d.safe:=by rw[List.getD,List.getElem?_eq_getElem h];exact List.getElem_mem h
    have B:=A.1.2 _ F;unfold zba at B;have E:=beq_iff_eq.1 B;omega
   ·rw[List.getD,List.getElem?_eq_none (by omega)];exact Nat.zero_le _
  ·have B:=A.2 x hx;unfold wrB zba at B;have E:=beq_iff_eq.1 (Bool.and_eq_true_iff.1 B).2;omega
 ·exact Nat.zero_le _
theorem z11{d:Dk}(hg:za0 d=true)(p0 i:Nat):((logOf d p0).getD i ByteArray.empty).size≤maxLen:=by
 by_cases h:i<24
 ·rw[zi0 d p0 i h];have:(zal d (1+((p0:Int)+(i:Int))%24)).size≤32:=zym hg _;unfold maxLen;omega
 ·rw[List.getD,List.getElem?_eq_none (by rw[za4];omega)];exact Nat.zero_le _
def z50 (w w':World)(R:Nat)(a:Option Addr)(c:Nat)(a':Option Addr)(c':Nat)(d:Dk)(p0 i:Nat)(l:List (Int×Bool))(v:Value)(b:Bool):Prop:=
 But R w.heap.size w w'∧if i+l.length≤24 then b=true∧w'.ownsRow w.heap.size 84 2 v l.length (cellsC (copiesAt (logOf d p0) i l))∧Rd w' R a c a' c' d p0 (i+l.length) else b=false∧v=.slice none 0 0
theorem zv3{w:World}{ops:Array Oper}{o:Oper}{a:Act}{K:Act→World→Prop}{Q:Exit→Act→World→Prop}{E:Prop}(hgd:o.guard=none)(s x:Operand)
  (ho:o.op=.call {callee:=.builtin .append,args:=#[s,x],argTypes:=#[34,34]})
  (base:Nat) (v:Value) (l:List (Int×ByteArray)) (hs:a.eval s=v) (hown:w.ownsRow base 84 2 v l.length (cellsC l)) (b:Nat) (y:Int×ByteArray) (hx:a.eval x=.slice (some ⟨b,0,none⟩) 1 1)
  (h0:w.cell? ⟨b,0,none⟩=some (.int .i64 y.1)) (h1:w.cell? ⟨b,1,none⟩=some (.string y.2)) (h63:l.length≤1000) (hbase:base≤w.heap.size)
  (h:∀v' w',Hid (w'.ownsRow base 84 2 v' (l++[y]).length (cellsC (l++[y])))→w.grownBy w' v.ownBlock→K (a.put o.dst v') w'):if Region.wanted o (yielded ops a.tmps)=true then Oper.wp prog o a w K Q else E:=by
 obtain⟨I,L,D,B,C⟩:=info_parts zvl;refine zun hgd s x 34 ho 84 I (.agg #[.int .i64 0,.string ⟨#[]⟩]) 2 24 underlying34 L D B C rfl (by decide) base v l.length (cellsC l) hs hown ⟨b,0,none⟩ (cellsC [y]) hx rfl ?_ (zhm _) h63 (by omega) hbase ?_
 ·intro j u A;rw[Addr.add_lit,Nat.zero_add]
  match j,A with
  |0,A=>simp[cellsC]at A;subst A;exact h0
  |1,A=>simp[cellsC]at A;subst A;exact h1
  |j+2,A=>simp[cellsC]at A
 intro v' w' F J;refine h v' w' ?_ J;rw[Hid,zdr,List.length_append];exact F
theorem But.grown{R base:Nat}{w w1 w2:World}{row:Option Nat}(h:But R base w w1)(hg:w1.grownBy w2 row)(hr:∀k,row=some k→base≤k)(hb:base≤w1.heap.size):But R base w w2:=
 ⟨hg.os.trans h.os,hg.tape.trans h.tape,hg.output.trans h.output,Nat.le_trans h.size hg.size,fun k hk hn=>(hg.block k (by omega) (fun e=>by have:=hr k e.symm;omega)).trans (h.block k hk hn)⟩
theorem Rd.grown{w w':World}{R:Nat}{a:Option Addr}{c:Nat}{a':Option Addr}{c':Nat}{d:Dk}{p0 i:Nat}{row:Option Nat}(h:Rd w R a c a' c' d p0 i)(hg:w.grownBy w' row)(hr:∀k,row=some k→R<k):Rd w' R a c a' c' d p0 i:=
 (hg.block R h.lt (fun e=>by have:=hr R e.symm;omega)).trans h
theorem zv4{w:World}{ops:Array Oper}{o:Oper}{a:Act}{K:Act→World→Prop}{Q:Exit→Act→World→Prop}{E:Prop}(hgd:o.guard=none)(x y:Operand)
  (ho:o.op=.call {callee:=.value (.func 191),args:=#[x,y],argTypes:=#[9,4]}) (s:ByteArray) (f:Bool) (hx:a.eval x=.string s) (hy:a.eval y=.bool f) (hn:s.size≤maxLen)
  (h:K (a.put o.dst (.string (zff s f))) w):if Region.wanted o (yielded ops a.tmps)=true then Oper.wp prog o a w K Q else E:=by
 have A:Region.wanted o (yielded ops a.tmps)=true:=by simp[Region.wanted,hgd]
 rw[if_pos A];have B:a.eval (.func 191)=.func (.func 191) #[] #[]:=rfl;unfold Oper.wp;simp[execOp,ho,resolve,invoke,B,hx,hy,Result.andThen];refine(zjt s f w hn).mono ?_;rintro e w' ⟨rfl,rfl⟩;exact h
theorem zso(R:Nat)(a:Option Addr)(c:Nat)(a':Option Addr)(c':Nat)(d:Dk)(p0 i:Nat)(ta:Option Addr)(tc:Nat)(l:List (Int×Bool))(w w0:World)(hR:Rd w R a c a' c' d p0 i)(hi:i≤24)(hD:IsDk w0 (.agg #[.slice a d.safe.length c,.slice a' d.wr.length c']) d)(hg:za0 d=true)(hb:Below w0.heap.size w0 w)(hR0:w0.heap.size≤R)
  (hT:SegT w ta l) (hTR:∀b off,ta=some ⟨b,off,none⟩→b≠R):
  Calls prog 145 #[.pointer (some ⟨R,0,none⟩),.slice ta l.length tc] w fun e w'=>∃v b,e=.returned (.tuple #[v,.bool b])∧z50 w w' R a c a' c' d p0 i l v b:=by
 have X:=hR.lt;have HD:=zaa hD;have O:=zaa hb;have HT:=zaa hT;have A2:=zaa hTR;have HR:=zaa hR;clear hD hb hT hR hTR;go_enter func145,ntmps145;go_wp2
 go_loopw [6,13] (fun v j wr=>∃k:Nat,k≤l.length∧i+k≤24∧j=.int .i64 k∧Hid (wr.ownsRow w.heap.size 84 2 v (copiesAt (logOf d p0) i (l.take k)).length (cellsC (copiesAt (logOf d p0) i (l.take k))))∧Hid (Rd wr R a c a' c' d p0 (i+k))∧Hid (But R w.heap.size w wr)) (fun _ j _=>l.length - (intOf j).toNat)
 case atStart=>exact⟨0,Nat.zero_le _,by omega,rfl,World.ownsRow_nil _ _ _ _,HR,But.of_below (Below.refl _ _)⟩
 case round=>
  obtain⟨k,hk,A0,rfl,A,C,B⟩:=hrel;by_cases hlt:k<l.length
  ·obtain⟨b2,off,rfl,U,hc⟩:=HT.o.resolve_left (by intro e;rw[e]at hlt;simp at hlt);obtain⟨x,m⟩:∃x,x=l.getD k (0,false):=⟨_,rfl⟩;obtain⟨M,N⟩:=hc k hlt;rw[←m]at M N;have h:=A2.o b2 off rfl
   replace M:=B.o.cell U h M
   replace N:=B.o.cell U h N
   have HX:Hid (l[k]?=some x):=by rw[m];exact zce _ _ _ hlt
   have y:=zaa (zoc HX.o (logOf d p0) i);have hq:(copiesAt (logOf d p0) i (l.take k)).length≤k:=by rw[zdw,List.length_take];omega
   have A6:(k:Int)<(l.length:Int):=by omega
   clear m hc HX;obtain⟨n,f⟩:=x;generalize copiesAt (logOf d p0) i (l.take k)=q at *;have S:w.heap.size≤wr.heap.size:=B.o.size;by_cases hend:i+k=24
   ·rw[hend]at C;go_wp2_with fail;refine(zp0 R a c a' c' d p0 _ (C.o.below (zab _ _))).mono ?_;rintro e D ⟨rfl,rfl⟩;go_wp2;refine bodyPost_ret (v:=.tuple #[.slice none 0 0,.bool false]) (by simp[results,results145,go_sem]) rfl ?_;refine⟨.slice none 0 0,false,rfl,B.o.trans (But.of_below (zab _ _)) S,?_⟩;rw[if_neg (by omega)];exact⟨rfl,rfl⟩
   ·go_wp2_with fail;refine(zm7 R a c a' c' d p0 (i+k) _ w0 (C.o.below (zab _ _)) (by omega) HD.o hg (zae (B.o.below O.o O.o.size hR0) (zab _ _))).mono ?_;rintro e D ⟨rfl,Q,E⟩;rw[zm8 d p0 (i+k) (by omega)];have J:((logOf d p0).getD (i+k) ByteArray.empty).size≤maxLen:=z11 hg p0 (i+k);obtain⟨s,z⟩:∃s,s=(logOf d p0).getD (i+k) ByteArray.empty:=⟨_,rfl⟩;rw[←z]at J y⊢;have A4:=zaa J;have Y:=zaa Q;have A7:wr.heap.size+1≤D.heap.size:=by have:=E.size;simpa using this
    have K8:Hid (D.heap[wr.heap.size]?=some (.cells #[.int .i64 n,.bool f] 202 (0,0))):=(E.block _ (by simp) (by omega)).trans (heap_alloc_new wr _);have Z:Hid (But R w.heap.size w D):=(B.o.trans (But.of_below (zab _ _)) S).trans E (by simp;omega);have F:Hid (D.ownsRow w.heap.size 84 2 _ q.length (cellsC q)):=zeo (zah A.o (zab _ _)) E X;obtain⟨⟨y0,y1⟩,_⟩:=zgr K8.o;clear z J Q E A C B M N;obtain⟨p,r,u,_,_⟩:=SegC.of_owns F.o;subst u;go_wp2
    go_region_law (first
     |(refine zv3 rfl (.tmp 24) (.tmp 32) rfl w.heap.size _ q (by simp[Act.eval]) (zah F.o (zae ((Below.refl _ _).drew) (zab _ _))) D.heap.size (n,zff s f) (by simp[Act.eval]) (by simp[go_sem]) (by simp[go_sem]) (by omega) (by simp;omega) ?_;intro v3 w3 A5 K)
     |(refine zv4 rfl (.tmp 27) (.tmp 29) rfl s f (by simp[Act.eval]) (by simp[Act.eval]) A4.o ?_))
    all_goals
     have I:Below D.heap.size D _:=zae ((Below.refl _ _).drew) (zab _ (.cells #[.int .i64 n,.string (zff s f)] 84 (0,0)));have L:∀k,(Value.slice p q.length r).ownBlock=some k→w.heap.size≤k:=fun k hk=>(F.o.lt k hk).1;have A1:Hid (But R w.heap.size w w3):=(Z.o.trans (But.of_below I) (by omega)).grown K L (Nat.le_trans (by omega) I.size);have A3:Hid (Rd w3 R a c a' c' d p0 (i+(k+1))):=(Y.o.below I).grown K (fun j hj=>Nat.lt_of_lt_of_le X (L j hj));clear K I L F Z Y y0 y1;go_wp2
     go_roundw
     case rel=>exact⟨k+1,by omega,by omega,by go_num,by rw[y.o];exact A5,A3,A1⟩
     case measure=>simp[intOf];omega
  ·have e:k=l.length:=by omega
   subst e;rw[List.take_length]at A;have HO:Hid (_):=A.o;rw[zdw]at HO;obtain⟨p,r,u,_,_⟩:=SegC.of_owns A.o;subst u;clear A;go_wp2;refine bodyPost_ret (v:=.tuple #[.slice p (copiesAt (logOf d p0) i l).length r,.bool true]) (by simp[results,results145,go_sem]) rfl ?_;refine⟨_,true,rfl,B.o,?_⟩;rw[if_pos A0];exact⟨rfl,HO.o,C.o⟩
