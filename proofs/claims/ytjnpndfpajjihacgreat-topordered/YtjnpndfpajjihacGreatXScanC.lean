/- -/
import Derived.Test.YtjnpndfpajjihacGreatGrTopOrdered14
import Derived.Test.YtjnpndfpajjihacGreatGrTopOrdered15
import Derived.Deep.RegionHeldLaw
namespace Go.Proofs.YtjnpndfpajjihacGreat
open Go.Proofs.Tryz
set_option maxRecDepth 100000
set_option maxHeartbeats 40000000
open Go.RowKit
theorem zyr{d:Dk}(hg:za3 d=true)(n:Int):(zal d n).size≤32:=by
 have key:∀(l:List (Int×ByteArray)) (z:ByteArray),z.size≤32→(∀x∈l,x.2.size≤32)→(zeb n z l).size≤32:=by
  intro l
  induction l with
  |nil=>intro z C _;exact C
  |cons x r ih=>
   intro z C D;rw[zeb];refine ih _ ?_ (fun y hy=>D y (by simp[hy]));split
   ·exact D x (by simp)
   ·exact C
 have B:=hg;simp only[za3,Bool.and_eq_true,List.all_eq_true]at B;unfold zal;split
 ·refine key _ _ ?_ (fun x hx=>?_)
  ·by_cases h:n.toNat<d.safe.length
   ·have F:d.safe.getD n.toNat ByteArray.empty∈d.safe:=by rw[List.getD,List.getElem?_eq_getElem h];exact List.getElem_mem h
    have A:=B.1.2 _ F;unfold zbb at A;have E:=beq_iff_eq.1 A;omega
   ·rw[List.getD,List.getElem?_eq_none (by omega)];exact Nat.zero_le _
  ·have A:=B.2 x hx;unfold wrB zbb at A;have E:=beq_iff_eq.1 (Bool.and_eq_true_iff.1 A).2;omega
 ·exact Nat.zero_le _
theorem z2a{d:Dk}(hg:za3 d=true)(p0 i:Nat):((logOf d p0).getD i ByteArray.empty).size≤maxLen:=by
 by_cases h:i<24
 ·rw[zi2 d p0 i h];have:(zal d (1+((p0:Int)+(i:Int))%24)).size≤32:=zyr hg _;unfold maxLen;omega
 ·rw[List.getD,List.getElem?_eq_none (by rw[za7];omega)];exact Nat.zero_le _
def z56 (w w':World)(R:Nat)(a:Option Addr)(c:Nat)(a':Option Addr)(c':Nat)(d:Dk)(p0 i:Nat)(l:List (Int×Bool))(v:Value)(b:Bool):Prop:=
 But R w.heap.size w w'∧if i+l.length≤24 then b=true∧w'.ownsRow w.heap.size 84 2 v l.length (cellsC (copiesAt (logOf d p0) i l))∧Rd w' R a c a' c' d p0 (i+l.length) else b=false∧v=.slice none 0 0
theorem zv6{w:World}{ops:Array Oper}{o:Oper}{a:Act}{K:Act→World→Prop}{Q:Exit→Act→World→Prop}{E:Prop}(hgd:o.guard=none)(s x:Operand)
  (ho:o.op=.call {callee:=.builtin .append,args:=#[s,x],argTypes:=#[34,34]})
  (base:Nat) (v:Value) (l:List (Int×ByteArray)) (hs:a.eval s=v) (hown:w.ownsRow base 84 2 v l.length (cellsC l)) (b:Nat) (y:Int×ByteArray) (hx:a.eval x=.slice (some ⟨b,0,none⟩) 1 1)
  (h0:w.cell? ⟨b,0,none⟩=some (.int .i64 y.1)) (h1:w.cell? ⟨b,1,none⟩=some (.string y.2)) (h63:l.length≤1000) (hbase:base≤w.heap.size)
  (h:∀v' w',Hid (w'.ownsRow base 84 2 v' (l++[y]).length (cellsC (l++[y])))→w.grownBy w' v.ownBlock→K (a.put o.dst v') w'):if Region.wanted o (yielded ops a.tmps)=true then Oper.wp prog o a w K Q else E:=by
 obtain⟨F,J,C,D,B⟩:=info_parts zvo;refine zur hgd s x 34 ho 84 F (.agg #[.int .i64 0,.string ⟨#[]⟩]) 2 24 underlying34 J C D B rfl (by decide) base v l.length (cellsC l) hs hown ⟨b,0,none⟩ (cellsC [y]) hx rfl ?_ (zfm _) h63 (by omega) hbase ?_
 ·intro j u A;rw[Addr.add_lit,Nat.zero_add]
  match j,A with
  |0,A=>simp[cellsC]at A;subst A;exact h0
  |1,A=>simp[cellsC]at A;subst A;exact h1
  |j+2,A=>simp[cellsC]at A
 intro v' w' L I;refine h v' w' ?_ I;rw[Hid,zc3,List.length_append];exact L
theorem But.grown{R base:Nat}{w w1 w2:World}{row:Option Nat}(h:But R base w w1)(hg:w1.grownBy w2 row)(hr:∀k,row=some k→base≤k)(hb:base≤w1.heap.size):But R base w w2:=
 ⟨hg.os.trans h.os,hg.tape.trans h.tape,hg.output.trans h.output,Nat.le_trans h.size hg.size,fun k hk hn=>(hg.block k (by omega) (fun e=>by have:=hr k e.symm;omega)).trans (h.block k hk hn)⟩
theorem Rd.grown{w w':World}{R:Nat}{a:Option Addr}{c:Nat}{a':Option Addr}{c':Nat}{d:Dk}{p0 i:Nat}{row:Option Nat}(h:Rd w R a c a' c' d p0 i)(hg:w.grownBy w' row)(hr:∀k,row=some k→R<k):Rd w' R a c a' c' d p0 i:=
 (hg.block R h.lt (fun e=>by have:=hr R e.symm;omega)).trans h
theorem zv7{w:World}{ops:Array Oper}{o:Oper}{a:Act}{K:Act→World→Prop}{Q:Exit→Act→World→Prop}{E:Prop}(hgd:o.guard=none)(x y:Operand)
  (ho:o.op=.call {callee:=.value (.func 191),args:=#[x,y],argTypes:=#[9,4]}) (s:ByteArray) (f:Bool) (hx:a.eval x=.string s) (hy:a.eval y=.bool f) (hn:s.size≤maxLen)
  (h:K (a.put o.dst (.string (zfa s f))) w):if Region.wanted o (yielded ops a.tmps)=true then Oper.wp prog o a w K Q else E:=by
 have B:Region.wanted o (yielded ops a.tmps)=true:=by simp[Region.wanted,hgd]
 rw[if_pos B];have A:a.eval (.func 191)=.func (.func 191) #[] #[]:=rfl;unfold Oper.wp;simp[execOp,ho,resolve,invoke,A,hx,hy,Result.andThen];refine(zjx s f w hn).mono ?_;rintro e w' ⟨rfl,rfl⟩;exact h
theorem zst(R:Nat)(a:Option Addr)(c:Nat)(a':Option Addr)(c':Nat)(d:Dk)(p0 i:Nat)(ta:Option Addr)(tc:Nat)(l:List (Int×Bool))(w w0:World)(hR:Rd w R a c a' c' d p0 i)(hi:i≤24)(hD:IsDk w0 (.agg #[.slice a d.safe.length c,.slice a' d.wr.length c']) d)(hg:za3 d=true)(hb:Below w0.heap.size w0 w)(hR0:w0.heap.size≤R)
  (hT:SegT w ta l) (hTR:∀b off,ta=some ⟨b,off,none⟩→b≠R):
  Calls prog 145 #[.pointer (some ⟨R,0,none⟩),.slice ta l.length tc] w fun e w'=>∃v b,e=.returned (.tuple #[v,.bool b])∧z56 w w' R a c a' c' d p0 i l v b:=by
 have Q:=hR.lt;have HD:=zab hD;have h:=zab hb;have HT:=zab hT;have A3:=zab hTR;have HR:=zab hR;clear hD hb hT hR hTR;go_enter func145,ntmps145;go_wp2
 go_loopw [6,13] (fun v j wr=>∃k:Nat,k≤l.length∧i+k≤24∧j=.int .i64 k∧Hid (wr.ownsRow w.heap.size 84 2 v (copiesAt (logOf d p0) i (l.take k)).length (cellsC (copiesAt (logOf d p0) i (l.take k))))∧Hid (Rd wr R a c a' c' d p0 (i+k))∧Hid (But R w.heap.size w wr)) (fun _ j _=>l.length - (intOf j).toNat)
 case atStart=>exact⟨0,Nat.zero_le _,by omega,rfl,World.ownsRow_nil _ _ _ _,HR,But.of_below (Below.refl _ _)⟩
 case round=>
  obtain⟨k,y,A4,rfl,A,D,B⟩:=hrel;by_cases hlt:k<l.length
  ·obtain⟨b2,off,rfl,X,hc⟩:=HT.o.resolve_left (by intro e;rw[e]at hlt;simp at hlt);obtain⟨x,r⟩:∃x,x=l.getD k (0,false):=⟨_,rfl⟩;obtain⟨M,N⟩:=hc k hlt;rw[←r]at M N;have O:=A3.o b2 off rfl
   replace M:=B.o.cell X O M
   replace N:=B.o.cell X O N
   have HX:Hid (l[k]?=some x):=by rw[r];exact zcd _ _ _ hlt
   have HF:=zab (zoo HX.o (logOf d p0) i);have hq:(copiesAt (logOf d p0) i (l.take k)).length≤k:=by rw[zdt,List.length_take];omega
   have A5:(k:Int)<(l.length:Int):=by omega
   clear r hc HX;obtain⟨n,f⟩:=x;generalize copiesAt (logOf d p0) i (l.take k)=q at *;have S:w.heap.size≤wr.heap.size:=B.o.size;by_cases hend:i+k=24
   ·rw[hend]at D;go_wp2_with fail;refine(zp8 R a c a' c' d p0 _ (D.o.below (zaa _ _))).mono ?_;rintro e C ⟨rfl,rfl⟩;go_wp2;refine bodyPost_ret (v:=.tuple #[.slice none 0 0,.bool false]) (by simp[results,results145,go_sem]) rfl ?_;refine⟨.slice none 0 0,false,rfl,B.o.trans (But.of_below (zaa _ _)) S,?_⟩;rw[if_neg (by omega)];exact⟨rfl,rfl⟩
   ·go_wp2_with fail;refine(znl R a c a' c' d p0 (i+k) _ w0 (D.o.below (zaa _ _)) (by omega) HD.o hg (zae (B.o.below h.o h.o.size hR0) (zaa _ _))).mono ?_;rintro e C ⟨rfl,Y,E⟩;rw[znm d p0 (i+k) (by omega)];have J:((logOf d p0).getD (i+k) ByteArray.empty).size≤maxLen:=z2a hg p0 (i+k);obtain⟨s,hs⟩:∃s,s=(logOf d p0).getD (i+k) ByteArray.empty:=⟨_,rfl⟩;rw[←hs]at J HF⊢;have z:=zab J;have U:=zab Y;have A6:wr.heap.size+1≤C.heap.size:=by have:=E.size;simpa using this
    have K8:Hid (C.heap[wr.heap.size]?=some (.cells #[.int .i64 n,.bool f] 202 (0,0))):=(E.block _ (by simp) (by omega)).trans (heap_alloc_new wr _);have Z:Hid (But R w.heap.size w C):=(B.o.trans (But.of_below (zaa _ _)) S).trans E (by simp;omega);have I:Hid (C.ownsRow w.heap.size 84 2 _ q.length (cellsC q)):=zed (zah A.o (zaa _ _)) E Q;obtain⟨⟨y0,y1⟩,_⟩:=zgq K8.o;clear hs J Y E A D B M N;obtain⟨p,m,u,_,_⟩:=SegC.of_owns I.o;subst u;go_wp2
    go_region_law (first
     |(refine zv6 rfl (.tmp 24) (.tmp 32) rfl w.heap.size _ q (by simp[Act.eval]) (zah I.o (zae ((Below.refl _ _).drew) (zaa _ _))) C.heap.size (n,zfa s f) (by simp[Act.eval]) (by simp[go_sem]) (by simp[go_sem]) (by omega) (by simp;omega) ?_;intro v3 w3 A0 L)
     |(refine zv7 rfl (.tmp 27) (.tmp 29) rfl s f (by simp[Act.eval]) (by simp[Act.eval]) z.o ?_))
    all_goals
     have F:Below C.heap.size C _:=zae ((Below.refl _ _).drew) (zaa _ (.cells #[.int .i64 n,.string (zfa s f)] 84 (0,0)));have K:∀k,(Value.slice p q.length m).ownBlock=some k→w.heap.size≤k:=fun k y=>(I.o.lt k y).1;have A1:Hid (But R w.heap.size w w3):=(Z.o.trans (But.of_below F) (by omega)).grown L K (Nat.le_trans (by omega) F.size);have A2:Hid (Rd w3 R a c a' c' d p0 (i+(k+1))):=(U.o.below F).grown L (fun j hj=>Nat.lt_of_lt_of_le Q (K j hj));clear L F K I Z U y0 y1;go_wp2
     go_roundw
     case rel=>exact⟨k+1,by omega,by omega,by go_num,by rw[HF.o];exact A0,A2,A1⟩
     case measure=>simp[intOf];omega
  ·have e:k=l.length:=by omega
   subst e;rw[List.take_length]at A;have HO:Hid (_):=A.o;rw[zdt]at HO;obtain⟨p,m,u,_,_⟩:=SegC.of_owns A.o;subst u;clear A;go_wp2;refine bodyPost_ret (v:=.tuple #[.slice p (copiesAt (logOf d p0) i l).length m,.bool true]) (by simp[results,results145,go_sem]) rfl ?_;refine⟨_,true,rfl,B.o,?_⟩;rw[if_pos A4];exact⟨rfl,HO.o,D.o⟩
