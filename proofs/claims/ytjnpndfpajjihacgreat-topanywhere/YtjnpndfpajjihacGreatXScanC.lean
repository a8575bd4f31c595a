/- -/
import Derived.Test.YtjnpndfpajjihacGreatGrTopAnywhere15
import Derived.Test.YtjnpndfpajjihacGreatGrTopAnywhere16
import Derived.Deep.RegionHeldLaw
namespace Go.Proofs.YtjnpndfpajjihacGreat
open Go.Proofs.Tryz
set_option maxRecDepth 100000
set_option maxHeartbeats 40000000
open Go.RowKit
theorem zyr{d:Dk}(hg:za0 d=true)(n:Int):(zam d n).size≤32:=by
 have key:∀(l:List (Int×ByteArray)) (z:ByteArray),z.size≤32→(∀x∈l,x.2.size≤32)→(zef n z l).size≤32:=by
  intro l
  induction l with
  |nil=>intro z C _;exact C
  |cons x r ih=>
   intro z C D;rw[zef];refine ih _ ?_ (fun y hy=>D y (by simp[hy]));split
   ·exact D x (by simp)
   ·exact C
 have A:=hg;simp only[za0,Bool.and_eq_true,List.all_eq_true]at A;unfold zam;split
 ·refine key _ _ ?_ (fun x hx=>?_)
  ·by_cases h:n.toNat<d.safe.length
   ·have E:d.safe.getD n.toNat ByteArray.empty∈d.safe:=by rw[List.getD,List.getElem?_eq_getElem h];exact List.getElem_mem h
    have B:=A.1.2 _ E;unfold zbc at B;have F:=beq_iff_eq.1 B;omega
   ·rw[List.getD,List.getElem?_eq_none (by omega)];exact Nat.zero_le _
  ·have B:=A.2 x hx;unfold wrB zbc at B;have F:=beq_iff_eq.1 (Bool.and_eq_true_iff.1 B).2;omega
 ·exact Nat.zero_le _
theorem z2h{d:Dk}(hg:za0 d=true)(p0 i:Nat):((logOf d p0).getD i ByteArray.empty).size≤maxLen:=by
 by_cases h:i<24
 ·rw[zi1 d p0 i h];have:(zam d (1+((p0:Int)+(i:Int))%24)).size≤32:=zyr hg _;unfold maxLen;omega
 ·rw[List.getD,List.getElem?_eq_none (by rw[za5];omega)];exact Nat.zero_le _
def z6o (w w':World)(R:Nat)(a:Option Addr)(c:Nat)(a':Option Addr)(c':Nat)(d:Dk)(p0 i:Nat)(l:List (Int×Bool))(v:Value)(b:Bool):Prop:=
 But R w.heap.size w w'∧if i+l.length≤24 then b=true∧w'.ownsRow w.heap.size 84 2 v l.length (cellsC (copiesAt (logOf d p0) i l))∧Rd w' R a c a' c' d p0 (i+l.length) else b=false∧v=.slice none 0 0
theorem zv5{w:World}{ops:Array Oper}{o:Oper}{a:Act}{K:Act→World→Prop}{Q:Exit→Act→World→Prop}{E:Prop}(hgd:o.guard=none)(s x:Operand)
  (ho:o.op=.call {callee:=.builtin .append,args:=#[s,x],argTypes:=#[34,34]})
  (base:Nat) (v:Value) (l:List (Int×ByteArray)) (hs:a.eval s=v) (hown:w.ownsRow base 84 2 v l.length (cellsC l)) (b:Nat) (y:Int×ByteArray) (hx:a.eval x=.slice (some ⟨b,0,none⟩) 1 1)
  (h0:w.cell? ⟨b,0,none⟩=some (.int .i64 y.1)) (h1:w.cell? ⟨b,1,none⟩=some (.string y.2)) (h63:l.length≤1000) (hbase:base≤w.heap.size)
  (h:∀v' w',Hid (w'.ownsRow base 84 2 v' (l++[y]).length (cellsC (l++[y])))→w.grownBy w' v.ownBlock→K (a.put o.dst v') w'):if Region.wanted o (yielded ops a.tmps)=true then Oper.wp prog o a w K Q else E:=by
 obtain⟨J,L,D,B,C⟩:=info_parts zvm;refine zuo hgd s x 34 ho 84 J (.agg #[.int .i64 0,.string ⟨#[]⟩]) 2 24 underlying34 L D B C rfl (by decide) base v l.length (cellsC l) hs hown ⟨b,0,none⟩ (cellsC [y]) hx rfl ?_ (zho _) h63 (by omega) hbase ?_
 ·intro j u A;rw[Addr.add_lit,Nat.zero_add]
  match j,A with
  |0,A=>simp[cellsC]at A;subst A;exact h0
  |1,A=>simp[cellsC]at A;subst A;exact h1
  |j+2,A=>simp[cellsC]at A
 intro v' w' I F;refine h v' w' ?_ F;rw[Hid,zdp,List.length_append];exact I
theorem But.grown{R base:Nat}{w w1 w2:World}{row:Option Nat}(h:But R base w w1)(hg:w1.grownBy w2 row)(hr:∀k,row=some k→base≤k)(hb:base≤w1.heap.size):But R base w w2:=
 ⟨hg.os.trans h.os,hg.tape.trans h.tape,hg.output.trans h.output,Nat.le_trans h.size hg.size,fun k hk hn=>(hg.block k (by omega) (fun e=>by have:=hr k e.symm;omega)).trans (h.block k hk hn)⟩
theorem Rd.grown{w w':World}{R:Nat}{a:Option Addr}{c:Nat}{a':Option Addr}{c':Nat}{d:Dk}{p0 i:Nat}{row:Option Nat}(h:Rd w R a c a' c' d p0 i)(hg:w.grownBy w' row)(hr:∀k,row=some k→R<k):Rd w' R a c a' c' d p0 i:=
 (hg.block R h.lt (fun e=>by have:=hr R e.symm;omega)).trans h
theorem zv6{w:World}{ops:Array Oper}{o:Oper}{a:Act}{K:Act→World→Prop}{Q:Exit→Act→World→Prop}{E:Prop}(hgd:o.guard=none)(x y:Operand)
  (ho:o.op=.call {callee:=.value (.func 191),args:=#[x,y],argTypes:=#[9,4]}) (s:ByteArray) (f:Bool) (hx:a.eval x=.string s) (hy:a.eval y=.bool f) (hn:s.size≤maxLen)
  (h:K (a.put o.dst (.string (zfa s f))) w):if Region.wanted o (yielded ops a.tmps)=true then Oper.wp prog o a w K Q else E:=by
 have B:Region.wanted o (yielded ops a.tmps)=true:=by simp[Region.wanted,hgd]
 rw[if_pos B];have A:a.eval (.func 191)=.func (.func 191) #[] #[]:=rfl;unfold Oper.wp;simp[execOp,ho,resolve,invoke,A,hx,hy,Result.andThen];refine(zjv s f w hn).mono ?_;rintro e w' ⟨rfl,rfl⟩;exact h
theorem zsq(R:Nat)(a:Option Addr)(c:Nat)(a':Option Addr)(c':Nat)(d:Dk)(p0 i:Nat)(ta:Option Addr)(tc:Nat)(l:List (Int×Bool))(w w0:World)(hR:Rd w R a c a' c' d p0 i)(hi:i≤24)(hD:IsDk w0 (.agg #[.slice a d.safe.length c,.slice a' d.wr.length c']) d)(hg:za0 d=true)(hb:Below w0.heap.size w0 w)(hR0:w0.heap.size≤R)
  (hT:SegT w ta l) (hTR:∀b off,ta=some ⟨b,off,none⟩→b≠R):
  Calls prog 145 #[.pointer (some ⟨R,0,none⟩),.slice ta l.length tc] w fun e w'=>∃v b,e=.returned (.tuple #[v,.bool b])∧z6o w w' R a c a' c' d p0 i l v b:=by
 have Z:=hR.lt;have HD:=zaa hD;have Q:=zaa hb;have HT:=zaa hT;have A3:=zaa hTR;have HR:=zaa hR;clear hD hb hT hR hTR;go_enter func145,ntmps145;go_wp2
 go_loopw [6,13] (fun v j wr=>∃k:Nat,k≤l.length∧i+k≤24∧j=.int .i64 k∧Hid (wr.ownsRow w.heap.size 84 2 v (copiesAt (logOf d p0) i (l.take k)).length (cellsC (copiesAt (logOf d p0) i (l.take k))))∧Hid (Rd wr R a c a' c' d p0 (i+k))∧Hid (But R w.heap.size w wr)) (fun _ j _=>l.length - (intOf j).toNat)
 case atStart=>exact⟨0,Nat.zero_le _,by omega,rfl,World.ownsRow_nil _ _ _ _,HR,But.of_below (Below.refl _ _)⟩
 case round=>
  obtain⟨k,hk,A2,rfl,A,D,B⟩:=hrel;by_cases hlt:k<l.length
  ·obtain⟨b2,off,rfl,Y,y⟩:=HT.o.resolve_left (by intro e;rw[e]at hlt;simp at hlt);obtain⟨x,p⟩:∃x,x=l.getD k (0,false):=⟨_,rfl⟩;obtain⟨N,M⟩:=y k hlt;rw[←p]at N M;have S:=A3.o b2 off rfl
   replace N:=B.o.cell Y S N
   replace M:=B.o.cell Y S M
   have HX:Hid (l[k]?=some x):=by rw[p];exact zcf _ _ _ hlt
   have HF:=zaa (zon HX.o (logOf d p0) i);have hq:(copiesAt (logOf d p0) i (l.take k)).length≤k:=by rw[zdt,List.length_take];omega
   have A6:(k:Int)<(l.length:Int):=by omega
   clear p y HX;obtain⟨n,f⟩:=x;generalize copiesAt (logOf d p0) i (l.take k)=q at *;have h:w.heap.size≤wr.heap.size:=B.o.size;by_cases hend:i+k=24
   ·rw[hend]at D;go_wp2_with fail;refine(zqa R a c a' c' d p0 _ (D.o.below (zab _ _))).mono ?_;rintro e C ⟨rfl,rfl⟩;go_wp2;refine bodyPost_ret (v:=.tuple #[.slice none 0 0,.bool false]) (by simp[results,results145,go_sem]) rfl ?_;refine⟨.slice none 0 0,false,rfl,B.o.trans (But.of_below (zab _ _)) h,?_⟩;rw[if_neg (by omega)];exact⟨rfl,rfl⟩
   ·go_wp2_with fail;refine(znl R a c a' c' d p0 (i+k) _ w0 (D.o.below (zab _ _)) (by omega) HD.o hg (zae (B.o.below Q.o Q.o.size hR0) (zab _ _))).mono ?_;rintro e C ⟨rfl,U,E⟩;rw[znm d p0 (i+k) (by omega)];have K:((logOf d p0).getD (i+k) ByteArray.empty).size≤maxLen:=z2h hg p0 (i+k);obtain⟨s,hs⟩:∃s,s=(logOf d p0).getD (i+k) ByteArray.empty:=⟨_,rfl⟩;rw[←hs]at K HF⊢;have A5:=zaa K;have O:=zaa U;have A7:wr.heap.size+1≤C.heap.size:=by have:=E.size;simpa using this
    have K8:Hid (C.heap[wr.heap.size]?=some (.cells #[.int .i64 n,.bool f] 202 (0,0))):=(E.block _ (by simp) (by omega)).trans (heap_alloc_new wr _);have X:Hid (But R w.heap.size w C):=(B.o.trans (But.of_below (zab _ _)) h).trans E (by simp;omega);have F:Hid (C.ownsRow w.heap.size 84 2 _ q.length (cellsC q)):=zeh (zah A.o (zab _ _)) E Z;obtain⟨⟨y0,y1⟩,_⟩:=zgo K8.o;clear hs K U E A D B N M;obtain⟨u,m,r,_,_⟩:=SegC.of_owns F.o;subst r;go_wp2
    go_region_law (first
     |(refine zv5 rfl (.tmp 24) (.tmp 32) rfl w.heap.size _ q (by simp[Act.eval]) (zah F.o (zae ((Below.refl _ _).drew) (zab _ _))) C.heap.size (n,zfa s f) (by simp[Act.eval]) (by simp[go_sem]) (by simp[go_sem]) (by omega) (by simp;omega) ?_;intro v3 w3 A0 L)
     |(refine zv6 rfl (.tmp 27) (.tmp 29) rfl s f (by simp[Act.eval]) (by simp[Act.eval]) A5.o ?_))
    all_goals
     have I:Below C.heap.size C _:=zae ((Below.refl _ _).drew) (zab _ (.cells #[.int .i64 n,.string (zfa s f)] 84 (0,0)));have J:∀k,(Value.slice u q.length m).ownBlock=some k→w.heap.size≤k:=fun k hk=>(F.o.lt k hk).1;have A4:Hid (But R w.heap.size w w3):=(X.o.trans (But.of_below I) (by omega)).grown L J (Nat.le_trans (by omega) I.size);have A1:Hid (Rd w3 R a c a' c' d p0 (i+(k+1))):=(O.o.below I).grown L (fun j hj=>Nat.lt_of_lt_of_le Z (J j hj));clear L I J F X O y0 y1;go_wp2
     go_roundw
     case rel=>exact⟨k+1,by omega,by omega,by go_num,by rw[HF.o];exact A0,A1,A4⟩
     case measure=>simp[intOf];omega
  ·have e:k=l.length:=by omega
   subst e;rw[List.take_length]at A;have z:Hid (_):=A.o;rw[zdt]at z;obtain⟨u,m,r,_,_⟩:=SegC.of_owns A.o;subst r;clear A;go_wp2;refine bodyPost_ret (v:=.tuple #[.slice u (copiesAt (logOf d p0) i l).length m,.bool true]) (by simp[results,results145,go_sem]) rfl ?_;refine⟨_,true,rfl,B.o,?_⟩;rw[if_pos A2];exact⟨rfl,z.o,D.o⟩
