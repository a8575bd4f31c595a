/- -/
import Derived.Test.YtjnpndfpajjihacGreatGrTopOrdered32
import Derived.Test.YtjnpndfpajjihacGreatEEsc
import Derived.Test.YtjnpndfpajjihacGreatGrTopOrdered30
namespace Go.Proofs.YtjnpndfpajjihacGreat
open Go.RowKit
def partOf (l:List (Int×ByteArray))(k:Nat):List (Int×ByteArray):=(l.drop (10*k)).take 10
def zwp (t:Tx):List ByteArray:=if t.rev.length=0 then[] else[encT ⟨3,t.seq,0,[],t.rev⟩]
def zqv (q:Int)(l:List (Int×ByteArray))(k:Nat):List ByteArray:=encT ⟨2,q,0,tagsOf (partOf l k),[]⟩::textsOf (partOf l k)
def zh4 (q:Int)(l:List (Int×ByteArray))(k:Nat):List ByteArray:=(List.range k).flatMap (zqv q l)
def logB (t:Tx):List ByteArray:=zwp t++zh4 t.seq t.info (zc6 t.info.length 10)
def zk1 (t:Tx):ByteArray:=encT ⟨4,t.seq,0,[],[]⟩
def putS (ps:List Int)(l:List ByteArray):List St:=List.zipWith (fun p s=>zbl (1+p) s) ps l
def commitS (h u:Int)(t:Tx):List St:=if sealE h u t=0 then
 (homeS t.data++putS (sealP h u t) (logB t)++(if 0<t.rev.length+t.info.length then[zb1] else[]))++[zbl (1+(sealP h u t).getD (logB t).length 0) (zk1 t)]++[zb1] else[]
theorem zfw(q:Int)(l:List (Int×ByteArray))(k:Nat):zh4 q l (k+1)=zh4 q l k++zqv q l k:=by
 rw[zh4,zh4,List.range_succ,List.flatMap_append];simp
theorem zzm{ps:List Int}{d:List ByteArray}(h:d.length<ps.length)(s:ByteArray):putS ps (d++[s])=putS ps d++[zbl (1+ps.getD d.length 0) s]:=by
 induction ps generalizing d with
 |nil=>simp at h
 |cons p r ih=>
  cases d with
  |nil=>simp[putS]
  |cons x d=>
   have:=ih (d:=d) (by simpa using h);simp only[putS,List.cons_append,List.zipWith_cons_cons,List.length_cons,List.getD_cons_succ]at this⊢;rw[this]
theorem zd4{ps:List Int}{d:List ByteArray}(h:d.length≤ps.length):(putS ps d).length=d.length:=by
 simp[putS];omega
theorem zjb{ps:List Int}{i:Nat}(h:i<ps.length):ps.drop i=ps.getD i 0::ps.drop (i+1):=by
 rw[List.drop_eq_getElem_cons h,List.getD,List.getElem?_eq_getElem h];rfl
theorem zgg(l:List (Int×ByteArray))(k:Nat):(partOf l k).length=zfk l.length 10 k:=by
 rw[partOf,List.length_take,List.length_drop,zfk,Nat.mul_comm];split<;>omega
theorem zg7(q:Int)(l:List (Int×ByteArray))(k:Nat):(zqv q l k).length=1+zfk l.length 10 k:=by
 rw[zqv,List.length_cons,textsOf,List.length_map,zgg];omega
theorem zqw(q:Int)(l:List (Int×ByteArray))(h:l.length≤12):(zh4 q l (zc6 l.length 10)).length=l.length+(if 0<l.length then 1 else 0)+(if 10<l.length then 1 else 0):=by
 by_cases h0:l.length=0
 ·rw[h0];rfl
 ·by_cases h1:l.length≤10
  ·have e:zc6 l.length 10=1:=by unfold zc6;omega
   rw[e,zfw,List.length_append,zg7,zfk,if_pos (show 0<l.length by omega),if_neg (show¬10<l.length by omega)];simp[zh4];split<;>omega
  ·have e:zc6 l.length 10=2:=by unfold zc6;omega
   rw[e,zfw,zfw,List.length_append,List.length_append,zg7,zg7,zfk,zfk,if_pos (show 0<l.length by omega),if_pos (show 10<l.length by omega),if_pos (show 10≤l.length - 0*10 by omega),if_neg (show¬10≤l.length - (0+1)*10 by omega)];simp[zh4];omega
theorem zex(t:Tx)(h1:t.info.length≤12)(h2:t.rev.length≤12):((logB t).length:Int)+1=needN t.info.length t.rev.length:=by
 have B:zkx (t.info.length:Int) (t.rev.length:Int)=0:=by rw[zkx,if_neg];omega
 have A:=zqw t.seq t.info h1;rw[needN,if_pos B,logB,List.length_append,A,zwp];by_cases h0:t.rev.length=0
 ·simp[h0];split<;>split<;>omega
 ·rw[if_neg h0];simp;split<;>split<;>split<;>omega
theorem zdi(h:Int)(n k:Nat)(hk:k<n):(zbu h n).getD k 0=(h+(k:Int))%24:=by
 rw[List.getD,zbu,List.getElem?_map,List.getElem?_range hk];rfl
theorem zl1{rh ru:Int}{t:Tx}(he:sealE rh ru t=0):zba t=true∧zia t=false∧(sealP rh ru t).length=(logB t).length+1∧∀i,0≤(sealP rh ru t).getD i 0∧(sealP rh ru t).getD i 0≤23:=by
 have A:=he;unfold sealE at A;by_cases hc:zii rh ru=false∨zba t=false∨zia t=true
 ·rw[if_pos hc]at A;cases A
 ·rw[if_neg hc]at A;have B:zba t=true:=by cases e:zba t;exact absurd (.inr (.inl e)) hc;rfl
  have D:zia t=false:=by cases e:zia t;rfl;exact absurd (.inr (.inr e)) hc
  have C:=zaz B;have hl:=zex t C.1 C.2.2;refine⟨B,D,?_,?_⟩
  ·rw[sealP,if_pos he,takeL,if_pos A,zbo];omega
  ·intro i;rw[sealP,if_pos he,takeL,if_pos A]
   by_cases hi:i<(needN t.info.length t.rev.length).toNat
   ·rw[zdi _ _ _ hi];omega
   ·rw[List.getD,List.getElem?_eq_none (by rw[zbo];omega)];exact⟨Int.le_refl _,by decide⟩
def LogAt (w:World)(base Bs Bp:Nat)(H:List St)(ps:List Int)(d:List ByteArray):Prop:=StepsAt w base Bs (H++putS ps d)∧PlacesAt w base Bp (ps.drop d.length)∧d.length≤ps.length
theorem LogAt.below{w w':World}{base Bs Bp:Nat}{H:List St}{ps:List Int}{d:List ByteArray}(h:LogAt w base Bs Bp H ps d)(hb:Below w.heap.size w w'):LogAt w' base Bs Bp H ps d:=⟨h.1.below hb,h.2.1.below hb,h.2.2⟩
theorem LogAt.next{w':World}{base Bs Bp:Nat}{H:List St}{ps:List Int}{d:List ByteArray}(h:d.length<ps.length){s:ByteArray}
  (h1:StepsAt w' base Bs (H++putS ps d++[zbl (1+ps.getD d.length 0) s])) (h2:PlacesAt w' base Bp (ps.drop (d.length+1))):LogAt w' base Bs Bp H ps (d++[s]):=by
 refine⟨?_,?_,?_⟩
 ·rw[zzm h,←List.append_assoc];exact h1
 ·rw[List.length_append];exact h2
 ·rw[List.length_append];show d.length+1≤_;omega
theorem StepsAt.kept{w w':World}{base Bs:Nat}{l:List St}{row:Option Nat}(h:StepsAt w base Bs l)(hg:w.grownBy w' row)(hr:∀r,row=some r→∃o:Obj,w.heap[r]?=some o∧o.isCells=false):StepsAt w' base Bs l:=by
 obtain⟨v,D,C⟩:=h;refine⟨v,D.kept hg ?_,C.kept hg ?_⟩
 ·intro e;obtain⟨o,A,B⟩:=hr Bs e.symm;rw[show w.heap[Bs]?=_ from D]at A;cases A;cases B
 ·rcases C.2 with⟨rfl,_⟩|⟨g,cap,cur,rfl,_,hgb,_⟩
  ·exact .inl rfl
  ·refine .inr fun e=>?_;obtain⟨o,A,B⟩:=hr g e.symm;rw[hgb]at A;cases A;cases B
theorem PlacesAt.kept{w w':World}{base Bp:Nat}{l:List Int}{row:Option Nat}(h:PlacesAt w base Bp l)(hg:w.grownBy w' row)(hr:∀r,row=some r→∃o:Obj,w.heap[r]?=some o∧o.isCells=false):PlacesAt w' base Bp l:=by
 obtain⟨a,c,C,D,E⟩:=h;refine⟨a,c,C.kept hg ?_,?_,E⟩
 ·intro e;obtain⟨o,B,A⟩:=hr Bp e.symm;rw[show w.heap[Bp]?=_ from C]at B;cases B;cases A
 ·rcases D with e|⟨b,off,rfl,hlt,A⟩
  ·exact .inl e
  ·exact .inr ⟨b,off,rfl,Nat.lt_of_lt_of_le hlt hg.size,fun i hi=>cell_kept (A i hi) hg hr⟩
theorem Fr.kept{Bs Bp base:Nat}{W A B:World}{row:Option Nat}(h:Fr Bs Bp base W A)(hg:A.grownBy B row)(hr:∀r,row=some r→W.heap.size≤r)(hb:base≤W.heap.size):Fr Bs Bp base W B:=by
 have ne:∀k,k<W.heap.size→some k≠row:=fun k C e=>by have:=hr k e.symm;omega
 refine⟨hg.os.trans h.os,hg.tape.trans h.tape,hg.output.trans h.output,Nat.le_trans h.size hg.size,fun k C n1 n2=>(hg.block k (Nat.lt_of_lt_of_le (by omega) h.size) (ne k (by omega))).trans (h.low k C n1 n2),fun k o ho hn n1 n2=>?_⟩;have C:=(Array.getElem?_eq_some_iff.1 ho).1;exact(hg.block k (Nat.lt_of_lt_of_le C h.size) (ne k C)).trans (h.box k o ho hn n1 n2)
theorem LogAt.kept{w w':World}{base Bs Bp:Nat}{H:List St}{ps:List Int}{d:List ByteArray}{row:Option Nat}(h:LogAt w base Bs Bp H ps d)(hg:w.grownBy w' row)(hr:∀r,row=some r→∃o:Obj,w.heap[r]?=some o∧o.isCells=false):LogAt w' base Bs Bp H ps d:=
 ⟨h.1.kept hg hr,h.2.1.kept hg hr,h.2.2⟩
