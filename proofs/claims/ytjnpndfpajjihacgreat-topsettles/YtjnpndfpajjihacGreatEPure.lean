/- -/
import Derived.Test.YtjnpndfpajjihacGreatGrTopSettles32
import Derived.Test.YtjnpndfpajjihacGreatEEsc
import Derived.Test.YtjnpndfpajjihacGreatGrTopSettles30
namespace Go.Proofs.YtjnpndfpajjihacGreat
open Go.RowKit
def partOf (l:List (Int×ByteArray))(k:Nat):List (Int×ByteArray):=(l.drop (10*k)).take 10
def zwm (t:Tx):List ByteArray:=if t.rev.length=0 then[] else[encT ⟨3,t.seq,0,[],t.rev⟩]
def zqn (q:Int)(l:List (Int×ByteArray))(k:Nat):List ByteArray:=encT ⟨2,q,0,tagsOf (partOf l k),[]⟩::textsOf (partOf l k)
def zh6 (q:Int)(l:List (Int×ByteArray))(k:Nat):List ByteArray:=(List.range k).flatMap (zqn q l)
def logB (t:Tx):List ByteArray:=zwm t++zh6 t.seq t.info (zc7 t.info.length 10)
def zkv (t:Tx):ByteArray:=encT ⟨4,t.seq,0,[],[]⟩
def putS (ps:List Int)(l:List ByteArray):List St:=List.zipWith (fun p s=>zbm (1+p) s) ps l
def commitS (h u:Int)(t:Tx):List St:=if sealE h u t=0 then
 (homeS t.data++putS (sealP h u t) (logB t)++(if 0<t.rev.length+t.info.length then[zb1] else[]))++[zbm (1+(sealP h u t).getD (logB t).length 0) (zkv t)]++[zb1] else[]
theorem zfy(q:Int)(l:List (Int×ByteArray))(k:Nat):zh6 q l (k+1)=zh6 q l k++zqn q l k:=by
 rw[zh6,zh6,List.range_succ,List.flatMap_append];simp
theorem zzh{ps:List Int}{d:List ByteArray}(h:d.length<ps.length)(s:ByteArray):putS ps (d++[s])=putS ps d++[zbm (1+ps.getD d.length 0) s]:=by
 induction ps generalizing d with
 |nil=>simp at h
 |cons p r ih=>
  cases d with
  |nil=>simp[putS]
  |cons x d=>
   have:=ih (d:=d) (by simpa using h);simp only[putS,List.cons_append,List.zipWith_cons_cons,List.length_cons,List.getD_cons_succ]at this⊢;rw[this]
theorem zd7{ps:List Int}{d:List ByteArray}(h:d.length≤ps.length):(putS ps d).length=d.length:=by
 simp[putS];omega
theorem zi9{ps:List Int}{i:Nat}(h:i<ps.length):ps.drop i=ps.getD i 0::ps.drop (i+1):=by
 rw[List.drop_eq_getElem_cons h,List.getD,List.getElem?_eq_getElem h];rfl
theorem zgh(l:List (Int×ByteArray))(k:Nat):(partOf l k).length=zfp l.length 10 k:=by
 rw[partOf,List.length_take,List.length_drop,zfp,Nat.mul_comm];split<;>omega
theorem zg8(q:Int)(l:List (Int×ByteArray))(k:Nat):(zqn q l k).length=1+zfp l.length 10 k:=by
 rw[zqn,List.length_cons,textsOf,List.length_map,zgh];omega
theorem zqo(q:Int)(l:List (Int×ByteArray))(h:l.length≤12):(zh6 q l (zc7 l.length 10)).length=l.length+(if 0<l.length then 1 else 0)+(if 10<l.length then 1 else 0):=by
 by_cases h0:l.length=0
 ·rw[h0];rfl
 ·by_cases h1:l.length≤10
  ·have e:zc7 l.length 10=1:=by unfold zc7;omega
   rw[e,zfy,List.length_append,zg8,zfp,if_pos (show 0<l.length by omega),if_neg (show¬10<l.length by omega)];simp[zh6];split<;>omega
  ·have e:zc7 l.length 10=2:=by unfold zc7;omega
   rw[e,zfy,zfy,List.length_append,List.length_append,zg8,zg8,zfp,zfp,if_pos (show 0<l.length by omega),if_pos (show 10<l.length by omega),if_pos (show 10≤l.length - 0*10 by omega),if_neg (show¬10≤l.length - (0+1)*10 by omega)];simp[zh6];omega
theorem zd8(t:Tx)(h1:t.info.length≤12)(h2:t.rev.length≤12):((logB t).length:Int)+1=needN t.info.length t.rev.length:=by
 have B:zh4 (t.info.length:Int) (t.rev.length:Int)=0:=by rw[zh4,if_neg];omega
 have A:=zqo t.seq t.info h1;rw[needN,if_pos B,logB,List.length_append,A,zwm];by_cases h0:t.rev.length=0
 ·simp[h0];split<;>split<;>omega
 ·rw[if_neg h0];simp;split<;>split<;>split<;>omega
theorem zdi(h:Int)(n k:Nat)(hk:k<n):(zbw h n).getD k 0=(h+(k:Int))%24:=by
 rw[List.getD,zbw,List.getElem?_map,List.getElem?_range hk];rfl
theorem zlr{rh ru:Int}{t:Tx}(he:sealE rh ru t=0):za9 t=true∧zfm t=false∧(sealP rh ru t).length=(logB t).length+1∧∀i,0≤(sealP rh ru t).getD i 0∧(sealP rh ru t).getD i 0≤23:=by
 have A:=he;unfold sealE at A;by_cases hc:zgo rh ru=false∨za9 t=false∨zfm t=true
 ·rw[if_pos hc]at A;cases A
 ·rw[if_neg hc]at A;have C:za9 t=true:=by cases e:za9 t;exact absurd (.inr (.inl e)) hc;rfl
  have D:zfm t=false:=by cases e:zfm t;rfl;exact absurd (.inr (.inr e)) hc
  have B:=zaw C;have hl:=zd8 t B.1 B.2.2;refine⟨C,D,?_,?_⟩
  ·rw[sealP,if_pos he,takeL,if_pos A,zbp];omega
  ·intro i;rw[sealP,if_pos he,takeL,if_pos A]
   by_cases hi:i<(needN t.info.length t.rev.length).toNat
   ·rw[zdi _ _ _ hi];omega
   ·rw[List.getD,List.getElem?_eq_none (by rw[zbp];omega)];exact⟨Int.le_refl _,by decide⟩
def LogAt (w:World)(base Bs Bp:Nat)(H:List St)(ps:List Int)(d:List ByteArray):Prop:=StepsAt w base Bs (H++putS ps d)∧PlacesAt w base Bp (ps.drop d.length)∧d.length≤ps.length
theorem LogAt.below{w w':World}{base Bs Bp:Nat}{H:List St}{ps:List Int}{d:List ByteArray}(h:LogAt w base Bs Bp H ps d)(hb:Below w.heap.size w w'):LogAt w' base Bs Bp H ps d:=⟨h.1.below hb,h.2.1.below hb,h.2.2⟩
theorem LogAt.next{w':World}{base Bs Bp:Nat}{H:List St}{ps:List Int}{d:List ByteArray}(h:d.length<ps.length){s:ByteArray}
  (h1:StepsAt w' base Bs (H++putS ps d++[zbm (1+ps.getD d.length 0) s])) (h2:PlacesAt w' base Bp (ps.drop (d.length+1))):LogAt w' base Bs Bp H ps (d++[s]):=by
 refine⟨?_,?_,?_⟩
 ·rw[zzh h,←List.append_assoc];exact h1
 ·rw[List.length_append];exact h2
 ·rw[List.length_append];show d.length+1≤_;omega
theorem StepsAt.kept{w w':World}{base Bs:Nat}{l:List St}{row:Option Nat}(h:StepsAt w base Bs l)(hg:w.grownBy w' row)(hr:∀r,row=some r→∃o:Obj,w.heap[r]?=some o∧o.isCells=false):StepsAt w' base Bs l:=by
 obtain⟨v,D,C⟩:=h;refine⟨v,D.kept hg ?_,C.kept hg ?_⟩
 ·intro e;obtain⟨o,A,B⟩:=hr Bs e.symm;rw[show w.heap[Bs]?=_ from D]at A;cases A;cases B
 ·rcases C.2 with⟨rfl,_⟩|⟨g,cap,cur,rfl,_,hgb,_⟩
  ·exact .inl rfl
  ·refine .inr fun e=>?_;obtain⟨o,A,B⟩:=hr g e.symm;rw[hgb]at A;cases A;cases B
theorem PlacesAt.kept{w w':World}{base Bp:Nat}{l:List Int}{row:Option Nat}(h:PlacesAt w base Bp l)(hg:w.grownBy w' row)(hr:∀r,row=some r→∃o:Obj,w.heap[r]?=some o∧o.isCells=false):PlacesAt w' base Bp l:=by
 obtain⟨a,c,C,E,D⟩:=h;refine⟨a,c,C.kept hg ?_,?_,D⟩
 ·intro e;obtain⟨o,B,A⟩:=hr Bp e.symm;rw[show w.heap[Bp]?=_ from C]at B;cases B;cases A
 ·rcases E with e|⟨b,off,rfl,hlt,A⟩
  ·exact .inl e
  ·exact .inr ⟨b,off,rfl,Nat.lt_of_lt_of_le hlt hg.size,fun i hi=>cell_kept (A i hi) hg hr⟩
theorem Fr.kept{Bs Bp base:Nat}{W A B:World}{row:Option Nat}(h:Fr Bs Bp base W A)(hg:A.grownBy B row)(hr:∀r,row=some r→W.heap.size≤r)(hb:base≤W.heap.size):Fr Bs Bp base W B:=by
 have ne:∀k,k<W.heap.size→some k≠row:=fun k C e=>by have:=hr k e.symm;omega
 refine⟨hg.os.trans h.os,hg.tape.trans h.tape,hg.output.trans h.output,Nat.le_trans h.size hg.size,fun k C n1 n2=>(hg.block k (Nat.lt_of_lt_of_le (by omega) h.size) (ne k (by omega))).trans (h.low k C n1 n2),fun k o ho hn n1 n2=>?_⟩;have C:=(Array.getElem?_eq_some_iff.1 ho).1;exact(hg.block k (Nat.lt_of_lt_of_le C h.size) (ne k C)).trans (h.box k o ho hn n1 n2)
theorem LogAt.kept{w w':World}{base Bs Bp:Nat}{H:List St}{ps:List Int}{d:List ByteArray}{row:Option Nat}(h:LogAt w base Bs Bp H ps d)(hg:w.grownBy w' row)(hr:∀r,row=some r→∃o:Obj,w.heap[r]?=some o∧o.isCells=false):LogAt w' base Bs Bp H ps d:=
 ⟨h.1.kept hg hr,h.2.1.kept hg hr,h.2.2⟩
