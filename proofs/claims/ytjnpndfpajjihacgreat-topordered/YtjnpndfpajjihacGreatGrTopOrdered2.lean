/-
  
-/
import Derived.Test.YtjnpndfpajjihacGreatGrTopOrdered0
import Derived.Deep.RegionLaw
namespace Go.Proofs.YtjnpndfpajjihacGreat
open Go.Proofs.Tryz
open Go.RowKit
theorem zep(w:World)(t ty e:TypeId)(i:TypeInfo)(c:Nat)(ht:prog.underlying t=some (.slice e))(hi:prog.info? e=some i):
  (Builtin.append_ #[t,t] ty #[.slice none 0 0,.slice none 0 c]).run prog w=.ok (.slice none 0 0) w:=by
 simp[Builtin.append_,run_underlying ht,sizeOf,typeInfo,hi,Builtin.lenOf,Builtin.firstCells]
theorem zur{ops:Array Oper}{o:Oper}{a:Act}{w:World}{K:Act→World→Prop}{Q:Exit→Act→World→Prop}{E:Prop}(hgd:o.guard=none)(s x:Operand)(t:TypeId)
  (ho:o.op=.call {callee:=.builtin .append,args:=#[s,x],argTypes:=#[t,t]})
  (e:TypeId) (i:TypeInfo) (z:Value) (size bytes:Nat) (ht:prog.underlying t=some (.slice e)) (hi:prog.info? e=some i) (hz:i.zero=some z)
  (hsize:i.size=size) (hby:i.bytes=bytes) (hzs:z.cells.size=size) (hsz:0<size)
  (base:Nat) (v:Value) (n:Nat) (xs:List Value) (hs:a.eval s=v) (hown:w.ownsRow base e size v n xs) (ad:Addr) (news:List Value) (hx:a.eval x=.slice (some ad) 1 1) (hl:news.length=1*size)
  (hnews:∀j u,news[j]?=some u→w.cell? (ad.add j)=some u) (h1:∀u∈news,u.oneCell'=true)
  (h63:n≤1000) (hbytes:bytes≤64) (hbase:base≤w.heap.size)
  (h:∀v' w',w'.ownsRow base e size v' (n+1) (xs++news)→w.grownBy w' v.ownBlock→K (a.put o.dst v') w'):
  if Region.wanted o (yielded ops a.tmps)=true then Oper.wp prog o a w K Q else E:=by
 have D:Region.wanted o (yielded ops a.tmps)=true:=by simp[Region.wanted,hgd]
 rw[if_pos D];have A0:(n+1)*bytes≤1001*64:=Nat.mul_le_mul (by omega) hbytes;obtain⟨v',w',A,C,B,_⟩:=run_append_own (P:=prog) w base t o.type e i z size bytes ht hi hz hsize hby hzs hsz v n xs hown ad 1 1 news hl hnews h1 (by unfold maxLen;omega) (by omega) hbase;unfold Oper.wp;simp[execOp,ho,resolve,invoke,builtin,hs,hx,A,Result.andThen];exact h v' w' C B
theorem SegI.setNe{w:World}{a:Option Addr}{l:List Int}(h:SegI w a l){p:Addr}(hb:∀b off,a=some ⟨b,off,none⟩→b≠p.block)(u:Value):SegI (w.setCell p u) a l:=by
 rcases h with h|⟨b,off,rfl,hlt,hc⟩
 ·exact .inl h
 ·have:=hb b off rfl;exact .inr ⟨b,off,rfl,by simpa[World.setCell] using hlt,fun i hi=>zeo (hc i hi) this⟩
theorem SegI.news{w:World}{b off:Nat}{l:List Int}(hc:∀i,i<l.length→w.cell? ⟨b,off+i,none⟩=some (.int .i64 (l.getD i 0)))(j:Nat)(u:Value)(hj:(cellsI l)[j]?=some u):w.cell? ⟨b,off+j,none⟩=some u:=by
 have A:j<l.length:=by
  have:=(List.getElem?_eq_some_iff.1 hj).1;rw[zdp]at this;omega
 rw[zgs l j A]at hj;cases hj;exact hc j A
theorem SegT.setNe{w:World}{a:Option Addr}{l:List (Int×Bool)}(h:SegT w a l){p:Addr}(hb:∀b off,a=some ⟨b,off,none⟩→b≠p.block)(u:Value):SegT (w.setCell p u) a l:=by
 rcases h with h|⟨b,off,rfl,hlt,hc⟩
 ·exact .inl h
 ·have:=hb b off rfl;exact .inr ⟨b,off,rfl,by simpa[World.setCell] using hlt,fun i hi=>⟨zeo (hc i hi).1 this,zeo (hc i hi).2 this⟩⟩
def zec:List (Int×Bool)→List Value
 |[]=>[]
 |x::r=>.int .i64 x.1:: .bool x.2::zec r
theorem zoi(l:List (Int×Bool)):(zec l).length=l.length*2:=by
 induction l with
 |nil=>rfl
 |cons x r ih=>simp[zec,ih];omega
theorem zgu(l:List (Int×Bool))(i:Nat)(h:i<l.length):(zec l)[i*2]?=some (.int .i64 (l.getD i (0,false)).1)∧(zec l)[i*2+1]?=some (.bool (l.getD i (0,false)).2):=by
 induction l generalizing i with
 |nil=>simp at h
 |cons x r ih=>
  cases i with
  |zero=>exact⟨rfl,rfl⟩
  |succ i=>
   have A:(i+1)*2=i*2+1+1:=by omega
   have e2:(i+1)*2+1=i*2+1+1+1:=by omega
   rw[zec,A,List.getElem?_cons_succ,List.getElem?_cons_succ,List.getElem?_cons_succ,List.getElem?_cons_succ]
   simpa using ih i (by simpa using h)
theorem z52:(Tryz.prog.info? 202).map (fun i=>(i.zero,i.size,i.bytes))=some (some (.agg #[.int .i64 0,.bool false]),2,16):=by kernel_rfl
theorem z54{w w':World}{o o2:Obj}(hb:Below ((w.alloc o).alloc o2).heap.size ((w.alloc o).alloc o2) w'):w'.heap[w.heap.size+1]?=some o2:=by
 have:=heap_alloc_new (w.alloc o) o2;simp at this;exact(hb.block _ (by simp)).trans (by simpa using this)
