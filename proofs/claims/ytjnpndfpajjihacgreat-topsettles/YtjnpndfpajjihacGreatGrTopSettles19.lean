/-
  
-/
import Derived.Test.YtjnpndfpajjihacGreatXScanC
import Derived.Test.YtjnpndfpajjihacGreatGrTopSettles18
set_option maxRecDepth 100000
set_option maxHeartbeats 40000000
namespace Go.Proofs.YtjnpndfpajjihacGreat
open Go.Proofs.Tryz
open Go.RowKit
theorem zp1(w:World)(base:Nat){ops:Array Oper}{rest:List Oper}{o:Oper}{a:Act}{Q:Exit→Act→World→Prop}(hgd:o.guard=none)(s x:Operand)
  (ho:o.op=.call {callee:=.builtin .append,args:=#[s,x],argTypes:=#[35,35]})
  (v:Value) (q:List Int) (hs:a.eval s=v) (hown:w.ownsRow base 3 1 v q.length (cellsI q)) (ao:Option Addr) (c:Nat) (l:List Int) (hx:a.eval x=.slice ao l.length c) (hS:SegI w ao l)
  (hn:q.length+l.length≤1000) (hbase:base≤w.heap.size)
  (h:∀v' w',Hid (w'.ownsRow base 3 1 v' (q++l).length (cellsI (q++l)))→w.grownBy w' v.ownBlock→wpList prog ops Q rest (a.put o.dst v') w'):wpList prog ops Q (o::rest) a w:=by
 obtain⟨F,K,D,B,C⟩:=info_parts zsa
 cases ao with
 |none=>
  have J:l=[]:=by rcases hS with h|⟨b,off,he,_⟩;exact h;cases he
  subst J;refine Lib.wpList_append_run w hgd s x _ _ ho _ _ hs hx v w (zg0 w base o.type v q.length c (cellsI q) hown) (h v w ?_ ⟨rfl,rfl,rfl,Nat.le_refl _,fun _ _ _=>rfl⟩);rw[List.append_nil];exact hown
 |some ad=>
  refine wpList_append_own w hgd s x 35 ho base 3 F (.int .i64 0) 1 8 underlying35 K D B C rfl (by decide) v q.length (cellsI q) hs hown ad l.length c (cellsI l) hx (zdp l) ?_ zjp (by unfold maxLen;omega) (by omega) hbase ?_
  ·intro j u A;rcases hS with h|⟨b,off,he,hlt,hc⟩
   ·rw[h]at A;simp[cellsI]at A
   ·cases he;rw[Addr.add_lit];exact SegI.news hc j u A
  ·intro v' w' E I _;refine h v' w' ?_ I;rw[Hid,zf9,List.length_append];exact E
theorem zp2(w:World)(base:Nat){ops:Array Oper}{rest:List Oper}{o:Oper}{a:Act}{Q:Exit→Act→World→Prop}(hgd:o.guard=none)(s x:Operand)
  (ho:o.op=.call {callee:=.builtin .append,args:=#[s,x],argTypes:=#[34,34]})
  (v:Value) (q:List (Int×ByteArray)) (hs:a.eval s=v) (hown:w.ownsRow base 84 2 v q.length (cellsC q)) (ao:Option Addr) (c:Nat) (l:List (Int×ByteArray)) (hx:a.eval x=.slice ao l.length c) (hS:SegW w ao l)
  (hn:q.length+l.length≤1000) (hbase:base≤w.heap.size)
  (h:∀v' w',Hid (w'.ownsRow base 84 2 v' (q++l).length (cellsC (q++l)))→w.grownBy w' v.ownBlock→wpList prog ops Q rest (a.put o.dst v') w'):wpList prog ops Q (o::rest) a w:=by
 obtain⟨F,K,D,B,C⟩:=info_parts zvl
 cases ao with
 |none=>
  have J:l=[]:=by rcases hS with h|⟨b,off,he,_⟩;exact h;cases he
  subst J;refine Lib.wpList_append_run w hgd s x _ _ ho _ _ hs hx v w (zgz w base o.type v q.length c (cellsC q) hown) (h v w ?_ ⟨rfl,rfl,rfl,Nat.le_refl _,fun _ _ _=>rfl⟩);rw[List.append_nil];exact hown
 |some ad=>
  refine wpList_append_own w hgd s x 34 ho base 84 F (.agg #[.int .i64 0,.string ⟨#[]⟩]) 2 24 underlying34 K D B C rfl (by decide) v q.length (cellsC q) hs hown ad l.length c (cellsC l) hx (zdq l) ?_ (zhm l) (by unfold maxLen;omega) (by omega) hbase ?_
  ·intro j u A;rcases hS with h|⟨b,off,he,hlt,hc⟩
   ·rw[h]at A;simp[cellsC]at A
   ·cases he;rw[Addr.add_lit];exact SegC.news hc j u A
  ·intro v' w' E I _;refine h v' w' ?_ I;rw[Hid,zdr,List.length_append];exact E
theorem zur{w:World}{B:Nat}{u0 u1 u2 u3 u4 u5 u6 u7 u8 u9:Value}{t:TypeId}(h:w.heap[B]?=some (.cells #[u0,u1,u2,u3,u4,u5,u6,u7,u8,u9] t (0,0)))(v0 v1 v2 v3 v4 v5 v6 v7 v8 v9:Value):
  (((((((((((w.setCell ⟨B,0,none⟩ v0).setCell ⟨B,1,none⟩ v1).setCell ⟨B,2,none⟩ v2).setCell ⟨B,3,none⟩ v3).setCell ⟨B,4,none⟩ v4).setCell ⟨B,5,none⟩ v5).setCell ⟨B,6,none⟩ v6).setCell ⟨B,7,none⟩ v7).setCell ⟨B,8,none⟩ v8).setCell ⟨B,9,none⟩ v9)).heap[B]?=some (.cells #[v0,v1,v2,v3,v4,v5,v6,v7,v8,v9] t (0,0)):=by
 have J:(w.setCell ⟨B,0,none⟩ v0).heap[B]?=some (.cells #[v0,u1,u2,u3,u4,u5,u6,u7,u8,u9] t (0,0)):=heap_setCell_same _ B 0 _ _ v0 h;have K:((w.setCell ⟨B,0,none⟩ v0).setCell ⟨B,1,none⟩ v1).heap[B]?=some (.cells #[v0,v1,u2,u3,u4,u5,u6,u7,u8,u9] t (0,0)):=heap_setCell_same _ B 1 _ _ v1 J;have L:(((w.setCell ⟨B,0,none⟩ v0).setCell ⟨B,1,none⟩ v1).setCell ⟨B,2,none⟩ v2).heap[B]?=some (.cells #[v0,v1,v2,u3,u4,u5,u6,u7,u8,u9] t (0,0)):=heap_setCell_same _ B 2 _ _ v2 K;have I:((((w.setCell ⟨B,0,none⟩ v0).setCell ⟨B,1,none⟩ v1).setCell ⟨B,2,none⟩ v2).setCell ⟨B,3,none⟩ v3).heap[B]?=some (.cells #[v0,v1,v2,v3,u4,u5,u6,u7,u8,u9] t (0,0)):=heap_setCell_same _ B 3 _ _ v3 L;have E:(((((w.setCell ⟨B,0,none⟩ v0).setCell ⟨B,1,none⟩ v1).setCell ⟨B,2,none⟩ v2).setCell ⟨B,3,none⟩ v3).setCell ⟨B,4,none⟩ v4).heap[B]?=some (.cells #[v0,v1,v2,v3,v4,u5,u6,u7,u8,u9] t (0,0)):=heap_setCell_same _ B 4 _ _ v4 I;have D:((((((w.setCell ⟨B,0,none⟩ v0).setCell ⟨B,1,none⟩ v1).setCell ⟨B,2,none⟩ v2).setCell ⟨B,3,none⟩ v3).setCell ⟨B,4,none⟩ v4).setCell ⟨B,5,none⟩ v5).heap[B]?=some (.cells #[v0,v1,v2,v3,v4,v5,u6,u7,u8,u9] t (0,0)):=heap_setCell_same _ B 5 _ _ v5 E;have M:(((((((w.setCell ⟨B,0,none⟩ v0).setCell ⟨B,1,none⟩ v1).setCell ⟨B,2,none⟩ v2).setCell ⟨B,3,none⟩ v3).setCell ⟨B,4,none⟩ v4).setCell ⟨B,5,none⟩ v5).setCell ⟨B,6,none⟩ v6).heap[B]?=some (.cells #[v0,v1,v2,v3,v4,v5,v6,u7,u8,u9] t (0,0)):=heap_setCell_same _ B 6 _ _ v6 D;have F:((((((((w.setCell ⟨B,0,none⟩ v0).setCell ⟨B,1,none⟩ v1).setCell ⟨B,2,none⟩ v2).setCell ⟨B,3,none⟩ v3).setCell ⟨B,4,none⟩ v4).setCell ⟨B,5,none⟩ v5).setCell ⟨B,6,none⟩ v6).setCell ⟨B,7,none⟩ v7).heap[B]?=some (.cells #[v0,v1,v2,v3,v4,v5,v6,v7,u8,u9] t (0,0)):=heap_setCell_same _ B 7 _ _ v7 M;have A:(((((((((w.setCell ⟨B,0,none⟩ v0).setCell ⟨B,1,none⟩ v1).setCell ⟨B,2,none⟩ v2).setCell ⟨B,3,none⟩ v3).setCell ⟨B,4,none⟩ v4).setCell ⟨B,5,none⟩ v5).setCell ⟨B,6,none⟩ v6).setCell ⟨B,7,none⟩ v7).setCell ⟨B,8,none⟩ v8).heap[B]?=some (.cells #[v0,v1,v2,v3,v4,v5,v6,v7,v8,u9] t (0,0)):=heap_setCell_same _ B 8 _ _ v8 F
 have C:((((((((((w.setCell ⟨B,0,none⟩ v0).setCell ⟨B,1,none⟩ v1).setCell ⟨B,2,none⟩ v2).setCell ⟨B,3,none⟩ v3).setCell ⟨B,4,none⟩ v4).setCell ⟨B,5,none⟩ v5).setCell ⟨B,6,none⟩ v6).setCell ⟨B,7,none⟩ v7).setCell ⟨B,8,none⟩ v8).setCell ⟨B,9,none⟩ v9).heap[B]?=some (.cells #[v0,v1,v2,v3,v4,v5,v6,v7,v8,v9] t (0,0)):=heap_setCell_same _ B 9 _ _ v9 A;exact C
theorem zi1{w:World}{B:Nat}{u0 u1 u2 u3 u4 u5 u6 u7 u8 u9:Value}{t:TypeId}(h:w.heap[B]?=some (.cells #[u0,u1,u2,u3,u4,u5,u6,u7,u8,u9] t (0,0)))(v0 v1 v2 v3 v4 v5 v6 v7 v8 v9:Value)(o:Obj):
  (((((((((((w.setCell ⟨B,0,none⟩ v0).setCell ⟨B,1,none⟩ v1).setCell ⟨B,2,none⟩ v2).setCell ⟨B,3,none⟩ v3).setCell ⟨B,4,none⟩ v4).setCell ⟨B,5,none⟩ v5).setCell ⟨B,6,none⟩ v6).setCell ⟨B,7,none⟩ v7).setCell ⟨B,8,none⟩ v8).setCell ⟨B,9,none⟩ v9).alloc o).heap[B]?=some (.cells #[v0,v1,v2,v3,v4,v5,v6,v7,v8,v9] t (0,0)):=by
 have A:=zur h v0 v1 v2 v3 v4 v5 v6 v7 v8 v9;exact zad (zab _ o) (Array.getElem?_eq_some_iff.1 A).1 A
theorem zyq{w:World}{base:Nat}{e:TypeId}{size:Nat}{v:Value}{n m:Nat}{xs:List Value}(h:w.ownsRow base e size v n xs)(hn:n=m):w.ownsRow base e size v m xs:=hn▸h
theorem zg1{w:World}{B:Nat}{p:Addr}(h:B≠p.block)(u:Value):(w.setCell p u).heap[B]?=w.heap[B]?:=by
 rw[World.setCell];simp only[Array.getElem?_modify];rw[if_neg (fun x=>h x.symm)]
theorem zyr{log:List ByteArray}{j:Nat}(h:j<log.length)(seq:Int)(t:Tx){mk:Mk}{er:Int}(hM:(mk,er)=zar (log.getD j ByteArray.empty)):
  zfg log seq j t=if er≠0∨mk.seq≠seq∨mk.kind=1 then none else if mk.kind=4 then some (j+1,t) else if j+1+mk.tags.length≤log.length then zfg log seq (j+1+mk.tags.length) (more log j t mk) else none:=by
 rw[zfg,dif_pos h,←hM]
def txW (seq:Int)(info:List (Int×ByteArray))(rev:List Int):Tx:=⟨seq,info,[],rev,⟨false,0⟩,⟨false,0⟩,⟨false,0⟩⟩
theorem zus(log:List ByteArray)(i:Nat)(seq:Int)(info:List (Int×ByteArray))(rev:List Int)(m:Mk):more log i (txW seq info rev) m=txW seq (info++copiesAt log (i+1) m.tags) (rev++m.blocks):=rfl
theorem zk3{s:ByteArray}(h:(zar s).2=0):goodM (zar s).1=0:=by
 unfold zar at h⊢;split at h
 ·rename_i A;rw[if_pos A];exact A.2.1
 ·cases h
theorem zys{m:Mk}(h:goodM m=0):(m.kind=1∨m.kind=2∨m.kind=3∨m.kind=4)∧(m.kind≠2→m.tags=[])∧(m.kind≠3→m.blocks=[])∧(m.kind=2→m.tags.length≤10)∧(m.kind=3→m.blocks.length≤20):=by
 unfold goodM at h;split at h
 ·cases h
 ·split at h
  ·cases h
  ·split at h
   ·cases h
   ·split at h
    ·cases h
    ·rename_i h1 _ A B;refine⟨by omega,fun hk=>?_,fun hk=>?_,fun hk=>?_,fun hk=>?_⟩
     ·by_cases ht:m.tags=[]
      ·exact ht
      ·exact absurd (.inr (.inl ⟨hk,ht⟩)) A
     ·by_cases ht:m.blocks=[]
      ·exact ht
      ·exact absurd (.inr (.inr ⟨hk,ht⟩)) A
     ·by_cases ht:m.tags.length≤10
      ·exact ht
      ·exact absurd (.inl ⟨hk,.inr (by omega)⟩) B
     ·by_cases ht:m.blocks.length≤20
      ·exact ht
      ·exact absurd (.inr (.inl ⟨hk,.inr (by omega)⟩)) B
def zp3 (w w':World)(R:Nat)(a:Option Addr)(c:Nat)(a':Option Addr)(c':Nat)(d:Dk)(p0 i:Nat)(seq:Int)(v:Value)(b:Bool):Prop:=
 match zfg (logOf d p0) seq i (zc5 seq) with
 |none=>b=false∧v=.agg #[.int .i64 0,.slice none 0 0,.slice none 0 0,.slice none 0 0,.bool false,.int .i64 0,.bool false,.int .i64 0,.bool false,.int .i64 0]
 |some (n,t)=>b=true∧Rd w' R a c a' c' d p0 n∧∃m r,v=.agg #[.int .i64 seq,m,.slice none 0 0,r,.bool false,.int .i64 0,.bool false,.int .i64 0,.bool false,.int .i64 0]∧OwnR w' w.heap.size ⟨m,.slice none 0 0,r,t⟩∧t=txW seq t.info t.rev
def z4p (w w':World)(R:Nat)(a:Option Addr)(c:Nat)(a':Option Addr)(c':Nat)(d:Dk)(p0 i:Nat)(seq:Int)(e:Ending):Prop:=∃v b,e=.returned (.tuple #[v,.bool b])∧But R w.heap.size w w'∧zp3 w w' R a c a' c' d p0 i seq v b
theorem zv5(R:Nat)(a:Option Addr)(c:Nat)(a':Option Addr)(c':Nat)(d:Dk)(p0 i:Nat)(seq:Int)(w w0:World)(hR:Rd w R a c a' c' d p0 i)(hi:i≤24)(hD:IsDk w0 (.agg #[.slice a d.safe.length c,.slice a' d.wr.length c']) d)(hg:za0 d=true)(hb:Below w0.heap.size w0 w)(hR0:w0.heap.size≤R):
  Calls prog 114 #[.pointer (some ⟨R,0,none⟩),.int .i64 seq] w fun e w'=>z4p w w' R a c a' c' d p0 i seq e:=by
 have H2:=hR.lt;have HD:=zaa hD;have B9:=zaa hb;have HR:=zaa hR;clear hD hb hR;go_enter func114,ntmps114;go_wp2
 go_loopw [8] (fun _ wr=>∃(j:Nat) (info:List (Int×ByteArray)) (rev:List Int) (ma:Option Addr) (z:Nat) (ra:Option Addr) (rc:Nat),i≤j∧j≤24∧info.length≤j∧rev.length≤20*j∧Hid (zfg (logOf d p0) seq i (zc5 seq)=zfg (logOf d p0) seq j (txW seq info rev))∧Hid (Rd wr R a c a' c' d p0 j)∧Hid (But R w.heap.size w wr)∧w.heap.size+1<wr.heap.size∧
   Hid (wr.heap[w.heap.size]?=some (.cells #[.int .i64 0,.slice none 0 0,.slice none 0 0,.slice none 0 0,.bool false,.int .i64 0,.bool false,.int .i64 0,.bool false,.int .i64 0] 40 (0,0)))∧Hid (wr.heap[w.heap.size+1]?=some (.cells #[.int .i64 seq,.slice ma info.length z,.slice none 0 0,.slice ra rev.length rc,.bool false,.int .i64 0,.bool false,.int .i64 0,.bool false,.int .i64 0] 40 (0,0)))∧Hid (wr.ownsRow (w.heap.size+2) 84 2 (.slice ma info.length z) info.length (cellsC info))∧Hid (wr.ownsRow (w.heap.size+2) 3 1 (.slice ra rev.length rc) rev.length (cellsI rev)))
  (fun _ wr=>match wr.cell? ⟨R,3,none⟩ with|some (.int _ n)=>n.toNat|_=>0)
 case atStart=>exact⟨i,[],[],none,0,none,0,Nat.le_refl _,hi,Nat.zero_le _,Nat.zero_le _,rfl,HR.o.below (zae (zab _ _) (zab _ _)),But.of_below (zae (zab _ _) (zab _ _)),by simp,zhl (Below.refl _ _),zh3 (Below.refl _ _),World.ownsRow_nil _ _ _ _,World.ownsRow_nil _ _ _ _⟩
 case round=>
  obtain⟨j,info,rev,ma,z,ra,rc,G9,hj,H1,H3,B,B2,HB,G2,KB,KT,D4,D8⟩:=hrel;have A8:(match wr.cell? ⟨R,3,none⟩ with|some (.int _ n)=>n.toNat|_=>0)=24 - j:=by rw[(z3m B2.o).1.2.2.2];simp
  rw[A8];have D5:Hid (Below w0.heap.size w0 wr):=HB.o.below B9.o B9.o.size hR0;by_cases hend:j=24
  ·subst hend;have A0:Hid (zfg (logOf d p0) seq i (zc5 seq)=none):=by rw[Hid,B.o,zfg,dif_neg (by rw[za4];omega)]
   clear A8;go_wp2_with fail;refine(zyl R a c a' c' d p0 seq _ B2.o).mono ?_;rintro e K ⟨rfl,J⟩;have q:Hid (But R w.heap.size w K):=HB.o.trans (But.of_below J) HB.o.size;have F:=zaa (zad J (by omega) KB.o);have B6:w.heap.size+1<K.heap.size:=Nat.lt_of_lt_of_le G2 J.size;have A7:w.heap.size<K.heap.size:=by omega
   clear J B2 KB KT D4 D8 HB;obtain⟨⟨l,L,m,S,U,N,O,h,Y,Z⟩,X⟩:=zaj F.o;go_wp2;obtain⟨W,D⟩:∃W,W=(((((((((((K.setCell ⟨w.heap.size,0,none⟩ (.int .i64 0)).setCell ⟨w.heap.size,1,none⟩ (.slice none 0 0)).setCell ⟨w.heap.size,2,none⟩ (.slice none 0 0)).setCell ⟨w.heap.size,3,none⟩ (.slice none 0 0)).setCell ⟨w.heap.size,4,none⟩ (.bool false)).setCell ⟨w.heap.size,5,none⟩ (.int .i64 0)).setCell ⟨w.heap.size,6,none⟩ (.bool false)).setCell ⟨w.heap.size,7,none⟩ (.int .i64 0)).setCell ⟨w.heap.size,8,none⟩ (.bool false)).setCell ⟨w.heap.size,9,none⟩ (.int .i64 0)).alloc (.cells #[.int .i64 0,.int .i64 0,.int .i64 0,.slice none 0 0,.slice none 0 0] 119)):=⟨_,rfl⟩;have A:=zi1 F.o (.int .i64 0) (.slice none 0 0) (.slice none 0 0) (.slice none 0 0) (.bool false) (.int .i64 0) (.bool false) (.int .i64 0) (.bool false) (.int .i64 0) (.cells #[.int .i64 0,.int .i64 0,.int .i64 0,.slice none 0 0,.slice none 0 0] 119);rw[←D]at A;obtain⟨⟨y0,y1,y2,y3,y4,y5,y6,y7,y8,y9⟩,_⟩:=zaj A;have y:=zaa D;rw[←D];clear D A l L m S U N O h Y Z X;refine bodyPost_ret (v:=.tuple #[.agg #[.int .i64 0,.slice none 0 0,.slice none 0 0,.slice none 0 0,.bool false,.int .i64 0,.bool false,.int .i64 0,.bool false,.int .i64 0],.bool false]) (by simp[results,results114,go_sem,y0,y1,y2,y3,y4,y5,y6,y7,y8,y9]) rfl ?_;unfold z4p;refine⟨_,false,rfl,?_,?_⟩
   ·rw[y.o];exact(But.trans ((((((((((q.o.setNew (p:=⟨w.heap.size,0,none⟩) (Nat.le_refl _) _).setNew (p:=⟨w.heap.size,1,none⟩) (Nat.le_refl _) _).setNew (p:=⟨w.heap.size,2,none⟩) (Nat.le_refl _) _).setNew (p:=⟨w.heap.size,3,none⟩) (Nat.le_refl _) _).setNew (p:=⟨w.heap.size,4,none⟩) (Nat.le_refl _) _).setNew (p:=⟨w.heap.size,5,none⟩) (Nat.le_refl _) _).setNew (p:=⟨w.heap.size,6,none⟩) (Nat.le_refl _) _).setNew (p:=⟨w.heap.size,7,none⟩) (Nat.le_refl _) _).setNew (p:=⟨w.heap.size,8,none⟩) (Nat.le_refl _) _).setNew (p:=⟨w.heap.size,9,none⟩) (Nat.le_refl _) _) (But.of_below (zab _ _)) (by simp[World.setCell];omega))
   ·rw[zp3,A0.o];exact⟨rfl,rfl⟩
  ·have E8:j<24:=by omega
   clear A8;go_wp2_with fail;refine(zv2 R a c a' c' d p0 j seq _ w0 B2.o E8 HD.o hg D5.o).mono ?_;rintro e K ⟨v2,rfl,hN,E2,J⟩;obtain⟨M,hM⟩:∃M,M=zar ((logOf d p0).getD j ByteArray.empty):=⟨_,rfl⟩;rw[←hM]at hN⊢;obtain⟨mk,er⟩:=M;have C:=zaa (zyr (log:=logOf d p0) (j:=j) (by rw[za4];exact E8) seq (txW seq info rev) hM)
   have E6:er=0→goodM mk=0:=by
    intro he;have:=zk3 (s:=(logOf d p0).getD j ByteArray.empty) (by rw[←hM];exact he);rw[←hM]at this;exact this
   have C9:=zaa E6;clear hM E6;obtain⟨a2,c2,a3,c3,rfl,hT,hI,n1,n2,t1,t2⟩:=hN;have G8:=J.size;have A9:=zaa E2;have HT:=zaa hT;have HI:=zaa hI;have C1:Hid (∀b off,a2=some ⟨b,off,none⟩→b≠R):=fun b off e=>by have:=t1 b off e;omega
   have F:Hid (K.heap[w.heap.size]?=_):=(J.block _ (by omega) (by omega)).trans KB.o;have A6:Hid (K.heap[w.heap.size+1]?=_):=(J.block _ (by omega) (by omega)).trans KT.o;have q:Hid (But R w.heap.size w K):=HB.o.trans J (by omega);have A3:=zaa (zeo D4.o J (by omega));have x:=zaa (zeo D8.o J (by omega));have B6:w.heap.size+1<K.heap.size:=by omega
   have A7:w.heap.size<K.heap.size:=by omega
   clear E2 hT hI t1 t2 J KB KT HB D4 D8 B2 D5 n1 n2;by_cases hok:er=0∧mk.seq=seq
   ·obtain⟨rfl,hq⟩:=hok;have B1:(decide ((0:Int)=0)&&decide (mk.seq=seq))=true:=by simp[hq]
    dsimp only;rw[B1];obtain⟨E0,F0,E7,F8,G3⟩:=zys (C9.o rfl);have G0:=zaa F0;have F7:=zaa E7;clear B1 F0 E7 C9;rcases E0 with hk|hk|hk|hk
    ·have A0:Hid (zfg (logOf d p0) seq i (zc5 seq)=none):=by rw[Hid,B.o,C.o,if_pos (.inr (.inr hk))]
     clear C B;obtain⟨⟨l,L,m,S,U,N,O,h,Y,Z⟩,X⟩:=zaj F.o;go_wp2;obtain⟨W,D⟩:∃W,W=(((((((((((K.setCell ⟨w.heap.size,0,none⟩ (.int .i64 0)).setCell ⟨w.heap.size,1,none⟩ (.slice none 0 0)).setCell ⟨w.heap.size,2,none⟩ (.slice none 0 0)).setCell ⟨w.heap.size,3,none⟩ (.slice none 0 0)).setCell ⟨w.heap.size,4,none⟩ (.bool false)).setCell ⟨w.heap.size,5,none⟩ (.int .i64 0)).setCell ⟨w.heap.size,6,none⟩ (.bool false)).setCell ⟨w.heap.size,7,none⟩ (.int .i64 0)).setCell ⟨w.heap.size,8,none⟩ (.bool false)).setCell ⟨w.heap.size,9,none⟩ (.int .i64 0)).alloc (.cells #[.int .i64 1,.int .i64 seq,.int .i64 mk.pos,.slice a2 mk.tags.length c2,.slice a3 mk.blocks.length c3] 119)):=⟨_,rfl⟩;have A:=zi1 F.o (.int .i64 0) (.slice none 0 0) (.slice none 0 0) (.slice none 0 0) (.bool false) (.int .i64 0) (.bool false) (.int .i64 0) (.bool false) (.int .i64 0) (.cells #[.int .i64 1,.int .i64 seq,.int .i64 mk.pos,.slice a2 mk.tags.length c2,.slice a3 mk.blocks.length c3] 119);rw[←D]at A;obtain⟨⟨y0,y1,y2,y3,y4,y5,y6,y7,y8,y9⟩,_⟩:=zaj A;have y:=zaa D;rw[←D];clear D A l L m S U N O h Y Z X;refine bodyPost_ret (v:=.tuple #[.agg #[.int .i64 0,.slice none 0 0,.slice none 0 0,.slice none 0 0,.bool false,.int .i64 0,.bool false,.int .i64 0,.bool false,.int .i64 0],.bool false]) (by simp[results,results114,go_sem,y0,y1,y2,y3,y4,y5,y6,y7,y8,y9]) rfl ?_;unfold z4p;refine⟨_,false,rfl,?_,?_⟩
     ·rw[y.o];exact(But.trans ((((((((((q.o.setNew (p:=⟨w.heap.size,0,none⟩) (Nat.le_refl _) _).setNew (p:=⟨w.heap.size,1,none⟩) (Nat.le_refl _) _).setNew (p:=⟨w.heap.size,2,none⟩) (Nat.le_refl _) _).setNew (p:=⟨w.heap.size,3,none⟩) (Nat.le_refl _) _).setNew (p:=⟨w.heap.size,4,none⟩) (Nat.le_refl _) _).setNew (p:=⟨w.heap.size,5,none⟩) (Nat.le_refl _) _).setNew (p:=⟨w.heap.size,6,none⟩) (Nat.le_refl _) _).setNew (p:=⟨w.heap.size,7,none⟩) (Nat.le_refl _) _).setNew (p:=⟨w.heap.size,8,none⟩) (Nat.le_refl _) _).setNew (p:=⟨w.heap.size,9,none⟩) (Nat.le_refl _) _) (But.of_below (zab _ _)) (by simp[World.setCell];omega))
     ·rw[zp3,A0.o];exact⟨rfl,rfl⟩
    ·have H0:=F8 hk;have E4:mk.blocks=[]:=F7.o (by omega)
     have C3:Hid (zfg (logOf d p0) seq j (txW seq info rev)=if j+1+mk.tags.length≤24 then zfg (logOf d p0) seq (j+1+mk.tags.length) (txW seq (info++copiesAt (logOf d p0) (j+1) mk.tags) rev) else none):=by
      rw[Hid,C.o,if_neg (by simp[hq,hk]),if_neg (by omega),zus,E4,List.append_nil,za4]
     clear C E4;go_wp2_with fail;refine(zso R a c a' c' d p0 (j+1) a2 c2 mk.tags _ w0 (A9.o.below (zab _ _)) (by omega) HD.o hg (zae (q.o.below B9.o B9.o.size hR0) (zab _ _)) hR0 (HT.o.below (zab _ _)) C1.o).mono ?_;rintro e w2 ⟨v2,b2,rfl,hC⟩;have G7:K.heap.size+1≤w2.heap.size:=by have:=hC.1.size;simpa using this
     have C4:Hid (w2.heap[w.heap.size]?=_):=(hC.1.block _ (by simp;omega) (by omega)).trans (zad (zab _ _) A7 F.o);have C0:Hid (w2.heap[w.heap.size+1]?=_):=(hC.1.block _ (by simp;omega) (by omega)).trans (zad (zab _ _) B6 A6.o);have D2:Hid (But R w.heap.size w w2):=(q.o.trans (But.of_below (zab _ _)) (by omega)).trans hC.1 (by simp;omega);have B0:=zaa (zeo (zah A3.o (zab _ _)) hC.1 (by omega));have C5:=zaa (zeo (zah x.o (zab _ _)) hC.1 (by omega));have F6:w.heap.size+1<w2.heap.size:=by omega
     have E1:w.heap.size<w2.heap.size:=by omega
     have B7:=zaa hC.2;clear hC HT HI C1 A9 q F A6 A3 x;by_cases hle:j+1+mk.tags.length≤24
     ·have hc:=B7.o;rw[if_pos hle]at hc;obtain⟨rfl,D6,E5⟩:=hc;have r:Hid (zfg (logOf d p0) seq i (zc5 seq)=zfg (logOf d p0) seq (j+1+mk.tags.length) (txW seq (info++copiesAt (logOf d p0) (j+1) mk.tags) rev)):=by rw[Hid,B.o,C3.o,if_pos hle]
      obtain⟨ca,cc,rfl,hS,_⟩:=SegC.of_owns D6;have HS:=zaa hS;have E3:=zaa E5;have E9:=zdw (logOf d p0) (j+1) mk.tags;have F1:=zaa E9;clear D6 hS E5 B7 C3 B;generalize copiesAt (logOf d p0) (j+1) mk.tags=cp at *;clear E9;obtain⟨⟨l,L,m,S,U,N,O,h,Y,Z⟩,X⟩:=zaj C0.o;go_wp2_with (at_builtin;refine zp2 _ (w.heap.size+2) rfl _ _ rfl (.slice ma info.length z) info rfl B0.o ca cc cp rfl HS.o (by have:=F1.o;omega) (by omega) ?_);intro v3 w3 I E;obtain⟨nf,B8⟩:∃nf,nf=info++cp:=⟨_,rfl⟩;have F3:nf.length≤j+1+mk.tags.length:=by have:=F1.o;rw[B8,List.length_append];omega
      replace I:=zaa (zyq I.o (show _=nf.length by simp[B8]))
      rw[←B8]at I r;clear B8;obtain⟨D9,C8,C6,_,_⟩:=SegC.of_owns I.o;subst C6;have Q:∀k,(Value.slice ma info.length z).ownBlock=some k→w.heap.size+2≤k:=fun k hk=>(B0.o.lt k hk).1;have A4:∀k,(Value.slice D9 nf.length C8).ownBlock=some k→w.heap.size+2≤k:=fun k hk=>(I.o.lt k hk).1;have A2:∀k,(Value.slice ra rev.length rc).ownBlock=some k→w.heap.size+2≤k:=fun k hk=>(C5.o.lt k hk).1;have G1:=E.size;have C7:Hid (w3.heap[w.heap.size]?=_):=(E.block _ E1 (fun e=>by have:=Q _ e.symm;omega)).trans C4.o;have B5:Hid (w3.heap[w.heap.size+1]?=_):=(E.block _ F6 (fun e=>by have:=Q _ e.symm;omega)).trans C0.o;have B3:Hid (Rd w3 R a c a' c' d p0 (j+1+mk.tags.length)):=E3.o.grown E (fun k hk=>by have:=Q k hk;omega);have D1:Hid (But R w.heap.size w w3):=D2.o.grown E (fun k hk=>by have:=Q k hk;omega) (by omega);have F9:=zaa (zfu C5.o B0.o (by decide) E);have u:=zaa (And.intro A4 A2);clear l L m S U N O h Y Z X Q A4 A2 E C4 C0 D2 B0 C5 E3 HS;obtain⟨⟨l,L,m,S,U,N,O,h,Y,Z⟩,X⟩:=zaj B5.o;have B4:R≠w.heap.size+1:=by omega
      go_wp2;clear l L m S U N O h Y Z X
      go_roundw
      case rel=>exact⟨j+1+mk.tags.length,nf,rev,D9,C8,ra,rc,by omega,hle,F3,by omega,r,B3.o.setNe B4 _,D1.o.setNew (p:=⟨w.heap.size+1,1,none⟩) (by simp) _,by simp[World.setCell];omega,(zg1 (by simp) _).trans C7.o,heap_setCell_same _ _ 1 _ _ (.slice D9 nf.length C8) B5.o,zc6 I.o (fun k hk=>by have:=u.o.1 k hk;simp;omega) _,zc6 F9.o (fun k hk=>by have:=u.o.2 k hk;simp;omega) _⟩
      case measure=>
       rw[(z3m (B3.o.setNe (p:=⟨w.heap.size+1,1,none⟩) B4 _)).1.2.2.2];simp;omega
     ·have hc:=B7.o;rw[if_neg hle]at hc;obtain⟨rfl,rfl⟩:=hc;have A0:Hid (zfg (logOf d p0) seq i (zc5 seq)=none):=by rw[Hid,B.o,C3.o,if_neg hle]
      clear B7 C3 B B0 C5 C0;obtain⟨⟨l,L,m,S,U,N,O,h,Y,Z⟩,X⟩:=zaj C4.o;go_wp2;obtain⟨W,D⟩:∃W,W=((((((((((w2.setCell ⟨w.heap.size,0,none⟩ (.int .i64 0)).setCell ⟨w.heap.size,1,none⟩ (.slice none 0 0)).setCell ⟨w.heap.size,2,none⟩ (.slice none 0 0)).setCell ⟨w.heap.size,3,none⟩ (.slice none 0 0)).setCell ⟨w.heap.size,4,none⟩ (.bool false)).setCell ⟨w.heap.size,5,none⟩ (.int .i64 0)).setCell ⟨w.heap.size,6,none⟩ (.bool false)).setCell ⟨w.heap.size,7,none⟩ (.int .i64 0)).setCell ⟨w.heap.size,8,none⟩ (.bool false)).setCell ⟨w.heap.size,9,none⟩ (.int .i64 0)):=⟨_,rfl⟩;have A:=zur C4.o (.int .i64 0) (.slice none 0 0) (.slice none 0 0) (.slice none 0 0) (.bool false) (.int .i64 0) (.bool false) (.int .i64 0) (.bool false) (.int .i64 0);rw[←D]at A;obtain⟨⟨y0,y1,y2,y3,y4,y5,y6,y7,y8,y9⟩,_⟩:=zaj A;have y:=zaa D;rw[←D];clear D A l L m S U N O h Y Z X;refine bodyPost_ret (v:=.tuple #[.agg #[.int .i64 0,.slice none 0 0,.slice none 0 0,.slice none 0 0,.bool false,.int .i64 0,.bool false,.int .i64 0,.bool false,.int .i64 0],.bool false]) (by simp[results,results114,go_sem,y0,y1,y2,y3,y4,y5,y6,y7,y8,y9]) rfl ?_;unfold z4p;refine⟨_,false,rfl,?_,?_⟩
      ·rw[y.o];exact((((((((((D2.o.setNew (p:=⟨w.heap.size,0,none⟩) (Nat.le_refl _) _).setNew (p:=⟨w.heap.size,1,none⟩) (Nat.le_refl _) _).setNew (p:=⟨w.heap.size,2,none⟩) (Nat.le_refl _) _).setNew (p:=⟨w.heap.size,3,none⟩) (Nat.le_refl _) _).setNew (p:=⟨w.heap.size,4,none⟩) (Nat.le_refl _) _).setNew (p:=⟨w.heap.size,5,none⟩) (Nat.le_refl _) _).setNew (p:=⟨w.heap.size,6,none⟩) (Nat.le_refl _) _).setNew (p:=⟨w.heap.size,7,none⟩) (Nat.le_refl _) _).setNew (p:=⟨w.heap.size,8,none⟩) (Nat.le_refl _) _).setNew (p:=⟨w.heap.size,9,none⟩) (Nat.le_refl _) _)
      ·rw[zp3,A0.o];exact⟨rfl,rfl⟩
    ·have G5:=G3 hk;have F2:mk.tags=[]:=G0.o (by omega)
     have r:Hid (zfg (logOf d p0) seq i (zc5 seq)=zfg (logOf d p0) seq (j+1) (txW seq info (rev++mk.blocks))):=by
      rw[Hid,B.o,C.o,if_neg (by simp[hq,hk]),if_neg (by omega),zus,F2,if_pos (by rw[za4];simp;omega)];simp[copiesAt]
     clear C B F2;obtain⟨⟨l,L,m,S,U,N,O,h,Y,Z⟩,X⟩:=zaj A6.o;go_wp2_with (at_builtin;refine zp1 _ (w.heap.size+2) rfl _ _ rfl (.slice ra rev.length rc) rev rfl (zah x.o (zab _ _)) a3 c3 mk.blocks rfl (HI.o.below (zab _ _)) (by omega) (by simp;omega) ?_);intro v3 w3 I E;obtain⟨rv,C2⟩:∃rv,rv=rev++mk.blocks:=⟨_,rfl⟩;have F5:rv.length≤20*(j+1):=by rw[C2,List.length_append];omega
     replace I:=zaa (zyq I.o (show _=rv.length by simp[C2]))
     rw[←C2]at I r;clear C2;obtain⟨D3,D7,C6,_,_⟩:=SegI.of_owns I.o;subst C6;have A1:Below K.heap.size K (K.alloc (.cells #[.int .i64 3,.int .i64 seq,.int .i64 mk.pos,.slice a2 mk.tags.length c2,.slice a3 mk.blocks.length c3] 119)):=zab _ _;have Q:∀k,(Value.slice ra rev.length rc).ownBlock=some k→w.heap.size+2≤k:=fun k hk=>(x.o.lt k hk).1;have A4:∀k,(Value.slice D3 rv.length D7).ownBlock=some k→w.heap.size+2≤k:=fun k hk=>(I.o.lt k hk).1;have A5:∀k,(Value.slice ma info.length z).ownBlock=some k→w.heap.size+2≤k:=fun k hk=>(A3.o.lt k hk).1;have G1:K.heap.size+1≤w3.heap.size:=by have:=E.size;simpa using this
     have C7:Hid (w3.heap[w.heap.size]?=_):=(E.block _ (by simp;omega) (fun e=>by have:=Q _ e.symm;omega)).trans (zad A1 A7 F.o);have B5:Hid (w3.heap[w.heap.size+1]?=_):=(E.block _ (by simp;omega) (fun e=>by have:=Q _ e.symm;omega)).trans (zad A1 B6 A6.o);have B3:Hid (Rd w3 R a c a' c' d p0 (j+1)):=(A9.o.below A1).grown E (fun k hk=>by have:=Q k hk;omega);have D1:Hid (But R w.heap.size w w3):=(q.o.trans (But.of_below A1) (by omega)).grown E (fun k hk=>by have:=Q k hk;omega) (by simp;omega);have G4:=zaa (zfu (zah A3.o A1) (zah x.o A1) (by decide) E);have u:=zaa (And.intro A4 A5);clear l L m S U N O h Y Z X Q A4 A5 E F A6 q A3 x A9 HT HI C1 A1;obtain⟨⟨l,L,m,S,U,N,O,h,Y,Z⟩,X⟩:=zaj B5.o;have B4:R≠w.heap.size+1:=by omega
     have G6:w.heap.size+1<w3.heap.size:=by omega
     go_wp2;clear l L m S U N O h Y Z X
     go_roundw
     case rel=>exact⟨j+1,info,rv,ma,z,D3,D7,by omega,by omega,by omega,F5,r,B3.o.setNe B4 _,D1.o.setNew (p:=⟨w.heap.size+1,3,none⟩) (by simp) _,by simp[World.setCell];omega,(zg1 (by simp) _).trans C7.o,heap_setCell_same _ _ 3 _ _ (.slice D3 rv.length D7) B5.o,zc6 G4.o (fun k hk=>by have:=u.o.2 k hk;simp;omega) _,zc6 I.o (fun k hk=>by have:=u.o.1 k hk;simp;omega) _⟩
     case measure=>
      rw[(z3m (B3.o.setNe (p:=⟨w.heap.size+1,3,none⟩) B4 _)).1.2.2.2];simp;omega
    ·have F4:Hid (zfg (logOf d p0) seq i (zc5 seq)=some (j+1,txW seq info rev)):=by rw[Hid,B.o,C.o,if_neg (by simp[hq,hk]),if_pos hk]
     have A2:∀k,(Value.slice ra rev.length rc).ownBlock=some k→w.heap.size+2≤k:=fun k hk=>(x.o.lt k hk).1;have A5:∀k,(Value.slice ma info.length z).ownBlock=some k→w.heap.size+2≤k:=fun k hk=>(A3.o.lt k hk).1;have u:=zaa (And.intro A5 A2);clear C B A2 A5 HT HI C1;obtain⟨⟨l,L,m,S,U,N,O,h,Y,Z⟩,X⟩:=zaj F.o;obtain⟨⟨y0,y1,y2,y3,y4,y5,y6,y7,y8,y9⟩,yf⟩:=zaj A6.o;go_wp2;clear y0 y1 y2 y3 y4 y5 y6 y7 y8 y9 yf;obtain⟨W,D⟩:∃W,W=(((((((((((K.setCell ⟨w.heap.size,0,none⟩ (.int .i64 seq)).setCell ⟨w.heap.size,1,none⟩ (.slice ma info.length z)).setCell ⟨w.heap.size,2,none⟩ (.slice none 0 0)).setCell ⟨w.heap.size,3,none⟩ (.slice ra rev.length rc)).setCell ⟨w.heap.size,4,none⟩ (.bool false)).setCell ⟨w.heap.size,5,none⟩ (.int .i64 0)).setCell ⟨w.heap.size,6,none⟩ (.bool false)).setCell ⟨w.heap.size,7,none⟩ (.int .i64 0)).setCell ⟨w.heap.size,8,none⟩ (.bool false)).setCell ⟨w.heap.size,9,none⟩ (.int .i64 0)).alloc (.cells #[.int .i64 4,.int .i64 seq,.int .i64 mk.pos,.slice a2 mk.tags.length c2,.slice a3 mk.blocks.length c3] 119)):=⟨_,rfl⟩;have A:=zi1 F.o (.int .i64 seq) (.slice ma info.length z) (.slice none 0 0) (.slice ra rev.length rc) (.bool false) (.int .i64 0) (.bool false) (.int .i64 0) (.bool false) (.int .i64 0) (.cells #[.int .i64 4,.int .i64 seq,.int .i64 mk.pos,.slice a2 mk.tags.length c2,.slice a3 mk.blocks.length c3] 119);rw[←D]at A;obtain⟨⟨y0,y1,y2,y3,y4,y5,y6,y7,y8,y9⟩,_⟩:=zaj A;have y:=zaa D;rw[←D];clear D A l L m S U N O h Y Z X;refine bodyPost_ret (v:=.tuple #[.agg #[.int .i64 seq,.slice ma info.length z,.slice none 0 0,.slice ra rev.length rc,.bool false,.int .i64 0,.bool false,.int .i64 0,.bool false,.int .i64 0],.bool true]) (by simp[results,results114,go_sem,y0,y1,y2,y3,y4,y5,y6,y7,y8,y9]) rfl ?_;unfold z4p;refine⟨_,true,rfl,?_,?_⟩
     ·rw[y.o];exact(But.trans ((((((((((q.o.setNew (p:=⟨w.heap.size,0,none⟩) (Nat.le_refl _) _).setNew (p:=⟨w.heap.size,1,none⟩) (Nat.le_refl _) _).setNew (p:=⟨w.heap.size,2,none⟩) (Nat.le_refl _) _).setNew (p:=⟨w.heap.size,3,none⟩) (Nat.le_refl _) _).setNew (p:=⟨w.heap.size,4,none⟩) (Nat.le_refl _) _).setNew (p:=⟨w.heap.size,5,none⟩) (Nat.le_refl _) _).setNew (p:=⟨w.heap.size,6,none⟩) (Nat.le_refl _) _).setNew (p:=⟨w.heap.size,7,none⟩) (Nat.le_refl _) _).setNew (p:=⟨w.heap.size,8,none⟩) (Nat.le_refl _) _).setNew (p:=⟨w.heap.size,9,none⟩) (Nat.le_refl _) _) (But.of_below (zab _ _)) (by simp[World.setCell];omega))
     ·rw[zp3,F4.o];refine⟨rfl,?_,_,_,rfl,⟨?_,?_,?_⟩,rfl⟩
      ·rw[y.o];refine Rd.below ?_ (zab _ _)
       repeat refine Rd.setNe ?_ (show R≠w.heap.size by omega) _
       exact A9.o
      ·rw[y.o];refine za8 (zah ?_ (zab _ _)) (show w.heap.size≤w.heap.size+2 by omega)
       repeat refine zc6 ?_ (fun k e=>by have:=u.o.1 k e;simp;omega) _
       exact A3.o
      ·exact World.ownsRow_nil _ _ _ _
      ·rw[y.o];refine za8 (zah ?_ (zab _ _)) (show w.heap.size≤w.heap.size+2 by omega)
       repeat refine zc6 ?_ (fun k e=>by have:=u.o.2 k e;simp;omega) _
       exact x.o
   ·have B1:(decide (er=0)&&decide (mk.seq=seq))=false:=by
     rw[Bool.and_eq_false_iff];by_cases he:er=0
     ·right;exact decide_eq_false fun hq=>hok ⟨he,hq⟩
     ·left;exact decide_eq_false he
    have A0:Hid (zfg (logOf d p0) seq i (zc5 seq)=none):=by
     rw[Hid,B.o,C.o,if_pos];by_cases he:er=0
     ·exact .inr (.inl fun hq=>hok ⟨he,hq⟩)
     ·exact .inl he
    dsimp only;rw[B1];clear C B hok B1 C9;obtain⟨⟨l,L,m,S,U,N,O,h,Y,Z⟩,X⟩:=zaj F.o;go_wp2;obtain⟨W,D⟩:∃W,W=(((((((((((K.setCell ⟨w.heap.size,0,none⟩ (.int .i64 0)).setCell ⟨w.heap.size,1,none⟩ (.slice none 0 0)).setCell ⟨w.heap.size,2,none⟩ (.slice none 0 0)).setCell ⟨w.heap.size,3,none⟩ (.slice none 0 0)).setCell ⟨w.heap.size,4,none⟩ (.bool false)).setCell ⟨w.heap.size,5,none⟩ (.int .i64 0)).setCell ⟨w.heap.size,6,none⟩ (.bool false)).setCell ⟨w.heap.size,7,none⟩ (.int .i64 0)).setCell ⟨w.heap.size,8,none⟩ (.bool false)).setCell ⟨w.heap.size,9,none⟩ (.int .i64 0)).alloc (.cells #[.int .i64 mk.kind,.int .i64 mk.seq,.int .i64 mk.pos,.slice a2 mk.tags.length c2,.slice a3 mk.blocks.length c3] 119)):=⟨_,rfl⟩;have A:=zi1 F.o (.int .i64 0) (.slice none 0 0) (.slice none 0 0) (.slice none 0 0) (.bool false) (.int .i64 0) (.bool false) (.int .i64 0) (.bool false) (.int .i64 0) (.cells #[.int .i64 mk.kind,.int .i64 mk.seq,.int .i64 mk.pos,.slice a2 mk.tags.length c2,.slice a3 mk.blocks.length c3] 119);rw[←D]at A;obtain⟨⟨y0,y1,y2,y3,y4,y5,y6,y7,y8,y9⟩,_⟩:=zaj A;have y:=zaa D;rw[←D];clear D A l L m S U N O h Y Z X;refine bodyPost_ret (v:=.tuple #[.agg #[.int .i64 0,.slice none 0 0,.slice none 0 0,.slice none 0 0,.bool false,.int .i64 0,.bool false,.int .i64 0,.bool false,.int .i64 0],.bool false]) (by simp[results,results114,go_sem,y0,y1,y2,y3,y4,y5,y6,y7,y8,y9]) rfl ?_;unfold z4p;refine⟨_,false,rfl,?_,?_⟩
    ·rw[y.o];exact(But.trans ((((((((((q.o.setNew (p:=⟨w.heap.size,0,none⟩) (Nat.le_refl _) _).setNew (p:=⟨w.heap.size,1,none⟩) (Nat.le_refl _) _).setNew (p:=⟨w.heap.size,2,none⟩) (Nat.le_refl _) _).setNew (p:=⟨w.heap.size,3,none⟩) (Nat.le_refl _) _).setNew (p:=⟨w.heap.size,4,none⟩) (Nat.le_refl _) _).setNew (p:=⟨w.heap.size,5,none⟩) (Nat.le_refl _) _).setNew (p:=⟨w.heap.size,6,none⟩) (Nat.le_refl _) _).setNew (p:=⟨w.heap.size,7,none⟩) (Nat.le_refl _) _).setNew (p:=⟨w.heap.size,8,none⟩) (Nat.le_refl _) _).setNew (p:=⟨w.heap.size,9,none⟩) (Nat.le_refl _) _) (But.of_below (zab _ _)) (by simp[World.setCell];omega))
    ·rw[zp3,A0.o];exact⟨rfl,rfl⟩
theorem zut{w:World}{B:Nat}{z0 z1 z2 z3 z4:Value}{t:TypeId}(h:w.heap[B]?=some (.cells #[z0,z1,z2,z3,z4] t (0,0)))(v0 v1 v2 v3 v4:Value):
  (((((w.setCell ⟨B,0,none⟩ v0).setCell ⟨B,1,none⟩ v1).setCell ⟨B,2,none⟩ v2).setCell ⟨B,3,none⟩ v3).setCell ⟨B,4,none⟩ v4).heap[B]?=some (.cells #[v0,v1,v2,v3,v4] t (0,0)):=by
 have A:=heap_setCell_same w B 0 _ _ v0 h;have D:=heap_setCell_same _ B 1 _ _ v1 A;have E:=heap_setCell_same _ B 2 _ _ v2 D;have C:=heap_setCell_same _ B 3 _ _ v3 E;exact heap_setCell_same _ B 4 _ _ v4 C
theorem zog{w:World}{B:Nat}{z0 z1 z2 z3 z4:Value}{t:TypeId}(h:w.heap[B]?=some (.cells #[z0,z1,z2,z3,z4] t (0,0)))(v0 v1 v2 v3 v4:Value)(o:Obj):
  ((((((w.setCell ⟨B,0,none⟩ v0).setCell ⟨B,1,none⟩ v1).setCell ⟨B,2,none⟩ v2).setCell ⟨B,3,none⟩ v3).setCell ⟨B,4,none⟩ v4).alloc o).heap[B]?=some (.cells #[v0,v1,v2,v3,v4] t (0,0)):=by
 have A:=zut h v0 v1 v2 v3 v4;exact zad (zab _ o) (Array.getElem?_eq_some_iff.1 A).1 A
def zlm (w w':World)(d:Dk)(e:Ending):Prop:=
 ∃(k q p:Int) (a2:Option Addr) (n2 c2:Nat) (a3:Option Addr) (n3 c3:Nat),e=.returned (.tuple #[.agg #[.int .i64 k,.int .i64 q,.int .i64 p,.slice a2 n2 c2,.slice a3 n3 c3],.int .i64 (scanE d)])∧True∧(scanE d=0→q=(zan d).seq∧p=(zan d).pos)∧Below w.heap.size w w'
theorem zoh(a:Option Addr)(c:Nat)(a':Option Addr)(c':Nat)(d:Dk)(w:World)(hD:IsDk w (.agg #[.slice a d.safe.length c,.slice a' d.wr.length c']) d):
  Calls prog 113 #[.agg #[.slice a d.safe.length c,.slice a' d.wr.length c']] w fun e w'=>zlm w w' d e:=by
 have HD:=zaa hD;clear hD;go_enter func113,ntmps113;go_wp2_with fail;refine(zkx _ d 0 _ (HD.o.below (zae (zab _ _) (zab _ _)))).mono ?_;rintro e w1 ⟨rfl,n⟩;have m:=zaa (zh3 n);have y:w.heap.size+1<w1.heap.size:=by have:=n.size;simp at this;omega
 have s:=zaa (zae (zae (zab _ _) (zab _ _)) n);clear n HD;by_cases hE:readE d 0=0
 ·rw[hE];have HE:=zaa hE;clear hE;go_wp2_with fail;refine(zlk (zal d 0) _).mono ?_;rintro e x ⟨v2,rfl,hN,l⟩;obtain⟨N,c2,O,c3,rfl,_,_,_,_⟩:=hN;obtain⟨M,u⟩:∃M,M=zar (zal d 0):=⟨_,rfl⟩;rw[←u];obtain⟨mk,er⟩:=M;have K:Hid (scanE d=if er≠0∨mk.kind≠1 then 1 else 0):=by rw[Hid,scanE,zan,←u,HE.o];simp
  have z:Hid (zan d=mk):=by rw[Hid,zan,←u]
  clear u;have L:=zaa (zad l y m.o);have A2:w.heap.size+1<x.heap.size:=Nat.lt_of_lt_of_le y l.size;have r:=zaa (zae s.o l);clear l m s;dsimp only;by_cases he:er=0
  ·subst he;by_cases hk:mk.kind=1
   ·have A0:Hid (scanE d=0):=by rw[Hid,K.o,if_neg (by simp[hk])]
    clear K;obtain⟨⟨h,U,k,b,j⟩,I,D,C,J,F⟩:=zjn L.o;go_wp2;obtain⟨W,B⟩:∃W,W=((((((x.setCell ⟨w.heap.size+1,0,none⟩ (.int .i64 1)).setCell ⟨w.heap.size+1,1,none⟩ (.int .i64 mk.seq)).setCell ⟨w.heap.size+1,2,none⟩ (.int .i64 mk.pos)).setCell ⟨w.heap.size+1,3,none⟩ (.slice N mk.tags.length c2)).setCell ⟨w.heap.size+1,4,none⟩ (.slice O mk.blocks.length c3)).alloc (.cells #[.int .i64 1,.int .i64 mk.seq,.int .i64 mk.pos,.slice N mk.tags.length c2,.slice O mk.blocks.length c3] 119)):=⟨_,rfl⟩;have A:=zog L.o (.int .i64 1) (.int .i64 mk.seq) (.int .i64 mk.pos) (.slice N mk.tags.length c2) (.slice O mk.blocks.length c3) (.cells #[.int .i64 1,.int .i64 mk.seq,.int .i64 mk.pos,.slice N mk.tags.length c2,.slice O mk.blocks.length c3] 119);rw[←B]at A;obtain⟨⟨i,S,Z,X,R⟩,_⟩:=zjn A;have Y:=zaa B;rw[←B];clear B A h U k b j I D C J F;refine bodyPost_ret (v:=.tuple #[.agg #[.int .i64 1,.int .i64 mk.seq,.int .i64 mk.pos,.slice N mk.tags.length c2,.slice O mk.blocks.length c3],.int .i64 0]) (by simp[results,results113,go_sem,i,S,Z,X,R]) rfl ?_;rw[zlm,A0.o];refine⟨_,_,_,_,_,_,_,_,_,rfl,?_,?_,?_⟩
    ·exact trivial
    ·intro q;exact⟨by rw[z.o],by rw[z.o]⟩
    ·rw[Y.o];exact((((((r.o.setCell (p:=⟨w.heap.size+1,0,none⟩) (by simp) _).setCell (p:=⟨w.heap.size+1,1,none⟩) (by simp) _).setCell (p:=⟨w.heap.size+1,2,none⟩) (by simp) _).setCell (p:=⟨w.heap.size+1,3,none⟩) (by simp) _).setCell (p:=⟨w.heap.size+1,4,none⟩) (by simp) _).alloc (by simp[World.setCell];omega) _)
   ·have Q:Hid (scanE d=1):=by rw[Hid,K.o,if_pos (.inr hk)]
    have A1:(mk.kind !=1)=true:=by simpa using hk
    clear K;obtain⟨⟨h,U,k,b,j⟩,I,D,C,J,F⟩:=zjn L.o;go_wp2;obtain⟨W,B⟩:∃W,W=((((((x.setCell ⟨w.heap.size+1,0,none⟩ (.int .i64 0)).setCell ⟨w.heap.size+1,1,none⟩ (.int .i64 0)).setCell ⟨w.heap.size+1,2,none⟩ (.int .i64 0)).setCell ⟨w.heap.size+1,3,none⟩ (.slice none 0 0)).setCell ⟨w.heap.size+1,4,none⟩ (.slice none 0 0)).alloc (.cells #[.int .i64 mk.kind,.int .i64 mk.seq,.int .i64 mk.pos,.slice N mk.tags.length c2,.slice O mk.blocks.length c3] 119)):=⟨_,rfl⟩;have A:=zog L.o (.int .i64 0) (.int .i64 0) (.int .i64 0) (.slice none 0 0) (.slice none 0 0) (.cells #[.int .i64 mk.kind,.int .i64 mk.seq,.int .i64 mk.pos,.slice N mk.tags.length c2,.slice O mk.blocks.length c3] 119);rw[←B]at A;obtain⟨⟨i,S,Z,X,R⟩,_⟩:=zjn A;have Y:=zaa B;rw[←B];clear B A h U k b j I D C J F;refine bodyPost_ret (v:=.tuple #[.agg #[.int .i64 0,.int .i64 0,.int .i64 0,.slice none 0 0,.slice none 0 0],.int .i64 (1)]) (by simp[results,results113,go_sem,i,S,Z,X,R]) rfl ?_;rw[zlm,Q.o];refine⟨_,_,_,_,_,_,_,_,_,rfl,?_,?_,?_⟩
    ·exact trivial
    ·intro q;cases q
    ·rw[Y.o];exact((((((r.o.setCell (p:=⟨w.heap.size+1,0,none⟩) (by simp) _).setCell (p:=⟨w.heap.size+1,1,none⟩) (by simp) _).setCell (p:=⟨w.heap.size+1,2,none⟩) (by simp) _).setCell (p:=⟨w.heap.size+1,3,none⟩) (by simp) _).setCell (p:=⟨w.heap.size+1,4,none⟩) (by simp) _).alloc (by simp[World.setCell];omega) _)
  ·have Q:Hid (scanE d=1):=by rw[Hid,K.o,if_pos (.inl he)]
   have A4:(er !=0)=true:=by simpa using he
   clear K;obtain⟨⟨h,U,k,b,j⟩,I,D,C,J,F⟩:=zjn L.o;go_wp2;obtain⟨W,B⟩:∃W,W=((((((x.setCell ⟨w.heap.size+1,0,none⟩ (.int .i64 0)).setCell ⟨w.heap.size+1,1,none⟩ (.int .i64 0)).setCell ⟨w.heap.size+1,2,none⟩ (.int .i64 0)).setCell ⟨w.heap.size+1,3,none⟩ (.slice none 0 0)).setCell ⟨w.heap.size+1,4,none⟩ (.slice none 0 0)).alloc (.cells #[.int .i64 mk.kind,.int .i64 mk.seq,.int .i64 mk.pos,.slice N mk.tags.length c2,.slice O mk.blocks.length c3] 119)):=⟨_,rfl⟩;have A:=zog L.o (.int .i64 0) (.int .i64 0) (.int .i64 0) (.slice none 0 0) (.slice none 0 0) (.cells #[.int .i64 mk.kind,.int .i64 mk.seq,.int .i64 mk.pos,.slice N mk.tags.length c2,.slice O mk.blocks.length c3] 119);rw[←B]at A;obtain⟨⟨i,S,Z,X,R⟩,_⟩:=zjn A;have Y:=zaa B;rw[←B];clear B A h U k b j I D C J F;refine bodyPost_ret (v:=.tuple #[.agg #[.int .i64 0,.int .i64 0,.int .i64 0,.slice none 0 0,.slice none 0 0],.int .i64 (1)]) (by simp[results,results113,go_sem,i,S,Z,X,R]) rfl ?_;rw[zlm,Q.o];refine⟨_,_,_,_,_,_,_,_,_,rfl,?_,?_,?_⟩
   ·exact trivial
   ·intro q;cases q
   ·rw[Y.o];exact((((((r.o.setCell (p:=⟨w.heap.size+1,0,none⟩) (by simp) _).setCell (p:=⟨w.heap.size+1,1,none⟩) (by simp) _).setCell (p:=⟨w.heap.size+1,2,none⟩) (by simp) _).setCell (p:=⟨w.heap.size+1,3,none⟩) (by simp) _).setCell (p:=⟨w.heap.size+1,4,none⟩) (by simp) _).alloc (by simp[World.setCell];omega) _)
 ·have Q:Hid (scanE d=readE d 0):=by rw[Hid,scanE,if_pos hE]
  have A3:(readE d 0 !=0)=true:=by simpa using hE
  have HE:=zaa hE;generalize readE d 0=E at *;clear hE;obtain⟨⟨h,U,k,b,j⟩,I,D,C,J,F⟩:=zjn m.o;go_wp2;obtain⟨W,B⟩:∃W,W=(((((w1.setCell ⟨w.heap.size+1,0,none⟩ (.int .i64 0)).setCell ⟨w.heap.size+1,1,none⟩ (.int .i64 0)).setCell ⟨w.heap.size+1,2,none⟩ (.int .i64 0)).setCell ⟨w.heap.size+1,3,none⟩ (.slice none 0 0)).setCell ⟨w.heap.size+1,4,none⟩ (.slice none 0 0)):=⟨_,rfl⟩;have A:=zut m.o (.int .i64 0) (.int .i64 0) (.int .i64 0) (.slice none 0 0) (.slice none 0 0);rw[←B]at A;obtain⟨⟨i,S,Z,X,R⟩,_⟩:=zjn A;have Y:=zaa B;rw[←B];clear B A h U k b j I D C J F;refine bodyPost_ret (v:=.tuple #[.agg #[.int .i64 0,.int .i64 0,.int .i64 0,.slice none 0 0,.slice none 0 0],.int .i64 (E)]) (by simp[results,results113,go_sem,i,S,Z,X,R]) rfl ?_;rw[zlm,Q.o];refine⟨_,_,_,_,_,_,_,_,_,rfl,?_,?_,?_⟩
  ·exact trivial
  ·intro q;exact absurd q HE.o
  ·rw[Y.o];exact(((((s.o.setCell (p:=⟨w.heap.size+1,0,none⟩) (by simp) _).setCell (p:=⟨w.heap.size+1,1,none⟩) (by simp) _).setCell (p:=⟨w.heap.size+1,2,none⟩) (by simp) _).setCell (p:=⟨w.heap.size+1,3,none⟩) (by simp) _).setCell (p:=⟨w.heap.size+1,4,none⟩) (by simp) _)
theorem zyt{w:World}{B:Nat}{v0 v1 v2:Value}{t:TypeId}(h:w.heap[B]?=some (.cells #[v0,v1,v2] t (0,0))):
  (w.cell? ⟨B,0,none⟩=some v0∧w.cell? ⟨B,1,none⟩=some v1∧w.cell? ⟨B,2,none⟩=some v2)∧∀k,w.frozen? ⟨B,k,none⟩=false:=by
 refine⟨⟨?_,?_,?_⟩,fun k=>frozen_of_row w _ _ _ _ h⟩<;>(rw[cell_of_row w _ _ _ _ _ h];rfl)
theorem zgf{w:World}{B:Nat}{z0 z1 z2:Value}{t:TypeId}(h:w.heap[B]?=some (.cells #[z0,z1,z2] t (0,0)))(v0 v1 v2:Value):
  (((w.setCell ⟨B,0,none⟩ v0).setCell ⟨B,1,none⟩ v1).setCell ⟨B,2,none⟩ v2).heap[B]?=some (.cells #[v0,v1,v2] t (0,0)):=by
 have A:=heap_setCell_same w B 0 _ _ v0 h;have C:=heap_setCell_same _ B 1 _ _ v1 A;exact heap_setCell_same _ B 2 _ _ v2 C
theorem zuu{w:World}{B:Nat}{z0 z1 z2:Value}{t:TypeId}(h:w.heap[B]?=some (.cells #[z0,z1,z2] t (0,0)))(v0 v1 v2:Value)(o:Obj):
  ((((w.setCell ⟨B,0,none⟩ v0).setCell ⟨B,1,none⟩ v1).setCell ⟨B,2,none⟩ v2).alloc o).heap[B]?=some (.cells #[v0,v1,v2] t (0,0)):=by
 have A:=zgf h v0 v1 v2;exact zad (zab _ o) (Array.getElem?_eq_some_iff.1 A).1 A
theorem zfv{w:World}{base:Nat}{e:TypeId}{size:Nat}{v:Value}{n:Nat}{xs:List Value}{B:Nat}{v0 v1 v2:Value}(h:w.ownsRow base e size v n xs)(hb:∀k,v.ownBlock=some k→k≠B):(((w.setCell ⟨B,0,none⟩ v0).setCell ⟨B,1,none⟩ v1).setCell ⟨B,2,none⟩ v2).ownsRow base e size v n xs:=
 zc6 (zc6 (zc6 h (p:=⟨B,0,none⟩) hb v0) (p:=⟨B,1,none⟩) hb v1) (p:=⟨B,2,none⟩) hb v2
theorem OwnR.ne{w:World}{base:Nat}{x:RX}(h:OwnR w base x){B:Nat}(hB:B<base):(∀k,x.m.ownBlock=some k→k≠B)∧(∀k,x.d.ownBlock=some k→k≠B)∧∀k,x.r.ownBlock=some k→k≠B:=
 ⟨fun k hk=>by have:=(h.1.lt k hk).1;omega,fun k hk=>by have:=(h.2.1.lt k hk).1;omega,fun k hk=>by have:=(h.2.2.lt k hk).1;omega⟩
theorem OwnR.set3{w:World}{base B:Nat}{x:RX}{v0 v1 v2:Value}(h:OwnR w base x)(hB:B<base):OwnR (((w.setCell ⟨B,0,none⟩ v0).setCell ⟨B,1,none⟩ v1).setCell ⟨B,2,none⟩ v2) base x:=
 ⟨zfv h.1 (h.ne hB).1,zfv h.2.1 (h.ne hB).2.1,zfv h.2.2 (h.ne hB).2.2⟩
theorem OwnR.base{w:World}{b b':Nat}{x:RX}(h:OwnR w b x)(hb:b'≤b):OwnR w b' x:=⟨za8 h.1 hb,za8 h.2.1 hb,za8 h.2.2 hb⟩
theorem OwnR.but{R base:Nat}{w w':World}{x:RX}(h:OwnR w base x)(hb:But R w.heap.size w w')(hR:R<base):OwnR w' base x:=⟨zeo h.1 hb hR,zeo h.2.1 hb hR,zeo h.2.2 hb hR⟩
def zyu (w:World)(R:Nat):Nat:=match w.cell? ⟨R,3,none⟩ with|some (.int _ n)=>n.toNat|_=>0
theorem Rd.left{w:World}{R:Nat}{a:Option Addr}{c:Nat}{a':Option Addr}{c':Nat}{d:Dk}{p0 i:Nat}(h:Rd w R a c a' c' d p0 i):zyu w R=24 - i:=by
 rw[zyu,(z3m h).1.2.2.2];simp
def ScPost (w w':World)(d:Dk)(e:Ending):Prop:=
 ∃v,e=.returned (.tuple #[v,.int .i64 (scanE d)])∧Below w.heap.size w w'∧(scanE d≠0→v=.agg #[.slice none 0 0,.int .i64 0,.int .i64 0])∧
  (scanE d=0→∃(q:List RX) (va:Option Addr) (vc:Nat),v=.agg #[.slice va q.length vc,.int .i64 ((zan d).seq+(q.length:Int)),.int .i64 ((((zan d).pos.toNat+(zbt d).2)%24:Nat):Int)]∧q.map (·.t)=(zbt d).1∧w'.ownsRow w.heap.size 40 10 (.slice va q.length vc) q.length (cellsX q)∧∀x∈q,OwnR w' w.heap.size x)
theorem z13(a:Option Addr)(c:Nat)(a':Option Addr)(c':Nat)(d:Dk)(w:World)(hD:IsDk w (.agg #[.slice a d.safe.length c,.slice a' d.wr.length c']) d):
  Calls prog 76 #[.agg #[.slice a d.safe.length c,.slice a' d.wr.length c']] w fun e w'=>ScPost w w' d e:=by
 have HD:=zaa hD;clear hD;go_enter func76,ntmps76;go_wp2_with fail;refine(zoh a c a' c' d _ (HD.o.below (zae (zab _ _) (zab _ _)))).mono ?_;rintro e A ⟨k,u,p,a2,n2,c2,a3,n3,c3,rfl,_,C1,A3⟩;have K0:=zaa (zhl A3);have KB:=zaa (zh3 A3);have E9:w.heap.size+1<A.heap.size:=by have:=A3.size;simp at this;omega
 have F5:w.heap.size<A.heap.size:=by omega
 have B7:=zaa (zae (zae (zab _ _) (zab _ _)) A3);clear A3;by_cases hE:scanE d=0
 ·obtain⟨rfl,rfl⟩:=C1 hE;rw[hE];have E1:=zaa hE
  have F2:za0 d=true∧(1≤(zan d).seq∧(zan d).seq≤2147483647)∧0≤(zan d).pos∧(zan d).pos≤23:=by
   have h:=hE;unfold scanE at h;split at h
   ·rename_i h1;exact absurd h h1
   ·rename_i h1;split at h
    ·cases h
    ·rename_i h2
     have h3:(zar (zal d 0)).2=0:=by
      by_cases D:(zar (zal d 0)).2=0
      ·exact D
      ·exact absurd (.inl D) h2
     have h4:=zk3 h3
     have h5:readE d 0=0:=by
      by_cases D:readE d 0=0
      ·exact D
      ·exact absurd D h1
     refine⟨?_,?_⟩
     ·unfold readE at h5;split at h5
      ·rename_i D;exact(Bool.and_eq_true_iff.1 D).1
      ·cases h5
     ·unfold goodM at h4;split at h4
      ·cases h4
      ·split at h4
       ·cases h4
       ·rename_i D;show(1≤(zar (zal d 0)).1.seq∧_)∧_;unfold zan;omega
  obtain⟨hg,⟨F9,G3⟩,F1,E8⟩:=F2;have HL:Hid (zbt d=scanP (logOf d (zan d).pos) 0 (zan d).seq []):=rfl;obtain⟨C,hp⟩:∃C:Nat,(zan d).pos=(C:Int):=⟨(zan d).pos.toNat,by omega⟩;have B0:Hid ((zan d).pos.toNat=C):=by rw[Hid,hp];rfl
  rw[hp]at HL⊢;have F7:C<24:=by omega
  have G6:=zaa hp;generalize hsq0:(zan d).seq=u at *;have D8:=zaa hsq0;clear hE C1 hp F1 E8 hsq0;obtain⟨⟨Y,l⟩,r⟩:=zgr K0.o;go_wp2;clear Y l r;obtain⟨W0,A9⟩:∃W0,W0=((A.alloc (.cells #[.int .i64 k,.int .i64 u,.int .i64 (C:Int),.slice a2 n2 c2,.slice a3 n3 c3] 119)).alloc (.cells #[.slice none 0 0,.int .i64 u,.int .i64 (C:Int)] 90)).alloc (.cells #[.slice a d.safe.length c,.slice a' d.wr.length c',.int .i64 (C:Int),.int .i64 24] 170):=⟨_,rfl⟩;have B8:Below A.heap.size A W0:=by rw[A9];exact zae (zae (zab _ _) (zab _ _)) (zab _ _)
  have L:W0.heap[A.heap.size+1]?=some (.cells #[.slice none 0 0,.int .i64 u,.int .i64 (C:Int)] 90 (0,0))∧W0.heap[A.heap.size+1+1]?=some (.cells #[.slice a d.safe.length c,.slice a' d.wr.length c',.int .i64 (C:Int),.int .i64 24] 170 (0,0))∧A.heap.size+1+1<W0.heap.size:=by
   rw[A9];obtain⟨_,K2,K3,hs⟩:=zj5 (Below.refl _ _);exact⟨K2,K3,hs⟩
  rw[←A9];clear A9;have D9:=zaa L.1;have C5:(C+0)%24=C:=by omega
  have C7:Hid (Rd W0 (A.heap.size+1+1) a c a' c' d C 0):=by rw[Hid,Rd,C5];exact L.2.1
  have D4:=L.2.2;have C8:=zaa (zad B8 E9 KB.o);have D3:=zaa (zae B7.o B8);have O:Hid (scanP (logOf d C) 0 (u+(([]:List RX).length:Int)) (([]:List RX).map (·.t))=zbt d):=by rw[Hid,HL.o];simp
  clear L B8 KB B7 K0 HL
  go_loopw [9] (fun _ wr=>∃(pos:Nat) (B:Int) (q:List RX) (U:Option Addr) (X:Nat),pos≤24∧B=u+(q.length:Int)∧q.length≤pos∧Hid (scanP (logOf d C) pos B (q.map (·.t))=zbt d)∧Hid (Rd wr (A.heap.size+1+1) a c a' c' d C pos)∧Hid (Below w.heap.size w wr)∧A.heap.size+1+1<wr.heap.size∧Hid (wr.heap[w.heap.size+1]?=some (.cells #[.slice none 0 0,.int .i64 0,.int .i64 0] 90 (0,0)))∧
    Hid (wr.heap[A.heap.size+1]?=some (.cells #[.slice U q.length X,.int .i64 B,.int .i64 (((C+pos)%24:Nat):Int)] 90 (0,0)))∧Hid (wr.ownsRow (A.heap.size+3) 40 10 (.slice U q.length X) q.length (cellsX q))∧Hid (∀x∈q,OwnR wr (A.heap.size+3) x))
   (fun _ wr=>zyu wr (A.heap.size+1+1))
  case atStart=>exact⟨0,u+(([]:List RX).length:Int),[],none,0,Nat.zero_le _,rfl,Nat.zero_le _,O,C7,D3,D4,C8,by rw[C5];simpa using D9,World.ownsRow_nil _ _ _ _,fun x D=>(by cases D)⟩
  case round=>
   clear D9 C7 D4 C8 D3 O;obtain⟨pos,B,q,U,X,E3,D5,G8,O,B6,HB,G7,KB,KF,HO,HX⟩:=hrel;rw[B6.o.left];have A1:=zaa D5;clear D5;have C4:w.heap.size≤A.heap.size+1+1:=by omega
   by_cases hlt:B<2147483647
   ·obtain⟨⟨Y,l,x2⟩,r⟩:=zyt KF.o;go_wp2_with fail;refine(zv5 (A.heap.size+1+1) a c a' c' d C pos B wr w B6.o E3 HD.o hg HB.o C4).mono ?_;rintro e K ⟨v,b,rfl,I,hT⟩;have F8:=I.size;have i:Hid (K.heap[w.heap.size+1]?=_):=(I.block _ (by omega) (by omega)).trans KB.o;have R:Hid (K.heap[A.heap.size+1]?=_):=(I.block _ (by omega) (by omega)).trans KF.o;have A6:Hid (Below w.heap.size w K):=I.below HB.o HB.o.size C4;have M:=zaa (zeo HO.o I (by omega));have A4:Hid (∀x∈q,OwnR K (A.heap.size+3) x):=fun x D=>(HX.o x D).but I (by omega);clear Y l x2 r KB KF HB HO HX B6
    cases hrun:zfg (logOf d C) B pos (zc5 B) with
    |none=>
     rw[zp3,hrun]at hT;obtain⟨rfl,rfl⟩:=hT;have Z:Hid (zbt d=(q.map (·.t),pos)):=by rw[Hid,←O.o,scanP,dif_pos hlt,hrun]
     clear hrun O I;have B1:w.heap.size+1<K.heap.size:=by omega
     have B2:A.heap.size+1<K.heap.size:=by omega
     obtain⟨Q,F⟩:∃Q:Nat,Q=(C+pos)%24:=⟨_,rfl⟩;rw[←F]at R;have A5:=zaa F;clear F;obtain⟨⟨z0,z1,z2⟩,zf⟩:=zyt i.o;obtain⟨⟨Y,l,x2⟩,r⟩:=zyt R.o;go_wp2;clear Y l x2 r;obtain⟨W,N⟩:∃W,W=((((K.setCell ⟨w.heap.size+1,0,none⟩ (.slice U q.length X)).setCell ⟨w.heap.size+1,1,none⟩ (.int .i64 B)).setCell ⟨w.heap.size+1,2,none⟩ (.int .i64 (Q:Int))).alloc (.cells #[.int .i64 0,.slice none 0 0,.slice none 0 0,.slice none 0 0,.bool false,.int .i64 0,.bool false,.int .i64 0,.bool false,.int .i64 0] 40)):=⟨_,rfl⟩;have J:=zuu i.o (.slice U q.length X) (.int .i64 B) (.int .i64 (Q:Int)) (.cells #[.int .i64 0,.slice none 0 0,.slice none 0 0,.slice none 0 0,.bool false,.int .i64 0,.bool false,.int .i64 0,.bool false,.int .i64 0] 40);rw[←N]at J;obtain⟨⟨y0,y1,y2⟩,_⟩:=zyt J;have HW:=zaa N;rw[←N];clear N J z0 z1 z2 zf;refine bodyPost_ret (v:=.tuple #[.agg #[.slice U q.length X,.int .i64 B,.int .i64 (Q:Int)],.int .i64 0]) (by simp[results,results76,go_sem,y0,y1,y2]) rfl ?_;rw[ScPost,E1.o];refine⟨_,rfl,?_,fun h=>absurd rfl h,fun _=>⟨q,U,X,?_,?_,?_,?_⟩⟩
     ·rw[HW.o];exact(((A6.o.setCell (p:=⟨w.heap.size+1,0,none⟩) (by simp) _).setCell (p:=⟨w.heap.size+1,1,none⟩) (by simp) _).setCell (p:=⟨w.heap.size+1,2,none⟩) (by simp) _).alloc (by simp[World.setCell];omega) _
     ·rw[B0.o,Z.o,D8.o,←A1.o,A5.o]
     ·rw[Z.o]
     ·rw[HW.o];refine za8 (zah (zfv M.o ?_) (zab _ _)) (show w.heap.size≤A.heap.size+3 by omega);intro k m;have:=(M.o.lt k m).1;omega
     ·intro x D;rw[HW.o];exact OwnR.base (OwnR.below (OwnR.set3 (A4.o x D) (by omega)) (zab _ _)) (by omega)
    |some nt=>
     obtain⟨n,t⟩:=nt;rw[zp3,hrun]at hT;obtain⟨rfl,C9,tm,tr,rfl,E0,ht⟩:=hT;have hn:=zdl (logOf d C) B 24 pos (zc5 B) n t (by rw[za4];omega) hrun;rw[za4]at hn;have B5:Hid (scanP (logOf d C) n (B+1) (q.map (·.t)++[t])=zbt d):=by rw[Hid,←O.o,scanP.eq_def (logOf d C) pos,dif_pos hlt,hrun]
     have A8:Hid (OwnR K (A.heap.size+3) ⟨tm,.slice none 0 0,tr,t⟩):=E0.base (by omega);obtain⟨s,z,E4⟩:∃s z,t=txW B s z:=⟨_,_,ht⟩;subst E4;obtain⟨ma,mc,_,_,ra,rc,e1,_,e3,_⟩:=A8.o.tx;simp only at e1 e3;subst e1 e3;have C6:=zaa C9;clear hrun O I E0 ht C9;have B1:w.heap.size+1<K.heap.size:=by omega
     have B2:A.heap.size+1<K.heap.size:=by omega
     have F6:q.length≤24:=by omega
     obtain⟨⟨Y,l,x2⟩,r⟩:=zyt R.o;go_wp2_with (at_builtin;refine zsq rfl _ _ rfl (A.heap.size+3) _ q rfl (zah M.o (zae (zab _ _) (zab _ _))) (K.heap.size+1) ⟨.slice ma (txW B s z).info.length mc,.slice none 0 0,.slice ra (txW B s z).rev.length rc,txW B s z⟩ rfl (z43 (by simp[go_sem,txW]) (by simp[go_sem,txW]) (by simp[go_sem,txW]) (by simp[go_sem,txW]) (by simp[go_sem,txW]) (by simp[go_sem,txW]) (by simp[go_sem,txW]) (by simp[go_sem,txW]) (by simp[go_sem,txW]) (by simp[go_sem,txW])) A8.o.one (by omega) (by simp;omega) ?_);intro v3 w3 D7 j;obtain⟨y,A0⟩:∃y,y=q++[(⟨.slice ma (txW B s z).info.length mc,.slice none 0 0,.slice ra (txW B s z).rev.length rc,txW B s z⟩:RX)]:=⟨_,rfl⟩;have B3:y.length=q.length+1:=by rw[A0];simp
     have A7:=zyq D7 (show _=y.length by simp[A0]);rw[←A0]at A7;have S:Below K.heap.size K _:=zae (zab K (.cells #[.int .i64 B,.slice ma s.length mc,.slice none 0 0,.slice ra z.length rc,.bool false,.int .i64 0,.bool false,.int .i64 0,.bool false,.int .i64 0] 40 (0,0))) (zab _ (.cells #[.int .i64 B,.slice ma s.length mc,.slice none 0 0,.slice ra z.length rc,.bool false,.int .i64 0,.bool false,.int .i64 0,.bool false,.int .i64 0] 40 (0,0)));have A2:∀k,(Value.slice U q.length X).ownBlock=some k→A.heap.size+3≤k:=fun k m=>(M.o.lt k m).1;have G4:K.heap.size+2≤w3.heap.size:=by have:=j.size;simpa using this
     have E6:Hid (∀x∈y,OwnR w3 (A.heap.size+3) x):=by
      intro x D;rw[A0]at D
      have F3:OwnR K (A.heap.size+3) x:=by
       rcases List.mem_append.1 D with h|h
       ·exact A4.o x h
       ·rw[List.mem_singleton.1 h];exact A8.o
      exact(F3.below S).grown (zah M.o S) j
     have E2:Hid (scanP (logOf d C) n (B+1) (y.map (·.t))=zbt d):=by rw[Hid,A0,List.map_append];exact B5.o
     have D6:Hid (B+1=u+(y.length:Int)):=by rw[Hid,B3,A1.o];omega
     have E7:Hid (w3.heap[w.heap.size+1]?=_):=(j.block _ (by simp;omega) (fun e=>by have:=A2 _ e.symm;omega)).trans (zad S B1 i.o);have D1:Hid (w3.heap[A.heap.size+1]?=_):=(j.block _ (by simp;omega) (fun e=>by have:=A2 _ e.symm;omega)).trans (zad S B2 R.o);have B9:Hid (Rd w3 (A.heap.size+1+1) a c a' c' d C n):=(C6.o.below S).grown j (fun k m=>by have:=A2 k m;omega);have F0:Hid (Below w.heap.size w w3):=(zae A6.o S).grown j (zae A6.o S).size (fun k m=>by have:=A2 k m;omega);have D2:=zaa A7
     obtain⟨B4,C0,E5⟩:∃B4 C0,v3=.slice B4 y.length C0:=by
      rcases A7.2 with⟨e,h0⟩|⟨g,cap,cur,e,_⟩
      ·exact absurd h0 (by omega)
      ·exact⟨_,_,e⟩
     subst E5;obtain⟨Q,F⟩:∃Q:Nat,Q=(C+n)%24:=⟨_,rfl⟩;have A5:=zaa F;have C2:=B9.o;rw[Rd,←F]at C2;obtain⟨⟨r0,r1,r2,r3⟩,rf⟩:=z3m C2;have G2:IntKind.i64.wrap (B+1)=B+1:=by rw[IntKind.wrap_i64];have:=A1.o;omega
     clear Y l x2 r A0 D7 A7 S A2 j A4 A8 B5 i R C6 A6 M F C2 B3;obtain⟨⟨Y,l,x2⟩,r⟩:=zyt D1.o;have G1:A.heap.size+1<w3.heap.size:=by omega
     have G0:A.heap.size+1+1<w3.heap.size:=by omega
     have C3:y.length≤n:=by have h1:=D6.o;have h2:=A1.o;omega
     go_wp2;clear Y l x2 r r0 r1 r2 r3 rf;refine⟨⟨_,_,_,_,_,_,_,_,_,_,_,_,_,_,_,_,_,_,_,_,_,_,_,_,_,_,_,_,_,?rel,rfl⟩,?measure⟩
     case rel=>exact⟨n,B+1,y,B4,C0,hn.2,D6.o,C3,E2,((B9.o.setNe (p:=⟨A.heap.size+1,0,none⟩) (by simp) _).setNe (p:=⟨A.heap.size+1,1,none⟩) (by simp) _).setNe (p:=⟨A.heap.size+1,2,none⟩) (by simp) _,((F0.o.setCell (p:=⟨A.heap.size+1,0,none⟩) (by simp;omega) _).setCell (p:=⟨A.heap.size+1,1,none⟩) (by simp;omega) _).setCell (p:=⟨A.heap.size+1,2,none⟩) (by simp;omega) _,by simp[World.setCell];omega,(zg1 (p:=⟨A.heap.size+1,2,none⟩) (by simp;omega) _).trans ((zg1 (p:=⟨A.heap.size+1,1,none⟩) (by simp;omega) _).trans ((zg1 (p:=⟨A.heap.size+1,0,none⟩) (by simp;omega) _).trans E7.o)),by rw[←A5.o];exact zgf D1.o _ _ _,zfv D2.o (fun k m=>by have:=(D2.o.lt k m).1;omega),fun x D=>(E6.o x D).set3 (by omega)⟩
     case measure=>
      rw[(((B9.o.setNe (p:=⟨A.heap.size+1,0,none⟩) (by simp) _).setNe (p:=⟨A.heap.size+1,1,none⟩) (by simp) _).setNe (p:=⟨A.heap.size+1,2,none⟩) (by simp) _).left];omega
   ·have Z:Hid (zbt d=(q.map (·.t),pos)):=by rw[Hid,←O.o,scanP,dif_neg hlt]
    have i:=KB;have R:=KF;have M:=HO;have A4:=HX;clear KB KF HO HX O;have B1:w.heap.size+1<wr.heap.size:=by omega
    have B2:A.heap.size+1<wr.heap.size:=by omega
    obtain⟨Q,F⟩:∃Q:Nat,Q=(C+pos)%24:=⟨_,rfl⟩;rw[←F]at R;have A5:=zaa F;clear F;obtain⟨⟨z0,z1,z2⟩,zf⟩:=zyt i.o;obtain⟨⟨Y,l,x2⟩,r⟩:=zyt R.o;go_wp2;clear Y l x2 r;obtain⟨W,N⟩:∃W,W=(((wr.setCell ⟨w.heap.size+1,0,none⟩ (.slice U q.length X)).setCell ⟨w.heap.size+1,1,none⟩ (.int .i64 B)).setCell ⟨w.heap.size+1,2,none⟩ (.int .i64 (Q:Int))):=⟨_,rfl⟩;have J:=zgf i.o (.slice U q.length X) (.int .i64 B) (.int .i64 (Q:Int));rw[←N]at J;obtain⟨⟨y0,y1,y2⟩,_⟩:=zyt J;have HW:=zaa N;rw[←N];clear N J z0 z1 z2 zf;refine bodyPost_ret (v:=.tuple #[.agg #[.slice U q.length X,.int .i64 B,.int .i64 (Q:Int)],.int .i64 0]) (by simp[results,results76,go_sem,y0,y1,y2]) rfl ?_;rw[ScPost,E1.o];refine⟨_,rfl,?_,fun h=>absurd rfl h,fun _=>⟨q,U,X,?_,?_,?_,?_⟩⟩
    ·rw[HW.o];exact((HB.o.setCell (p:=⟨w.heap.size+1,0,none⟩) (by simp) _).setCell (p:=⟨w.heap.size+1,1,none⟩) (by simp) _).setCell (p:=⟨w.heap.size+1,2,none⟩) (by simp) _
    ·rw[B0.o,Z.o,D8.o,←A1.o,A5.o]
    ·rw[Z.o]
    ·rw[HW.o];refine za8 (zfv M.o ?_) (show w.heap.size≤A.heap.size+3 by omega);intro k m;have:=(M.o.lt k m).1;omega
    ·intro x D;rw[HW.o];exact OwnR.base (OwnR.set3 (A4.o x D) (by omega)) (by omega)
 ·have G5:(scanE d !=0)=true:=by simpa using hE
  have HE:=zaa hE;clear C1 hE;generalize hEE:scanE d=E at *;have F4:=zaa hEE;clear hEE;obtain⟨⟨z0,z1,z2⟩,zf⟩:=zyt KB.o;go_wp2;obtain⟨W,N⟩:∃W,W=((((A.setCell ⟨w.heap.size+1,0,none⟩ (.slice none 0 0)).setCell ⟨w.heap.size+1,1,none⟩ (.int .i64 0)).setCell ⟨w.heap.size+1,2,none⟩ (.int .i64 0)).alloc (.cells #[.int .i64 k,.int .i64 u,.int .i64 p,.slice a2 n2 c2,.slice a3 n3 c3] 119)):=⟨_,rfl⟩;have J:=zuu KB.o (.slice none 0 0) (.int .i64 0) (.int .i64 0) (.cells #[.int .i64 k,.int .i64 u,.int .i64 p,.slice a2 n2 c2,.slice a3 n3 c3] 119);rw[←N]at J;obtain⟨⟨y0,y1,y2⟩,_⟩:=zyt J;have HW:=zaa N;rw[←N];clear N J z0 z1 z2 zf;refine bodyPost_ret (v:=.tuple #[.agg #[.slice none 0 0,.int .i64 0,.int .i64 0],.int .i64 E]) (by simp[results,results76,go_sem,y0,y1,y2]) rfl ?_;rw[ScPost,F4.o];refine⟨_,rfl,?_,fun _=>rfl,fun h=>absurd h HE.o⟩;rw[HW.o];exact(((B7.o.setCell (p:=⟨w.heap.size+1,0,none⟩) (by simp) _).setCell (p:=⟨w.heap.size+1,1,none⟩) (by simp) _).setCell (p:=⟨w.heap.size+1,2,none⟩) (by simp) _).alloc (by simp[World.setCell];omega) _
theorem zyw(log:List ByteArray):∀(f pos:Nat) (seq:Int) (acc:List Tx),log.length - pos≤f→(scanP log pos seq acc).1.length≤acc.length+f:=by
 intro f
 induction f with
 |zero=>
  intro pos seq acc A;rw[scanP];split
  ·rw[zfg,dif_neg (by omega)];exact Nat.le_refl _
  ·exact Nat.le_refl _
 |succ f ih=>
  intro pos seq acc A;rw[scanP];split
  ·split
   ·exact Nat.le_add_right _ _
   ·rename_i n t B;have hb:=zdl log seq _ pos _ n t (Nat.le_refl _) B;have:=ih n (seq+1) (acc++[t]) (by omega);rw[List.length_append,List.length_singleton]at this;omega
  ·exact Nat.le_add_right _ _
def fndL (d:Dk):List Tx:=if scanE d=0 then(zbt d).1 else[]
def fndN (d:Dk):Int:=if scanE d=0 then(zan d).seq+((zbt d).1.length:Int) else 0
def fndP (d:Dk):Int:=if scanE d=0 then((((zan d).pos.toNat+(zbt d).2)%24:Nat):Int) else 0
theorem zoi(d:Dk):(fndL d).length≤24:=by
 unfold fndL;split
 ·have:=zyw (logOf d (zan d).pos) 24 0 (zan d).seq [] (by rw[za4];omega)
  simpa[zbt] using this
 ·exact Nat.zero_le _
theorem ScPost.found{w w':World}{d:Dk}{e:Ending}(h:ScPost w w' d e):∃va vc,e=.returned (.tuple #[.agg #[.slice va (fndL d).length vc,.int .i64 (fndN d),.int .i64 (fndP d)],.int .i64 (scanE d)])∧SegTx w' va (fndL d)∧Below w.heap.size w w':=by
 obtain⟨v,rfl,hb,J,K⟩:=h;by_cases hE:scanE d=0
 ·obtain⟨q,va,vc,rfl,B,E,I⟩:=K hE;obtain⟨a,c,D,F,_⟩:=SegTx.of_owns E I;simp only[Value.slice.injEq]at D;obtain⟨rfl,_,rfl⟩:=D;have C:fndL d=q.map (·.t):=by rw[fndL,if_pos hE,B]
  have A:q.length=(zbt d).1.length:=by rw[←B,List.length_map]
  refine⟨va,vc,?_,by rw[C];exact F,hb⟩;rw[C,fndN,fndP,if_pos hE,if_pos hE,List.length_map,A]
 ·rw[J hE];refine⟨none,0,?_,.inl (by rw[fndL,if_neg hE]),hb⟩;rw[fndL,fndN,fndP,if_neg hE,if_neg hE,if_neg hE];rfl
