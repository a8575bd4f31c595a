/-
  
-/
import Derived.Test.YtjnpndfpajjihacGreatXScanC
import Derived.Test.YtjnpndfpajjihacGreatGrTopOrdered18
set_option maxRecDepth 100000
set_option maxHeartbeats 40000000
namespace Go.Proofs.YtjnpndfpajjihacGreat
open Go.Proofs.Tryz
open Go.RowKit
theorem zp9(w:World)(base:Nat){ops:Array Oper}{rest:List Oper}{o:Oper}{a:Act}{Q:Exit→Act→World→Prop}(hgd:o.guard=none)(s x:Operand)
  (ho:o.op=.call {callee:=.builtin .append,args:=#[s,x],argTypes:=#[35,35]})
  (v:Value) (q:List Int) (hs:a.eval s=v) (hown:w.ownsRow base 3 1 v q.length (cellsI q)) (ao:Option Addr) (c:Nat) (l:List Int) (hx:a.eval x=.slice ao l.length c) (hS:SegI w ao l)
  (hn:q.length+l.length≤1000) (hbase:base≤w.heap.size)
  (h:∀v' w',Hid (w'.ownsRow base 3 1 v' (q++l).length (cellsI (q++l)))→w.grownBy w' v.ownBlock→wpList prog ops Q rest (a.put o.dst v') w'):wpList prog ops Q (o::rest) a w:=by
 obtain⟨E,I,C,D,B⟩:=info_parts zse
 cases ao with
 |none=>
  have J:l=[]:=by rcases hS with h|⟨b,off,he,_⟩;exact h;cases he
  subst J;refine Lib.wpList_append_run w hgd s x _ _ ho _ _ hs hx v w (zgz w base o.type v q.length c (cellsI q) hown) (h v w ?_ ⟨rfl,rfl,rfl,Nat.le_refl _,fun _ _ _=>rfl⟩);rw[List.append_nil];exact hown
 |some ad=>
  refine wpList_append_own w hgd s x 35 ho base 3 E (.int .i64 0) 1 8 underlying35 I C D B rfl (by decide) v q.length (cellsI q) hs hown ad l.length c (cellsI l) hx (zdp l) ?_ zjt (by unfold maxLen;omega) (by omega) hbase ?_
  ·intro j u A;rcases hS with h|⟨b,off,he,hlt,hc⟩
   ·rw[h]at A;simp[cellsI]at A
   ·cases he;rw[Addr.add_lit];exact SegI.news hc j u A
  ·intro v' w' K F _;refine h v' w' ?_ F;rw[Hid,zf7,List.length_append];exact K
theorem zqa(w:World)(base:Nat){ops:Array Oper}{rest:List Oper}{o:Oper}{a:Act}{Q:Exit→Act→World→Prop}(hgd:o.guard=none)(s x:Operand)
  (ho:o.op=.call {callee:=.builtin .append,args:=#[s,x],argTypes:=#[34,34]})
  (v:Value) (q:List (Int×ByteArray)) (hs:a.eval s=v) (hown:w.ownsRow base 84 2 v q.length (cellsC q)) (ao:Option Addr) (c:Nat) (l:List (Int×ByteArray)) (hx:a.eval x=.slice ao l.length c) (hS:SegW w ao l)
  (hn:q.length+l.length≤1000) (hbase:base≤w.heap.size)
  (h:∀v' w',Hid (w'.ownsRow base 84 2 v' (q++l).length (cellsC (q++l)))→w.grownBy w' v.ownBlock→wpList prog ops Q rest (a.put o.dst v') w'):wpList prog ops Q (o::rest) a w:=by
 obtain⟨E,I,C,D,B⟩:=info_parts zvo
 cases ao with
 |none=>
  have J:l=[]:=by rcases hS with h|⟨b,off,he,_⟩;exact h;cases he
  subst J;refine Lib.wpList_append_run w hgd s x _ _ ho _ _ hs hx v w (zgy w base o.type v q.length c (cellsC q) hown) (h v w ?_ ⟨rfl,rfl,rfl,Nat.le_refl _,fun _ _ _=>rfl⟩);rw[List.append_nil];exact hown
 |some ad=>
  refine wpList_append_own w hgd s x 34 ho base 84 E (.agg #[.int .i64 0,.string ⟨#[]⟩]) 2 24 underlying34 I C D B rfl (by decide) v q.length (cellsC q) hs hown ad l.length c (cellsC l) hx (zc2 l) ?_ (zfm l) (by unfold maxLen;omega) (by omega) hbase ?_
  ·intro j u A;rcases hS with h|⟨b,off,he,hlt,hc⟩
   ·rw[h]at A;simp[cellsC]at A
   ·cases he;rw[Addr.add_lit];exact SegC.news hc j u A
  ·intro v' w' K F _;refine h v' w' ?_ F;rw[Hid,zc3,List.length_append];exact K
theorem zuv{w:World}{B:Nat}{u0 u1 u2 u3 u4 u5 u6 u7 u8 u9:Value}{t:TypeId}(h:w.heap[B]?=some (.cells #[u0,u1,u2,u3,u4,u5,u6,u7,u8,u9] t (0,0)))(v0 v1 v2 v3 v4 v5 v6 v7 v8 v9:Value):
  (((((((((((w.setCell ⟨B,0,none⟩ v0).setCell ⟨B,1,none⟩ v1).setCell ⟨B,2,none⟩ v2).setCell ⟨B,3,none⟩ v3).setCell ⟨B,4,none⟩ v4).setCell ⟨B,5,none⟩ v5).setCell ⟨B,6,none⟩ v6).setCell ⟨B,7,none⟩ v7).setCell ⟨B,8,none⟩ v8).setCell ⟨B,9,none⟩ v9)).heap[B]?=some (.cells #[v0,v1,v2,v3,v4,v5,v6,v7,v8,v9] t (0,0)):=by
 have L:(w.setCell ⟨B,0,none⟩ v0).heap[B]?=some (.cells #[v0,u1,u2,u3,u4,u5,u6,u7,u8,u9] t (0,0)):=heap_setCell_same _ B 0 _ _ v0 h;have J:((w.setCell ⟨B,0,none⟩ v0).setCell ⟨B,1,none⟩ v1).heap[B]?=some (.cells #[v0,v1,u2,u3,u4,u5,u6,u7,u8,u9] t (0,0)):=heap_setCell_same _ B 1 _ _ v1 L;have C:(((w.setCell ⟨B,0,none⟩ v0).setCell ⟨B,1,none⟩ v1).setCell ⟨B,2,none⟩ v2).heap[B]?=some (.cells #[v0,v1,v2,u3,u4,u5,u6,u7,u8,u9] t (0,0)):=heap_setCell_same _ B 2 _ _ v2 J;have E:((((w.setCell ⟨B,0,none⟩ v0).setCell ⟨B,1,none⟩ v1).setCell ⟨B,2,none⟩ v2).setCell ⟨B,3,none⟩ v3).heap[B]?=some (.cells #[v0,v1,v2,v3,u4,u5,u6,u7,u8,u9] t (0,0)):=heap_setCell_same _ B 3 _ _ v3 C;have K:(((((w.setCell ⟨B,0,none⟩ v0).setCell ⟨B,1,none⟩ v1).setCell ⟨B,2,none⟩ v2).setCell ⟨B,3,none⟩ v3).setCell ⟨B,4,none⟩ v4).heap[B]?=some (.cells #[v0,v1,v2,v3,v4,u5,u6,u7,u8,u9] t (0,0)):=heap_setCell_same _ B 4 _ _ v4 E;have I:((((((w.setCell ⟨B,0,none⟩ v0).setCell ⟨B,1,none⟩ v1).setCell ⟨B,2,none⟩ v2).setCell ⟨B,3,none⟩ v3).setCell ⟨B,4,none⟩ v4).setCell ⟨B,5,none⟩ v5).heap[B]?=some (.cells #[v0,v1,v2,v3,v4,v5,u6,u7,u8,u9] t (0,0)):=heap_setCell_same _ B 5 _ _ v5 K;have D:(((((((w.setCell ⟨B,0,none⟩ v0).setCell ⟨B,1,none⟩ v1).setCell ⟨B,2,none⟩ v2).setCell ⟨B,3,none⟩ v3).setCell ⟨B,4,none⟩ v4).setCell ⟨B,5,none⟩ v5).setCell ⟨B,6,none⟩ v6).heap[B]?=some (.cells #[v0,v1,v2,v3,v4,v5,v6,u7,u8,u9] t (0,0)):=heap_setCell_same _ B 6 _ _ v6 I;have M:((((((((w.setCell ⟨B,0,none⟩ v0).setCell ⟨B,1,none⟩ v1).setCell ⟨B,2,none⟩ v2).setCell ⟨B,3,none⟩ v3).setCell ⟨B,4,none⟩ v4).setCell ⟨B,5,none⟩ v5).setCell ⟨B,6,none⟩ v6).setCell ⟨B,7,none⟩ v7).heap[B]?=some (.cells #[v0,v1,v2,v3,v4,v5,v6,v7,u8,u9] t (0,0)):=heap_setCell_same _ B 7 _ _ v7 D;have A:(((((((((w.setCell ⟨B,0,none⟩ v0).setCell ⟨B,1,none⟩ v1).setCell ⟨B,2,none⟩ v2).setCell ⟨B,3,none⟩ v3).setCell ⟨B,4,none⟩ v4).setCell ⟨B,5,none⟩ v5).setCell ⟨B,6,none⟩ v6).setCell ⟨B,7,none⟩ v7).setCell ⟨B,8,none⟩ v8).heap[B]?=some (.cells #[v0,v1,v2,v3,v4,v5,v6,v7,v8,u9] t (0,0)):=heap_setCell_same _ B 8 _ _ v8 M
 have F:((((((((((w.setCell ⟨B,0,none⟩ v0).setCell ⟨B,1,none⟩ v1).setCell ⟨B,2,none⟩ v2).setCell ⟨B,3,none⟩ v3).setCell ⟨B,4,none⟩ v4).setCell ⟨B,5,none⟩ v5).setCell ⟨B,6,none⟩ v6).setCell ⟨B,7,none⟩ v7).setCell ⟨B,8,none⟩ v8).setCell ⟨B,9,none⟩ v9).heap[B]?=some (.cells #[v0,v1,v2,v3,v4,v5,v6,v7,v8,v9] t (0,0)):=heap_setCell_same _ B 9 _ _ v9 A;exact F
theorem zi3{w:World}{B:Nat}{u0 u1 u2 u3 u4 u5 u6 u7 u8 u9:Value}{t:TypeId}(h:w.heap[B]?=some (.cells #[u0,u1,u2,u3,u4,u5,u6,u7,u8,u9] t (0,0)))(v0 v1 v2 v3 v4 v5 v6 v7 v8 v9:Value)(o:Obj):
  (((((((((((w.setCell ⟨B,0,none⟩ v0).setCell ⟨B,1,none⟩ v1).setCell ⟨B,2,none⟩ v2).setCell ⟨B,3,none⟩ v3).setCell ⟨B,4,none⟩ v4).setCell ⟨B,5,none⟩ v5).setCell ⟨B,6,none⟩ v6).setCell ⟨B,7,none⟩ v7).setCell ⟨B,8,none⟩ v8).setCell ⟨B,9,none⟩ v9).alloc o).heap[B]?=some (.cells #[v0,v1,v2,v3,v4,v5,v6,v7,v8,v9] t (0,0)):=by
 have A:=zuv h v0 v1 v2 v3 v4 v5 v6 v7 v8 v9;exact zad (zaa _ o) (Array.getElem?_eq_some_iff.1 A).1 A
theorem zyv{w:World}{base:Nat}{e:TypeId}{size:Nat}{v:Value}{n m:Nat}{xs:List Value}(h:w.ownsRow base e size v n xs)(hn:n=m):w.ownsRow base e size v m xs:=hn▸h
theorem zg0{w:World}{B:Nat}{p:Addr}(h:B≠p.block)(u:Value):(w.setCell p u).heap[B]?=w.heap[B]?:=by
 rw[World.setCell];simp only[Array.getElem?_modify];rw[if_neg (fun x=>h x.symm)]
theorem zyw{log:List ByteArray}{j:Nat}(h:j<log.length)(seq:Int)(t:Tx){mk:Mk}{er:Int}(hM:(mk,er)=zas (log.getD j ByteArray.empty)):
  zfb log seq j t=if er≠0∨mk.seq≠seq∨mk.kind=1 then none else if mk.kind=4 then some (j+1,t) else if j+1+mk.tags.length≤log.length then zfb log seq (j+1+mk.tags.length) (more log j t mk) else none:=by
 rw[zfb,dif_pos h,←hM]
def txW (seq:Int)(info:List (Int×ByteArray))(rev:List Int):Tx:=⟨seq,info,[],rev,⟨false,0⟩,⟨false,0⟩,⟨false,0⟩⟩
theorem zuw(log:List ByteArray)(i:Nat)(seq:Int)(info:List (Int×ByteArray))(rev:List Int)(m:Mk):more log i (txW seq info rev) m=txW seq (info++copiesAt log (i+1) m.tags) (rev++m.blocks):=rfl
theorem zla{s:ByteArray}(h:(zas s).2=0):goodM (zas s).1=0:=by
 unfold zas at h⊢;split at h
 ·rename_i A;rw[if_pos A];exact A.2.1
 ·cases h
theorem zyx{m:Mk}(h:goodM m=0):(m.kind=1∨m.kind=2∨m.kind=3∨m.kind=4)∧(m.kind≠2→m.tags=[])∧(m.kind≠3→m.blocks=[])∧(m.kind=2→m.tags.length≤10)∧(m.kind=3→m.blocks.length≤20):=by
 unfold goodM at h;split at h
 ·cases h
 ·split at h
  ·cases h
  ·split at h
   ·cases h
   ·split at h
    ·cases h
    ·rename_i h1 _ B A;refine⟨by omega,fun hk=>?_,fun hk=>?_,fun hk=>?_,fun hk=>?_⟩
     ·by_cases ht:m.tags=[]
      ·exact ht
      ·exact absurd (.inr (.inl ⟨hk,ht⟩)) B
     ·by_cases ht:m.blocks=[]
      ·exact ht
      ·exact absurd (.inr (.inr ⟨hk,ht⟩)) B
     ·by_cases ht:m.tags.length≤10
      ·exact ht
      ·exact absurd (.inl ⟨hk,.inr (by omega)⟩) A
     ·by_cases ht:m.blocks.length≤20
      ·exact ht
      ·exact absurd (.inr (.inl ⟨hk,.inr (by omega)⟩)) A
def zqb (w w':World)(R:Nat)(a:Option Addr)(c:Nat)(a':Option Addr)(c':Nat)(d:Dk)(p0 i:Nat)(seq:Int)(v:Value)(b:Bool):Prop:=
 match zfb (logOf d p0) seq i (zcv seq) with
 |none=>b=false∧v=.agg #[.int .i64 0,.slice none 0 0,.slice none 0 0,.slice none 0 0,.bool false,.int .i64 0,.bool false,.int .i64 0,.bool false,.int .i64 0]
 |some (n,t)=>b=true∧Rd w' R a c a' c' d p0 n∧∃m r,v=.agg #[.int .i64 seq,m,.slice none 0 0,r,.bool false,.int .i64 0,.bool false,.int .i64 0,.bool false,.int .i64 0]∧OwnR w' w.heap.size ⟨m,.slice none 0 0,r,t⟩∧t=txW seq t.info t.rev
def z4v (w w':World)(R:Nat)(a:Option Addr)(c:Nat)(a':Option Addr)(c':Nat)(d:Dk)(p0 i:Nat)(seq:Int)(e:Ending):Prop:=∃v b,e=.returned (.tuple #[v,.bool b])∧But R w.heap.size w w'∧zqb w w' R a c a' c' d p0 i seq v b
theorem zv8(R:Nat)(a:Option Addr)(c:Nat)(a':Option Addr)(c':Nat)(d:Dk)(p0 i:Nat)(seq:Int)(w w0:World)(hR:Rd w R a c a' c' d p0 i)(hi:i≤24)(hD:IsDk w0 (.agg #[.slice a d.safe.length c,.slice a' d.wr.length c']) d)(hg:za3 d=true)(hb:Below w0.heap.size w0 w)(hR0:w0.heap.size≤R):
  Calls prog 114 #[.pointer (some ⟨R,0,none⟩),.int .i64 seq] w fun e w'=>z4v w w' R a c a' c' d p0 i seq e:=by
 have H0:=hR.lt;have HD:=zab hD;have B9:=zab hb;have HR:=zab hR;clear hD hb hR;go_enter func114,ntmps114;go_wp2
 go_loopw [8] (fun _ wr=>∃(j:Nat) (info:List (Int×ByteArray)) (rev:List Int) (ma:Option Addr) (mc:Nat) (ra:Option Addr) (rc:Nat),i≤j∧j≤24∧info.length≤j∧rev.length≤20*j∧Hid (zfb (logOf d p0) seq i (zcv seq)=zfb (logOf d p0) seq j (txW seq info rev))∧Hid (Rd wr R a c a' c' d p0 j)∧Hid (But R w.heap.size w wr)∧w.heap.size+1<wr.heap.size∧
   Hid (wr.heap[w.heap.size]?=some (.cells #[.int .i64 0,.slice none 0 0,.slice none 0 0,.slice none 0 0,.bool false,.int .i64 0,.bool false,.int .i64 0,.bool false,.int .i64 0] 40 (0,0)))∧Hid (wr.heap[w.heap.size+1]?=some (.cells #[.int .i64 seq,.slice ma info.length mc,.slice none 0 0,.slice ra rev.length rc,.bool false,.int .i64 0,.bool false,.int .i64 0,.bool false,.int .i64 0] 40 (0,0)))∧Hid (wr.ownsRow (w.heap.size+2) 84 2 (.slice ma info.length mc) info.length (cellsC info))∧Hid (wr.ownsRow (w.heap.size+2) 3 1 (.slice ra rev.length rc) rev.length (cellsI rev)))
  (fun _ wr=>match wr.cell? ⟨R,3,none⟩ with|some (.int _ n)=>n.toNat|_=>0)
 case atStart=>exact⟨i,[],[],none,0,none,0,Nat.le_refl _,hi,Nat.zero_le _,Nat.zero_le _,rfl,HR.o.below (zae (zaa _ _) (zaa _ _)),But.of_below (zae (zaa _ _) (zaa _ _)),by simp,zgr (Below.refl _ _),zhl (Below.refl _ _),World.ownsRow_nil _ _ _ _,World.ownsRow_nil _ _ _ _⟩
 case round=>
  obtain⟨j,info,rev,ma,mc,ra,rc,G9,hj,H2,G6,B,A9,HB,F6,KB,KT,C7,D6⟩:=hrel;have A7:(match wr.cell? ⟨R,3,none⟩ with|some (.int _ n)=>n.toNat|_=>0)=24 - j:=by rw[(z3r A9.o).1.2.2.2];simp
  rw[A7];have C9:Hid (Below w0.heap.size w0 wr):=HB.o.below B9.o B9.o.size hR0;by_cases hend:j=24
  ·subst hend;have A4:Hid (zfb (logOf d p0) seq i (zcv seq)=none):=by rw[Hid,B.o,zfb,dif_neg (by rw[za7];omega)]
   clear A7;go_wp2_with fail;refine(zyq R a c a' c' d p0 seq _ A9.o).mono ?_;rintro e K ⟨rfl,J⟩;have q:Hid (But R w.heap.size w K):=HB.o.trans (But.of_below J) HB.o.size;have I:=zab (zad J (by omega) KB.o);have B5:w.heap.size+1<K.heap.size:=Nat.lt_of_lt_of_le F6 J.size;have A6:w.heap.size<K.heap.size:=by omega
   clear J A9 KB KT C7 D6 HB;obtain⟨⟨O,l,Z,N,Y,Q,h,L,S,U⟩,X⟩:=zaj I.o;go_wp2;obtain⟨W,D⟩:∃W,W=(((((((((((K.setCell ⟨w.heap.size,0,none⟩ (.int .i64 0)).setCell ⟨w.heap.size,1,none⟩ (.slice none 0 0)).setCell ⟨w.heap.size,2,none⟩ (.slice none 0 0)).setCell ⟨w.heap.size,3,none⟩ (.slice none 0 0)).setCell ⟨w.heap.size,4,none⟩ (.bool false)).setCell ⟨w.heap.size,5,none⟩ (.int .i64 0)).setCell ⟨w.heap.size,6,none⟩ (.bool false)).setCell ⟨w.heap.size,7,none⟩ (.int .i64 0)).setCell ⟨w.heap.size,8,none⟩ (.bool false)).setCell ⟨w.heap.size,9,none⟩ (.int .i64 0)).alloc (.cells #[.int .i64 0,.int .i64 0,.int .i64 0,.slice none 0 0,.slice none 0 0] 119)):=⟨_,rfl⟩;have A:=zi3 I.o (.int .i64 0) (.slice none 0 0) (.slice none 0 0) (.slice none 0 0) (.bool false) (.int .i64 0) (.bool false) (.int .i64 0) (.bool false) (.int .i64 0) (.cells #[.int .i64 0,.int .i64 0,.int .i64 0,.slice none 0 0,.slice none 0 0] 119);rw[←D]at A;obtain⟨⟨y0,y1,y2,y3,y4,y5,y6,y7,y8,y9⟩,_⟩:=zaj A;have y:=zab D;rw[←D];clear D A O l Z N Y Q h L S U X;refine bodyPost_ret (v:=.tuple #[.agg #[.int .i64 0,.slice none 0 0,.slice none 0 0,.slice none 0 0,.bool false,.int .i64 0,.bool false,.int .i64 0,.bool false,.int .i64 0],.bool false]) (by simp[results,results114,go_sem,y0,y1,y2,y3,y4,y5,y6,y7,y8,y9]) rfl ?_;unfold z4v;refine⟨_,false,rfl,?_,?_⟩
   ·rw[y.o];exact(But.trans ((((((((((q.o.setNew (p:=⟨w.heap.size,0,none⟩) (Nat.le_refl _) _).setNew (p:=⟨w.heap.size,1,none⟩) (Nat.le_refl _) _).setNew (p:=⟨w.heap.size,2,none⟩) (Nat.le_refl _) _).setNew (p:=⟨w.heap.size,3,none⟩) (Nat.le_refl _) _).setNew (p:=⟨w.heap.size,4,none⟩) (Nat.le_refl _) _).setNew (p:=⟨w.heap.size,5,none⟩) (Nat.le_refl _) _).setNew (p:=⟨w.heap.size,6,none⟩) (Nat.le_refl _) _).setNew (p:=⟨w.heap.size,7,none⟩) (Nat.le_refl _) _).setNew (p:=⟨w.heap.size,8,none⟩) (Nat.le_refl _) _).setNew (p:=⟨w.heap.size,9,none⟩) (Nat.le_refl _) _) (But.of_below (zaa _ _)) (by simp[World.setCell];omega))
   ·rw[zqb,A4.o];exact⟨rfl,rfl⟩
  ·have E2:j<24:=by omega
   clear A7;go_wp2_with fail;refine(zv5 R a c a' c' d p0 j seq _ w0 A9.o E2 HD.o hg C9.o).mono ?_;rintro e K ⟨v2,rfl,hN,E5,J⟩;obtain⟨M,hM⟩:∃M,M=zas ((logOf d p0).getD j ByteArray.empty):=⟨_,rfl⟩;rw[←hM]at hN⊢;obtain⟨mk,er⟩:=M;have C:=zab (zyw (log:=logOf d p0) (j:=j) (by rw[za7];exact E2) seq (txW seq info rev) hM)
   have E9:er=0→goodM mk=0:=by
    intro he;have:=zla (s:=(logOf d p0).getD j ByteArray.empty) (by rw[←hM];exact he);rw[←hM]at this;exact this
   have D7:=zab E9;clear hM E9;obtain⟨a2,c2,a3,c3,rfl,hT,hI,n1,n2,t1,t2⟩:=hN;have G8:=J.size;have B0:=zab E5;have HT:=zab hT;have HI:=zab hI;have C1:Hid (∀b off,a2=some ⟨b,off,none⟩→b≠R):=fun b off e=>by have:=t1 b off e;omega
   have I:Hid (K.heap[w.heap.size]?=_):=(J.block _ (by omega) (by omega)).trans KB.o;have A5:Hid (K.heap[w.heap.size+1]?=_):=(J.block _ (by omega) (by omega)).trans KT.o;have q:Hid (But R w.heap.size w K):=HB.o.trans J (by omega);have A1:=zab (zed C7.o J (by omega));have x:=zab (zed D6.o J (by omega));have B5:w.heap.size+1<K.heap.size:=by omega
   have A6:w.heap.size<K.heap.size:=by omega
   clear E5 hT hI t1 t2 J KB KT HB C7 D6 A9 C9 n1 n2;by_cases hok:er=0∧mk.seq=seq
   ·obtain⟨rfl,hq⟩:=hok;have B1:(decide ((0:Int)=0)&&decide (mk.seq=seq))=true:=by simp[hq]
    dsimp only;rw[B1];obtain⟨D9,E7,F1,G1,G0⟩:=zyx (D7.o rfl);have F9:=zab E7;have F7:=zab F1;clear B1 E7 F1 D7;rcases D9 with hk|hk|hk|hk
    ·have A4:Hid (zfb (logOf d p0) seq i (zcv seq)=none):=by rw[Hid,B.o,C.o,if_pos (.inr (.inr hk))]
     clear C B;obtain⟨⟨O,l,Z,N,Y,Q,h,L,S,U⟩,X⟩:=zaj I.o;go_wp2;obtain⟨W,D⟩:∃W,W=(((((((((((K.setCell ⟨w.heap.size,0,none⟩ (.int .i64 0)).setCell ⟨w.heap.size,1,none⟩ (.slice none 0 0)).setCell ⟨w.heap.size,2,none⟩ (.slice none 0 0)).setCell ⟨w.heap.size,3,none⟩ (.slice none 0 0)).setCell ⟨w.heap.size,4,none⟩ (.bool false)).setCell ⟨w.heap.size,5,none⟩ (.int .i64 0)).setCell ⟨w.heap.size,6,none⟩ (.bool false)).setCell ⟨w.heap.size,7,none⟩ (.int .i64 0)).setCell ⟨w.heap.size,8,none⟩ (.bool false)).setCell ⟨w.heap.size,9,none⟩ (.int .i64 0)).alloc (.cells #[.int .i64 1,.int .i64 seq,.int .i64 mk.pos,.slice a2 mk.tags.length c2,.slice a3 mk.blocks.length c3] 119)):=⟨_,rfl⟩;have A:=zi3 I.o (.int .i64 0) (.slice none 0 0) (.slice none 0 0) (.slice none 0 0) (.bool false) (.int .i64 0) (.bool false) (.int .i64 0) (.bool false) (.int .i64 0) (.cells #[.int .i64 1,.int .i64 seq,.int .i64 mk.pos,.slice a2 mk.tags.length c2,.slice a3 mk.blocks.length c3] 119);rw[←D]at A;obtain⟨⟨y0,y1,y2,y3,y4,y5,y6,y7,y8,y9⟩,_⟩:=zaj A;have y:=zab D;rw[←D];clear D A O l Z N Y Q h L S U X;refine bodyPost_ret (v:=.tuple #[.agg #[.int .i64 0,.slice none 0 0,.slice none 0 0,.slice none 0 0,.bool false,.int .i64 0,.bool false,.int .i64 0,.bool false,.int .i64 0],.bool false]) (by simp[results,results114,go_sem,y0,y1,y2,y3,y4,y5,y6,y7,y8,y9]) rfl ?_;unfold z4v;refine⟨_,false,rfl,?_,?_⟩
     ·rw[y.o];exact(But.trans ((((((((((q.o.setNew (p:=⟨w.heap.size,0,none⟩) (Nat.le_refl _) _).setNew (p:=⟨w.heap.size,1,none⟩) (Nat.le_refl _) _).setNew (p:=⟨w.heap.size,2,none⟩) (Nat.le_refl _) _).setNew (p:=⟨w.heap.size,3,none⟩) (Nat.le_refl _) _).setNew (p:=⟨w.heap.size,4,none⟩) (Nat.le_refl _) _).setNew (p:=⟨w.heap.size,5,none⟩) (Nat.le_refl _) _).setNew (p:=⟨w.heap.size,6,none⟩) (Nat.le_refl _) _).setNew (p:=⟨w.heap.size,7,none⟩) (Nat.le_refl _) _).setNew (p:=⟨w.heap.size,8,none⟩) (Nat.le_refl _) _).setNew (p:=⟨w.heap.size,9,none⟩) (Nat.le_refl _) _) (But.of_below (zaa _ _)) (by simp[World.setCell];omega))
     ·rw[zqb,A4.o];exact⟨rfl,rfl⟩
    ·have H1:=G1 hk;have F0:mk.blocks=[]:=F7.o (by omega)
     have B6:Hid (zfb (logOf d p0) seq j (txW seq info rev)=if j+1+mk.tags.length≤24 then zfb (logOf d p0) seq (j+1+mk.tags.length) (txW seq (info++copiesAt (logOf d p0) (j+1) mk.tags) rev) else none):=by
      rw[Hid,C.o,if_neg (by simp[hq,hk]),if_neg (by omega),zuw,F0,List.append_nil,za7]
     clear C F0;go_wp2_with fail;refine(zst R a c a' c' d p0 (j+1) a2 c2 mk.tags _ w0 (B0.o.below (zaa _ _)) (by omega) HD.o hg (zae (q.o.below B9.o B9.o.size hR0) (zaa _ _)) hR0 (HT.o.below (zaa _ _)) C1.o).mono ?_;rintro e w2 ⟨v2,b2,rfl,hC⟩;have G7:K.heap.size+1≤w2.heap.size:=by have:=hC.1.size;simpa using this
     have B7:Hid (w2.heap[w.heap.size]?=_):=(hC.1.block _ (by simp;omega) (by omega)).trans (zad (zaa _ _) A6 I.o);have C3:Hid (w2.heap[w.heap.size+1]?=_):=(hC.1.block _ (by simp;omega) (by omega)).trans (zad (zaa _ _) B5 A5.o);have C6:Hid (But R w.heap.size w w2):=(q.o.trans (But.of_below (zaa _ _)) (by omega)).trans hC.1 (by simp;omega);have B3:=zab (zed (zah A1.o (zaa _ _)) hC.1 (by omega));have C2:=zab (zed (zah x.o (zaa _ _)) hC.1 (by omega));have F2:w.heap.size+1<w2.heap.size:=by omega
     have E0:w.heap.size<w2.heap.size:=by omega
     have B8:=zab hC.2;clear hC HT HI C1 B0 q I A5 A1 x;by_cases hle:j+1+mk.tags.length≤24
     ·have hc:=B8.o;rw[if_pos hle]at hc;obtain⟨rfl,D5,E6⟩:=hc;have r:Hid (zfb (logOf d p0) seq i (zcv seq)=zfb (logOf d p0) seq (j+1+mk.tags.length) (txW seq (info++copiesAt (logOf d p0) (j+1) mk.tags) rev)):=by rw[Hid,B.o,B6.o,if_pos hle]
      obtain⟨ca,cc,rfl,hS,_⟩:=SegC.of_owns D5;have HS:=zab hS;have E1:=zab E6;have E3:=zdt (logOf d p0) (j+1) mk.tags;have E8:=zab E3;clear D5 hS E6 B8 B6 B;generalize copiesAt (logOf d p0) (j+1) mk.tags=cp at *;clear E3;obtain⟨⟨O,l,Z,N,Y,Q,h,L,S,U⟩,X⟩:=zaj C3.o;go_wp2_with (at_builtin;refine zqa _ (w.heap.size+2) rfl _ _ rfl (.slice ma info.length mc) info rfl B3.o ca cc cp rfl HS.o (by have:=E8.o;omega) (by omega) ?_);intro v3 w3 F E;obtain⟨nf,C0⟩:∃nf,nf=info++cp:=⟨_,rfl⟩;have F3:nf.length≤j+1+mk.tags.length:=by have:=E8.o;rw[C0,List.length_append];omega
      replace F:=zab (zyv F.o (show _=nf.length by simp[C0]))
      rw[←C0]at F r;clear C0;obtain⟨D1,D2,C5,_,_⟩:=SegC.of_owns F.o;subst C5;have m:∀k,(Value.slice ma info.length mc).ownBlock=some k→w.heap.size+2≤k:=fun k hk=>(B3.o.lt k hk).1;have z:∀k,(Value.slice D1 nf.length D2).ownBlock=some k→w.heap.size+2≤k:=fun k hk=>(F.o.lt k hk).1;have A2:∀k,(Value.slice ra rev.length rc).ownBlock=some k→w.heap.size+2≤k:=fun k hk=>(C2.o.lt k hk).1;have G3:=E.size;have D3:Hid (w3.heap[w.heap.size]?=_):=(E.block _ E0 (fun e=>by have:=m _ e.symm;omega)).trans B7.o;have B2:Hid (w3.heap[w.heap.size+1]?=_):=(E.block _ F2 (fun e=>by have:=m _ e.symm;omega)).trans C3.o;have B4:Hid (Rd w3 R a c a' c' d p0 (j+1+mk.tags.length)):=E1.o.grown E (fun k hk=>by have:=m k hk;omega);have C8:Hid (But R w.heap.size w w3):=C6.o.grown E (fun k hk=>by have:=m k hk;omega) (by omega);have G2:=zab (zfr C2.o B3.o (by decide) E);have u:=zab (And.intro z A2);clear O l Z N Y Q h L S U X m z A2 E B7 C3 C6 B3 C2 E1 HS;obtain⟨⟨O,l,Z,N,Y,Q,h,L,S,U⟩,X⟩:=zaj B2.o;have A8:R≠w.heap.size+1:=by omega
      go_wp2;clear O l Z N Y Q h L S U X
      go_roundw
      case rel=>exact⟨j+1+mk.tags.length,nf,rev,D1,D2,ra,rc,by omega,hle,F3,by omega,r,B4.o.setNe A8 _,C8.o.setNew (p:=⟨w.heap.size+1,1,none⟩) (by simp) _,by simp[World.setCell];omega,(zg0 (by simp) _).trans D3.o,heap_setCell_same _ _ 1 _ _ (.slice D1 nf.length D2) B2.o,zc5 F.o (fun k hk=>by have:=u.o.1 k hk;simp;omega) _,zc5 G2.o (fun k hk=>by have:=u.o.2 k hk;simp;omega) _⟩
      case measure=>
       rw[(z3r (B4.o.setNe (p:=⟨w.heap.size+1,1,none⟩) A8 _)).1.2.2.2];simp;omega
     ·have hc:=B8.o;rw[if_neg hle]at hc;obtain⟨rfl,rfl⟩:=hc;have A4:Hid (zfb (logOf d p0) seq i (zcv seq)=none):=by rw[Hid,B.o,B6.o,if_neg hle]
      clear B8 B6 B B3 C2 C3;obtain⟨⟨O,l,Z,N,Y,Q,h,L,S,U⟩,X⟩:=zaj B7.o;go_wp2;obtain⟨W,D⟩:∃W,W=((((((((((w2.setCell ⟨w.heap.size,0,none⟩ (.int .i64 0)).setCell ⟨w.heap.size,1,none⟩ (.slice none 0 0)).setCell ⟨w.heap.size,2,none⟩ (.slice none 0 0)).setCell ⟨w.heap.size,3,none⟩ (.slice none 0 0)).setCell ⟨w.heap.size,4,none⟩ (.bool false)).setCell ⟨w.heap.size,5,none⟩ (.int .i64 0)).setCell ⟨w.heap.size,6,none⟩ (.bool false)).setCell ⟨w.heap.size,7,none⟩ (.int .i64 0)).setCell ⟨w.heap.size,8,none⟩ (.bool false)).setCell ⟨w.heap.size,9,none⟩ (.int .i64 0)):=⟨_,rfl⟩;have A:=zuv B7.o (.int .i64 0) (.slice none 0 0) (.slice none 0 0) (.slice none 0 0) (.bool false) (.int .i64 0) (.bool false) (.int .i64 0) (.bool false) (.int .i64 0);rw[←D]at A;obtain⟨⟨y0,y1,y2,y3,y4,y5,y6,y7,y8,y9⟩,_⟩:=zaj A;have y:=zab D;rw[←D];clear D A O l Z N Y Q h L S U X;refine bodyPost_ret (v:=.tuple #[.agg #[.int .i64 0,.slice none 0 0,.slice none 0 0,.slice none 0 0,.bool false,.int .i64 0,.bool false,.int .i64 0,.bool false,.int .i64 0],.bool false]) (by simp[results,results114,go_sem,y0,y1,y2,y3,y4,y5,y6,y7,y8,y9]) rfl ?_;unfold z4v;refine⟨_,false,rfl,?_,?_⟩
      ·rw[y.o];exact((((((((((C6.o.setNew (p:=⟨w.heap.size,0,none⟩) (Nat.le_refl _) _).setNew (p:=⟨w.heap.size,1,none⟩) (Nat.le_refl _) _).setNew (p:=⟨w.heap.size,2,none⟩) (Nat.le_refl _) _).setNew (p:=⟨w.heap.size,3,none⟩) (Nat.le_refl _) _).setNew (p:=⟨w.heap.size,4,none⟩) (Nat.le_refl _) _).setNew (p:=⟨w.heap.size,5,none⟩) (Nat.le_refl _) _).setNew (p:=⟨w.heap.size,6,none⟩) (Nat.le_refl _) _).setNew (p:=⟨w.heap.size,7,none⟩) (Nat.le_refl _) _).setNew (p:=⟨w.heap.size,8,none⟩) (Nat.le_refl _) _).setNew (p:=⟨w.heap.size,9,none⟩) (Nat.le_refl _) _)
      ·rw[zqb,A4.o];exact⟨rfl,rfl⟩
    ·have G4:=G0 hk;have E4:mk.tags=[]:=F9.o (by omega)
     have r:Hid (zfb (logOf d p0) seq i (zcv seq)=zfb (logOf d p0) seq (j+1) (txW seq info (rev++mk.blocks))):=by
      rw[Hid,B.o,C.o,if_neg (by simp[hq,hk]),if_neg (by omega),zuw,E4,if_pos (by rw[za7];simp;omega)];simp[copiesAt]
     clear C B E4;obtain⟨⟨O,l,Z,N,Y,Q,h,L,S,U⟩,X⟩:=zaj A5.o;go_wp2_with (at_builtin;refine zp9 _ (w.heap.size+2) rfl _ _ rfl (.slice ra rev.length rc) rev rfl (zah x.o (zaa _ _)) a3 c3 mk.blocks rfl (HI.o.below (zaa _ _)) (by omega) (by simp;omega) ?_);intro v3 w3 F E;obtain⟨rv,C4⟩:∃rv,rv=rev++mk.blocks:=⟨_,rfl⟩;have F4:rv.length≤20*(j+1):=by rw[C4,List.length_append];omega
     replace F:=zab (zyv F.o (show _=rv.length by simp[C4]))
     rw[←C4]at F r;clear C4;obtain⟨D8,D4,C5,_,_⟩:=SegI.of_owns F.o;subst C5;have A0:Below K.heap.size K (K.alloc (.cells #[.int .i64 3,.int .i64 seq,.int .i64 mk.pos,.slice a2 mk.tags.length c2,.slice a3 mk.blocks.length c3] 119)):=zaa _ _;have m:∀k,(Value.slice ra rev.length rc).ownBlock=some k→w.heap.size+2≤k:=fun k hk=>(x.o.lt k hk).1;have z:∀k,(Value.slice D8 rv.length D4).ownBlock=some k→w.heap.size+2≤k:=fun k hk=>(F.o.lt k hk).1;have A3:∀k,(Value.slice ma info.length mc).ownBlock=some k→w.heap.size+2≤k:=fun k hk=>(A1.o.lt k hk).1;have G3:K.heap.size+1≤w3.heap.size:=by have:=E.size;simpa using this
     have D3:Hid (w3.heap[w.heap.size]?=_):=(E.block _ (by simp;omega) (fun e=>by have:=m _ e.symm;omega)).trans (zad A0 A6 I.o);have B2:Hid (w3.heap[w.heap.size+1]?=_):=(E.block _ (by simp;omega) (fun e=>by have:=m _ e.symm;omega)).trans (zad A0 B5 A5.o);have B4:Hid (Rd w3 R a c a' c' d p0 (j+1)):=(B0.o.below A0).grown E (fun k hk=>by have:=m k hk;omega);have C8:Hid (But R w.heap.size w w3):=(q.o.trans (But.of_below A0) (by omega)).grown E (fun k hk=>by have:=m k hk;omega) (by simp;omega);have F8:=zab (zfr (zah A1.o A0) (zah x.o A0) (by decide) E);have u:=zab (And.intro z A3);clear O l Z N Y Q h L S U X m z A3 E I A5 q A1 x B0 HT HI C1 A0;obtain⟨⟨O,l,Z,N,Y,Q,h,L,S,U⟩,X⟩:=zaj B2.o;have A8:R≠w.heap.size+1:=by omega
     have G5:w.heap.size+1<w3.heap.size:=by omega
     go_wp2;clear O l Z N Y Q h L S U X
     go_roundw
     case rel=>exact⟨j+1,info,rv,ma,mc,D8,D4,by omega,by omega,by omega,F4,r,B4.o.setNe A8 _,C8.o.setNew (p:=⟨w.heap.size+1,3,none⟩) (by simp) _,by simp[World.setCell];omega,(zg0 (by simp) _).trans D3.o,heap_setCell_same _ _ 3 _ _ (.slice D8 rv.length D4) B2.o,zc5 F8.o (fun k hk=>by have:=u.o.2 k hk;simp;omega) _,zc5 F.o (fun k hk=>by have:=u.o.1 k hk;simp;omega) _⟩
     case measure=>
      rw[(z3r (B4.o.setNe (p:=⟨w.heap.size+1,3,none⟩) A8 _)).1.2.2.2];simp;omega
    ·have F5:Hid (zfb (logOf d p0) seq i (zcv seq)=some (j+1,txW seq info rev)):=by rw[Hid,B.o,C.o,if_neg (by simp[hq,hk]),if_pos hk]
     have A2:∀k,(Value.slice ra rev.length rc).ownBlock=some k→w.heap.size+2≤k:=fun k hk=>(x.o.lt k hk).1;have A3:∀k,(Value.slice ma info.length mc).ownBlock=some k→w.heap.size+2≤k:=fun k hk=>(A1.o.lt k hk).1;have u:=zab (And.intro A3 A2);clear C B A2 A3 HT HI C1;obtain⟨⟨O,l,Z,N,Y,Q,h,L,S,U⟩,X⟩:=zaj I.o;obtain⟨⟨y0,y1,y2,y3,y4,y5,y6,y7,y8,y9⟩,yf⟩:=zaj A5.o;go_wp2;clear y0 y1 y2 y3 y4 y5 y6 y7 y8 y9 yf;obtain⟨W,D⟩:∃W,W=(((((((((((K.setCell ⟨w.heap.size,0,none⟩ (.int .i64 seq)).setCell ⟨w.heap.size,1,none⟩ (.slice ma info.length mc)).setCell ⟨w.heap.size,2,none⟩ (.slice none 0 0)).setCell ⟨w.heap.size,3,none⟩ (.slice ra rev.length rc)).setCell ⟨w.heap.size,4,none⟩ (.bool false)).setCell ⟨w.heap.size,5,none⟩ (.int .i64 0)).setCell ⟨w.heap.size,6,none⟩ (.bool false)).setCell ⟨w.heap.size,7,none⟩ (.int .i64 0)).setCell ⟨w.heap.size,8,none⟩ (.bool false)).setCell ⟨w.heap.size,9,none⟩ (.int .i64 0)).alloc (.cells #[.int .i64 4,.int .i64 seq,.int .i64 mk.pos,.slice a2 mk.tags.length c2,.slice a3 mk.blocks.length c3] 119)):=⟨_,rfl⟩;have A:=zi3 I.o (.int .i64 seq) (.slice ma info.length mc) (.slice none 0 0) (.slice ra rev.length rc) (.bool false) (.int .i64 0) (.bool false) (.int .i64 0) (.bool false) (.int .i64 0) (.cells #[.int .i64 4,.int .i64 seq,.int .i64 mk.pos,.slice a2 mk.tags.length c2,.slice a3 mk.blocks.length c3] 119);rw[←D]at A;obtain⟨⟨y0,y1,y2,y3,y4,y5,y6,y7,y8,y9⟩,_⟩:=zaj A;have y:=zab D;rw[←D];clear D A O l Z N Y Q h L S U X;refine bodyPost_ret (v:=.tuple #[.agg #[.int .i64 seq,.slice ma info.length mc,.slice none 0 0,.slice ra rev.length rc,.bool false,.int .i64 0,.bool false,.int .i64 0,.bool false,.int .i64 0],.bool true]) (by simp[results,results114,go_sem,y0,y1,y2,y3,y4,y5,y6,y7,y8,y9]) rfl ?_;unfold z4v;refine⟨_,true,rfl,?_,?_⟩
     ·rw[y.o];exact(But.trans ((((((((((q.o.setNew (p:=⟨w.heap.size,0,none⟩) (Nat.le_refl _) _).setNew (p:=⟨w.heap.size,1,none⟩) (Nat.le_refl _) _).setNew (p:=⟨w.heap.size,2,none⟩) (Nat.le_refl _) _).setNew (p:=⟨w.heap.size,3,none⟩) (Nat.le_refl _) _).setNew (p:=⟨w.heap.size,4,none⟩) (Nat.le_refl _) _).setNew (p:=⟨w.heap.size,5,none⟩) (Nat.le_refl _) _).setNew (p:=⟨w.heap.size,6,none⟩) (Nat.le_refl _) _).setNew (p:=⟨w.heap.size,7,none⟩) (Nat.le_refl _) _).setNew (p:=⟨w.heap.size,8,none⟩) (Nat.le_refl _) _).setNew (p:=⟨w.heap.size,9,none⟩) (Nat.le_refl _) _) (But.of_below (zaa _ _)) (by simp[World.setCell];omega))
     ·rw[zqb,F5.o];refine⟨rfl,?_,_,_,rfl,⟨?_,?_,?_⟩,rfl⟩
      ·rw[y.o];refine Rd.below ?_ (zaa _ _)
       repeat refine Rd.setNe ?_ (show R≠w.heap.size by omega) _
       exact B0.o
      ·rw[y.o];refine za6 (zah ?_ (zaa _ _)) (show w.heap.size≤w.heap.size+2 by omega)
       repeat refine zc5 ?_ (fun k e=>by have:=u.o.1 k e;simp;omega) _
       exact A1.o
      ·exact World.ownsRow_nil _ _ _ _
      ·rw[y.o];refine za6 (zah ?_ (zaa _ _)) (show w.heap.size≤w.heap.size+2 by omega)
       repeat refine zc5 ?_ (fun k e=>by have:=u.o.2 k e;simp;omega) _
       exact x.o
   ·have B1:(decide (er=0)&&decide (mk.seq=seq))=false:=by
     rw[Bool.and_eq_false_iff];by_cases he:er=0
     ·right;exact decide_eq_false fun hq=>hok ⟨he,hq⟩
     ·left;exact decide_eq_false he
    have A4:Hid (zfb (logOf d p0) seq i (zcv seq)=none):=by
     rw[Hid,B.o,C.o,if_pos];by_cases he:er=0
     ·exact .inr (.inl fun hq=>hok ⟨he,hq⟩)
     ·exact .inl he
    dsimp only;rw[B1];clear C B hok B1 D7;obtain⟨⟨O,l,Z,N,Y,Q,h,L,S,U⟩,X⟩:=zaj I.o;go_wp2;obtain⟨W,D⟩:∃W,W=(((((((((((K.setCell ⟨w.heap.size,0,none⟩ (.int .i64 0)).setCell ⟨w.heap.size,1,none⟩ (.slice none 0 0)).setCell ⟨w.heap.size,2,none⟩ (.slice none 0 0)).setCell ⟨w.heap.size,3,none⟩ (.slice none 0 0)).setCell ⟨w.heap.size,4,none⟩ (.bool false)).setCell ⟨w.heap.size,5,none⟩ (.int .i64 0)).setCell ⟨w.heap.size,6,none⟩ (.bool false)).setCell ⟨w.heap.size,7,none⟩ (.int .i64 0)).setCell ⟨w.heap.size,8,none⟩ (.bool false)).setCell ⟨w.heap.size,9,none⟩ (.int .i64 0)).alloc (.cells #[.int .i64 mk.kind,.int .i64 mk.seq,.int .i64 mk.pos,.slice a2 mk.tags.length c2,.slice a3 mk.blocks.length c3] 119)):=⟨_,rfl⟩;have A:=zi3 I.o (.int .i64 0) (.slice none 0 0) (.slice none 0 0) (.slice none 0 0) (.bool false) (.int .i64 0) (.bool false) (.int .i64 0) (.bool false) (.int .i64 0) (.cells #[.int .i64 mk.kind,.int .i64 mk.seq,.int .i64 mk.pos,.slice a2 mk.tags.length c2,.slice a3 mk.blocks.length c3] 119);rw[←D]at A;obtain⟨⟨y0,y1,y2,y3,y4,y5,y6,y7,y8,y9⟩,_⟩:=zaj A;have y:=zab D;rw[←D];clear D A O l Z N Y Q h L S U X;refine bodyPost_ret (v:=.tuple #[.agg #[.int .i64 0,.slice none 0 0,.slice none 0 0,.slice none 0 0,.bool false,.int .i64 0,.bool false,.int .i64 0,.bool false,.int .i64 0],.bool false]) (by simp[results,results114,go_sem,y0,y1,y2,y3,y4,y5,y6,y7,y8,y9]) rfl ?_;unfold z4v;refine⟨_,false,rfl,?_,?_⟩
    ·rw[y.o];exact(But.trans ((((((((((q.o.setNew (p:=⟨w.heap.size,0,none⟩) (Nat.le_refl _) _).setNew (p:=⟨w.heap.size,1,none⟩) (Nat.le_refl _) _).setNew (p:=⟨w.heap.size,2,none⟩) (Nat.le_refl _) _).setNew (p:=⟨w.heap.size,3,none⟩) (Nat.le_refl _) _).setNew (p:=⟨w.heap.size,4,none⟩) (Nat.le_refl _) _).setNew (p:=⟨w.heap.size,5,none⟩) (Nat.le_refl _) _).setNew (p:=⟨w.heap.size,6,none⟩) (Nat.le_refl _) _).setNew (p:=⟨w.heap.size,7,none⟩) (Nat.le_refl _) _).setNew (p:=⟨w.heap.size,8,none⟩) (Nat.le_refl _) _).setNew (p:=⟨w.heap.size,9,none⟩) (Nat.le_refl _) _) (But.of_below (zaa _ _)) (by simp[World.setCell];omega))
    ·rw[zqb,A4.o];exact⟨rfl,rfl⟩
theorem zux{w:World}{B:Nat}{z0 z1 z2 z3 z4:Value}{t:TypeId}(h:w.heap[B]?=some (.cells #[z0,z1,z2,z3,z4] t (0,0)))(v0 v1 v2 v3 v4:Value):
  (((((w.setCell ⟨B,0,none⟩ v0).setCell ⟨B,1,none⟩ v1).setCell ⟨B,2,none⟩ v2).setCell ⟨B,3,none⟩ v3).setCell ⟨B,4,none⟩ v4).heap[B]?=some (.cells #[v0,v1,v2,v3,v4] t (0,0)):=by
 have E:=heap_setCell_same w B 0 _ _ v0 h;have C:=heap_setCell_same _ B 1 _ _ v1 E;have A:=heap_setCell_same _ B 2 _ _ v2 C;have D:=heap_setCell_same _ B 3 _ _ v3 A;exact heap_setCell_same _ B 4 _ _ v4 D
theorem zos{w:World}{B:Nat}{z0 z1 z2 z3 z4:Value}{t:TypeId}(h:w.heap[B]?=some (.cells #[z0,z1,z2,z3,z4] t (0,0)))(v0 v1 v2 v3 v4:Value)(o:Obj):
  ((((((w.setCell ⟨B,0,none⟩ v0).setCell ⟨B,1,none⟩ v1).setCell ⟨B,2,none⟩ v2).setCell ⟨B,3,none⟩ v3).setCell ⟨B,4,none⟩ v4).alloc o).heap[B]?=some (.cells #[v0,v1,v2,v3,v4] t (0,0)):=by
 have A:=zux h v0 v1 v2 v3 v4;exact zad (zaa _ o) (Array.getElem?_eq_some_iff.1 A).1 A
def zlw (w w':World)(d:Dk)(e:Ending):Prop:=
 ∃(k q p:Int) (a2:Option Addr) (n2 c2:Nat) (a3:Option Addr) (n3 c3:Nat),e=.returned (.tuple #[.agg #[.int .i64 k,.int .i64 q,.int .i64 p,.slice a2 n2 c2,.slice a3 n3 c3],.int .i64 (scanE d)])∧True∧(scanE d=0→q=(zaq d).seq∧p=(zaq d).pos)∧Below w.heap.size w w'
theorem zot(a:Option Addr)(c:Nat)(a':Option Addr)(c':Nat)(d:Dk)(w:World)(hD:IsDk w (.agg #[.slice a d.safe.length c,.slice a' d.wr.length c']) d):
  Calls prog 113 #[.agg #[.slice a d.safe.length c,.slice a' d.wr.length c']] w fun e w'=>zlw w w' d e:=by
 have HD:=zab hD;clear hD;go_enter func113,ntmps113;go_wp2_with fail;refine(zk4 _ d 0 _ (HD.o.below (zae (zaa _ _) (zaa _ _)))).mono ?_;rintro e w1 ⟨rfl,n⟩;have l:=zab (zhl n);have z:w.heap.size+1<w1.heap.size:=by have:=n.size;simp at this;omega
 have s:=zab (zae (zae (zaa _ _) (zaa _ _)) n);clear n HD;by_cases hE:readE d 0=0
 ·rw[hE];have HE:=zab hE;clear hE;go_wp2_with fail;refine(zlu (zal d 0) _).mono ?_;rintro e u ⟨v2,rfl,hN,m⟩;obtain⟨O,c2,N,c3,rfl,_,_,_,_⟩:=hN;obtain⟨M,x⟩:∃M,M=zas (zal d 0):=⟨_,rfl⟩;rw[←x];obtain⟨mk,er⟩:=M;have K:Hid (scanE d=if er≠0∨mk.kind≠1 then 1 else 0):=by rw[Hid,scanE,zaq,←x,HE.o];simp
  have y:Hid (zaq d=mk):=by rw[Hid,zaq,←x]
  clear x;have L:=zab (zad m z l.o);have A2:w.heap.size+1<u.heap.size:=Nat.lt_of_lt_of_le z m.size;have r:=zab (zae s.o m);clear m l s;dsimp only;by_cases he:er=0
  ·subst he;by_cases hk:mk.kind=1
   ·have A0:Hid (scanE d=0):=by rw[Hid,K.o,if_neg (by simp[hk])]
    clear K;obtain⟨⟨U,X,i,b,h⟩,J,C,D,I,F⟩:=zis L.o;go_wp2;obtain⟨W,B⟩:∃W,W=((((((u.setCell ⟨w.heap.size+1,0,none⟩ (.int .i64 1)).setCell ⟨w.heap.size+1,1,none⟩ (.int .i64 mk.seq)).setCell ⟨w.heap.size+1,2,none⟩ (.int .i64 mk.pos)).setCell ⟨w.heap.size+1,3,none⟩ (.slice O mk.tags.length c2)).setCell ⟨w.heap.size+1,4,none⟩ (.slice N mk.blocks.length c3)).alloc (.cells #[.int .i64 1,.int .i64 mk.seq,.int .i64 mk.pos,.slice O mk.tags.length c2,.slice N mk.blocks.length c3] 119)):=⟨_,rfl⟩;have A:=zos L.o (.int .i64 1) (.int .i64 mk.seq) (.int .i64 mk.pos) (.slice O mk.tags.length c2) (.slice N mk.blocks.length c3) (.cells #[.int .i64 1,.int .i64 mk.seq,.int .i64 mk.pos,.slice O mk.tags.length c2,.slice N mk.blocks.length c3] 119);rw[←B]at A;obtain⟨⟨S,Z,R,j,k⟩,_⟩:=zis A;have Y:=zab B;rw[←B];clear B A U X i b h J C D I F;refine bodyPost_ret (v:=.tuple #[.agg #[.int .i64 1,.int .i64 mk.seq,.int .i64 mk.pos,.slice O mk.tags.length c2,.slice N mk.blocks.length c3],.int .i64 0]) (by simp[results,results113,go_sem,S,Z,R,j,k]) rfl ?_;rw[zlw,A0.o];refine⟨_,_,_,_,_,_,_,_,_,rfl,?_,?_,?_⟩
    ·exact trivial
    ·intro q;exact⟨by rw[y.o],by rw[y.o]⟩
    ·rw[Y.o];exact((((((r.o.setCell (p:=⟨w.heap.size+1,0,none⟩) (by simp) _).setCell (p:=⟨w.heap.size+1,1,none⟩) (by simp) _).setCell (p:=⟨w.heap.size+1,2,none⟩) (by simp) _).setCell (p:=⟨w.heap.size+1,3,none⟩) (by simp) _).setCell (p:=⟨w.heap.size+1,4,none⟩) (by simp) _).alloc (by simp[World.setCell];omega) _)
   ·have Q:Hid (scanE d=1):=by rw[Hid,K.o,if_pos (.inr hk)]
    have A3:(mk.kind !=1)=true:=by simpa using hk
    clear K;obtain⟨⟨U,X,i,b,h⟩,J,C,D,I,F⟩:=zis L.o;go_wp2;obtain⟨W,B⟩:∃W,W=((((((u.setCell ⟨w.heap.size+1,0,none⟩ (.int .i64 0)).setCell ⟨w.heap.size+1,1,none⟩ (.int .i64 0)).setCell ⟨w.heap.size+1,2,none⟩ (.int .i64 0)).setCell ⟨w.heap.size+1,3,none⟩ (.slice none 0 0)).setCell ⟨w.heap.size+1,4,none⟩ (.slice none 0 0)).alloc (.cells #[.int .i64 mk.kind,.int .i64 mk.seq,.int .i64 mk.pos,.slice O mk.tags.length c2,.slice N mk.blocks.length c3] 119)):=⟨_,rfl⟩;have A:=zos L.o (.int .i64 0) (.int .i64 0) (.int .i64 0) (.slice none 0 0) (.slice none 0 0) (.cells #[.int .i64 mk.kind,.int .i64 mk.seq,.int .i64 mk.pos,.slice O mk.tags.length c2,.slice N mk.blocks.length c3] 119);rw[←B]at A;obtain⟨⟨S,Z,R,j,k⟩,_⟩:=zis A;have Y:=zab B;rw[←B];clear B A U X i b h J C D I F;refine bodyPost_ret (v:=.tuple #[.agg #[.int .i64 0,.int .i64 0,.int .i64 0,.slice none 0 0,.slice none 0 0],.int .i64 (1)]) (by simp[results,results113,go_sem,S,Z,R,j,k]) rfl ?_;rw[zlw,Q.o];refine⟨_,_,_,_,_,_,_,_,_,rfl,?_,?_,?_⟩
    ·exact trivial
    ·intro q;cases q
    ·rw[Y.o];exact((((((r.o.setCell (p:=⟨w.heap.size+1,0,none⟩) (by simp) _).setCell (p:=⟨w.heap.size+1,1,none⟩) (by simp) _).setCell (p:=⟨w.heap.size+1,2,none⟩) (by simp) _).setCell (p:=⟨w.heap.size+1,3,none⟩) (by simp) _).setCell (p:=⟨w.heap.size+1,4,none⟩) (by simp) _).alloc (by simp[World.setCell];omega) _)
  ·have Q:Hid (scanE d=1):=by rw[Hid,K.o,if_pos (.inl he)]
   have A1:(er !=0)=true:=by simpa using he
   clear K;obtain⟨⟨U,X,i,b,h⟩,J,C,D,I,F⟩:=zis L.o;go_wp2;obtain⟨W,B⟩:∃W,W=((((((u.setCell ⟨w.heap.size+1,0,none⟩ (.int .i64 0)).setCell ⟨w.heap.size+1,1,none⟩ (.int .i64 0)).setCell ⟨w.heap.size+1,2,none⟩ (.int .i64 0)).setCell ⟨w.heap.size+1,3,none⟩ (.slice none 0 0)).setCell ⟨w.heap.size+1,4,none⟩ (.slice none 0 0)).alloc (.cells #[.int .i64 mk.kind,.int .i64 mk.seq,.int .i64 mk.pos,.slice O mk.tags.length c2,.slice N mk.blocks.length c3] 119)):=⟨_,rfl⟩;have A:=zos L.o (.int .i64 0) (.int .i64 0) (.int .i64 0) (.slice none 0 0) (.slice none 0 0) (.cells #[.int .i64 mk.kind,.int .i64 mk.seq,.int .i64 mk.pos,.slice O mk.tags.length c2,.slice N mk.blocks.length c3] 119);rw[←B]at A;obtain⟨⟨S,Z,R,j,k⟩,_⟩:=zis A;have Y:=zab B;rw[←B];clear B A U X i b h J C D I F;refine bodyPost_ret (v:=.tuple #[.agg #[.int .i64 0,.int .i64 0,.int .i64 0,.slice none 0 0,.slice none 0 0],.int .i64 (1)]) (by simp[results,results113,go_sem,S,Z,R,j,k]) rfl ?_;rw[zlw,Q.o];refine⟨_,_,_,_,_,_,_,_,_,rfl,?_,?_,?_⟩
   ·exact trivial
   ·intro q;cases q
   ·rw[Y.o];exact((((((r.o.setCell (p:=⟨w.heap.size+1,0,none⟩) (by simp) _).setCell (p:=⟨w.heap.size+1,1,none⟩) (by simp) _).setCell (p:=⟨w.heap.size+1,2,none⟩) (by simp) _).setCell (p:=⟨w.heap.size+1,3,none⟩) (by simp) _).setCell (p:=⟨w.heap.size+1,4,none⟩) (by simp) _).alloc (by simp[World.setCell];omega) _)
 ·have Q:Hid (scanE d=readE d 0):=by rw[Hid,scanE,if_pos hE]
  have A4:(readE d 0 !=0)=true:=by simpa using hE
  have HE:=zab hE;generalize readE d 0=E at *;clear hE;obtain⟨⟨U,X,i,b,h⟩,J,C,D,I,F⟩:=zis l.o;go_wp2;obtain⟨W,B⟩:∃W,W=(((((w1.setCell ⟨w.heap.size+1,0,none⟩ (.int .i64 0)).setCell ⟨w.heap.size+1,1,none⟩ (.int .i64 0)).setCell ⟨w.heap.size+1,2,none⟩ (.int .i64 0)).setCell ⟨w.heap.size+1,3,none⟩ (.slice none 0 0)).setCell ⟨w.heap.size+1,4,none⟩ (.slice none 0 0)):=⟨_,rfl⟩;have A:=zux l.o (.int .i64 0) (.int .i64 0) (.int .i64 0) (.slice none 0 0) (.slice none 0 0);rw[←B]at A;obtain⟨⟨S,Z,R,j,k⟩,_⟩:=zis A;have Y:=zab B;rw[←B];clear B A U X i b h J C D I F;refine bodyPost_ret (v:=.tuple #[.agg #[.int .i64 0,.int .i64 0,.int .i64 0,.slice none 0 0,.slice none 0 0],.int .i64 (E)]) (by simp[results,results113,go_sem,S,Z,R,j,k]) rfl ?_;rw[zlw,Q.o];refine⟨_,_,_,_,_,_,_,_,_,rfl,?_,?_,?_⟩
  ·exact trivial
  ·intro q;exact absurd q HE.o
  ·rw[Y.o];exact(((((s.o.setCell (p:=⟨w.heap.size+1,0,none⟩) (by simp) _).setCell (p:=⟨w.heap.size+1,1,none⟩) (by simp) _).setCell (p:=⟨w.heap.size+1,2,none⟩) (by simp) _).setCell (p:=⟨w.heap.size+1,3,none⟩) (by simp) _).setCell (p:=⟨w.heap.size+1,4,none⟩) (by simp) _)
theorem zyy{w:World}{B:Nat}{v0 v1 v2:Value}{t:TypeId}(h:w.heap[B]?=some (.cells #[v0,v1,v2] t (0,0))):
  (w.cell? ⟨B,0,none⟩=some v0∧w.cell? ⟨B,1,none⟩=some v1∧w.cell? ⟨B,2,none⟩=some v2)∧∀k,w.frozen? ⟨B,k,none⟩=false:=by
 refine⟨⟨?_,?_,?_⟩,fun k=>frozen_of_row w _ _ _ _ h⟩<;>(rw[cell_of_row w _ _ _ _ _ h];rfl)
theorem zge{w:World}{B:Nat}{z0 z1 z2:Value}{t:TypeId}(h:w.heap[B]?=some (.cells #[z0,z1,z2] t (0,0)))(v0 v1 v2:Value):
  (((w.setCell ⟨B,0,none⟩ v0).setCell ⟨B,1,none⟩ v1).setCell ⟨B,2,none⟩ v2).heap[B]?=some (.cells #[v0,v1,v2] t (0,0)):=by
 have C:=heap_setCell_same w B 0 _ _ v0 h;have A:=heap_setCell_same _ B 1 _ _ v1 C;exact heap_setCell_same _ B 2 _ _ v2 A
theorem zuy{w:World}{B:Nat}{z0 z1 z2:Value}{t:TypeId}(h:w.heap[B]?=some (.cells #[z0,z1,z2] t (0,0)))(v0 v1 v2:Value)(o:Obj):
  ((((w.setCell ⟨B,0,none⟩ v0).setCell ⟨B,1,none⟩ v1).setCell ⟨B,2,none⟩ v2).alloc o).heap[B]?=some (.cells #[v0,v1,v2] t (0,0)):=by
 have A:=zge h v0 v1 v2;exact zad (zaa _ o) (Array.getElem?_eq_some_iff.1 A).1 A
theorem zfs{w:World}{base:Nat}{e:TypeId}{size:Nat}{v:Value}{n:Nat}{xs:List Value}{B:Nat}{v0 v1 v2:Value}(h:w.ownsRow base e size v n xs)(hb:∀k,v.ownBlock=some k→k≠B):(((w.setCell ⟨B,0,none⟩ v0).setCell ⟨B,1,none⟩ v1).setCell ⟨B,2,none⟩ v2).ownsRow base e size v n xs:=
 zc5 (zc5 (zc5 h (p:=⟨B,0,none⟩) hb v0) (p:=⟨B,1,none⟩) hb v1) (p:=⟨B,2,none⟩) hb v2
theorem OwnR.ne{w:World}{base:Nat}{x:RX}(h:OwnR w base x){B:Nat}(hB:B<base):(∀k,x.m.ownBlock=some k→k≠B)∧(∀k,x.d.ownBlock=some k→k≠B)∧∀k,x.r.ownBlock=some k→k≠B:=
 ⟨fun k hk=>by have:=(h.1.lt k hk).1;omega,fun k hk=>by have:=(h.2.1.lt k hk).1;omega,fun k hk=>by have:=(h.2.2.lt k hk).1;omega⟩
theorem OwnR.set3{w:World}{base B:Nat}{x:RX}{v0 v1 v2:Value}(h:OwnR w base x)(hB:B<base):OwnR (((w.setCell ⟨B,0,none⟩ v0).setCell ⟨B,1,none⟩ v1).setCell ⟨B,2,none⟩ v2) base x:=
 ⟨zfs h.1 (h.ne hB).1,zfs h.2.1 (h.ne hB).2.1,zfs h.2.2 (h.ne hB).2.2⟩
theorem OwnR.base{w:World}{b b':Nat}{x:RX}(h:OwnR w b x)(hb:b'≤b):OwnR w b' x:=⟨za6 h.1 hb,za6 h.2.1 hb,za6 h.2.2 hb⟩
theorem OwnR.but{R base:Nat}{w w':World}{x:RX}(h:OwnR w base x)(hb:But R w.heap.size w w')(hR:R<base):OwnR w' base x:=⟨zed h.1 hb hR,zed h.2.1 hb hR,zed h.2.2 hb hR⟩
def zyz (w:World)(R:Nat):Nat:=match w.cell? ⟨R,3,none⟩ with|some (.int _ n)=>n.toNat|_=>0
theorem Rd.left{w:World}{R:Nat}{a:Option Addr}{c:Nat}{a':Option Addr}{c':Nat}{d:Dk}{p0 i:Nat}(h:Rd w R a c a' c' d p0 i):zyz w R=24 - i:=by
 rw[zyz,(z3r h).1.2.2.2];simp
def ScPost (w w':World)(d:Dk)(e:Ending):Prop:=
 ∃v,e=.returned (.tuple #[v,.int .i64 (scanE d)])∧Below w.heap.size w w'∧(scanE d≠0→v=.agg #[.slice none 0 0,.int .i64 0,.int .i64 0])∧
  (scanE d=0→∃(q:List RX) (va:Option Addr) (vc:Nat),v=.agg #[.slice va q.length vc,.int .i64 ((zaq d).seq+(q.length:Int)),.int .i64 ((((zaq d).pos.toNat+(zbw d).2)%24:Nat):Int)]∧q.map (·.t)=(zbw d).1∧w'.ownsRow w.heap.size 40 10 (.slice va q.length vc) q.length (cellsX q)∧∀x∈q,OwnR w' w.heap.size x)
theorem z2c(a:Option Addr)(c:Nat)(a':Option Addr)(c':Nat)(d:Dk)(w:World)(hD:IsDk w (.agg #[.slice a d.safe.length c,.slice a' d.wr.length c']) d):
  Calls prog 76 #[.agg #[.slice a d.safe.length c,.slice a' d.wr.length c']] w fun e w'=>ScPost w w' d e:=by
 have HD:=zab hD;clear hD;go_enter func76,ntmps76;go_wp2_with fail;refine(zot a c a' c' d _ (HD.o.below (zae (zaa _ _) (zaa _ _)))).mono ?_;rintro e A ⟨k,u,p,a2,n2,c2,a3,n3,c3,rfl,_,B0,A1⟩;have K0:=zab (zgr A1);have KB:=zab (zhl A1);have F2:w.heap.size+1<A.heap.size:=by have:=A1.size;simp at this;omega
 have F7:w.heap.size<A.heap.size:=by omega
 have C0:=zab (zae (zae (zaa _ _) (zaa _ _)) A1);clear A1;by_cases hE:scanE d=0
 ·obtain⟨rfl,rfl⟩:=B0 hE;rw[hE];have C4:=zab hE
  have E5:za3 d=true∧(1≤(zaq d).seq∧(zaq d).seq≤2147483647)∧0≤(zaq d).pos∧(zaq d).pos≤23:=by
   have h:=hE;unfold scanE at h;split at h
   ·rename_i h1;exact absurd h h1
   ·rename_i h1;split at h
    ·cases h
    ·rename_i h2
     have h3:(zas (zal d 0)).2=0:=by
      by_cases D:(zas (zal d 0)).2=0
      ·exact D
      ·exact absurd (.inl D) h2
     have h4:=zla h3
     have h5:readE d 0=0:=by
      by_cases D:readE d 0=0
      ·exact D
      ·exact absurd D h1
     refine⟨?_,?_⟩
     ·unfold readE at h5;split at h5
      ·rename_i D;exact(Bool.and_eq_true_iff.1 D).1
      ·cases h5
     ·unfold goodM at h4;split at h4
      ·cases h4
      ·split at h4
       ·cases h4
       ·rename_i D;show(1≤(zas (zal d 0)).1.seq∧_)∧_;unfold zaq;omega
  obtain⟨hg,⟨G1,G5⟩,E9,F1⟩:=E5;have HL:Hid (zbw d=scanP (logOf d (zaq d).pos) 0 (zaq d).seq []):=rfl;obtain⟨C,hp⟩:∃C:Nat,(zaq d).pos=(C:Int):=⟨(zaq d).pos.toNat,by omega⟩;have C1:Hid ((zaq d).pos.toNat=C):=by rw[Hid,hp];rfl
  rw[hp]at HL⊢;have F5:C<24:=by omega
  have G3:=zab hp;generalize hsq0:(zaq d).seq=u at *;have D3:=zab hsq0;clear hE B0 hp E9 F1 hsq0;obtain⟨⟨l,r⟩,m⟩:=zgq K0.o;go_wp2;clear l r m;obtain⟨W0,A9⟩:∃W0,W0=((A.alloc (.cells #[.int .i64 k,.int .i64 u,.int .i64 (C:Int),.slice a2 n2 c2,.slice a3 n3 c3] 119)).alloc (.cells #[.slice none 0 0,.int .i64 u,.int .i64 (C:Int)] 90)).alloc (.cells #[.slice a d.safe.length c,.slice a' d.wr.length c',.int .i64 (C:Int),.int .i64 24] 170):=⟨_,rfl⟩;have B5:Below A.heap.size A W0:=by rw[A9];exact zae (zae (zaa _ _) (zaa _ _)) (zaa _ _)
  have O:W0.heap[A.heap.size+1]?=some (.cells #[.slice none 0 0,.int .i64 u,.int .i64 (C:Int)] 90 (0,0))∧W0.heap[A.heap.size+1+1]?=some (.cells #[.slice a d.safe.length c,.slice a' d.wr.length c',.int .i64 (C:Int),.int .i64 24] 170 (0,0))∧A.heap.size+1+1<W0.heap.size:=by
   rw[A9];obtain⟨_,K2,K3,hs⟩:=zkb (Below.refl _ _);exact⟨K2,K3,hs⟩
  rw[←A9];clear A9;have D7:=zab O.1;have E1:(C+0)%24=C:=by omega
  have D2:Hid (Rd W0 (A.heap.size+1+1) a c a' c' d C 0):=by rw[Hid,Rd,E1];exact O.2.1
  have C7:=O.2.2;have D5:=zab (zad B5 F2 KB.o);have D8:=zab (zae C0.o B5);have Q:Hid (scanP (logOf d C) 0 (u+(([]:List RX).length:Int)) (([]:List RX).map (·.t))=zbw d):=by rw[Hid,HL.o];simp
  clear O B5 KB C0 K0 HL
  go_loopw [9] (fun _ wr=>∃(pos:Nat) (B:Int) (q:List RX) (X:Option Addr) (U:Nat),pos≤24∧B=u+(q.length:Int)∧q.length≤pos∧Hid (scanP (logOf d C) pos B (q.map (·.t))=zbw d)∧Hid (Rd wr (A.heap.size+1+1) a c a' c' d C pos)∧Hid (Below w.heap.size w wr)∧A.heap.size+1+1<wr.heap.size∧Hid (wr.heap[w.heap.size+1]?=some (.cells #[.slice none 0 0,.int .i64 0,.int .i64 0] 90 (0,0)))∧
    Hid (wr.heap[A.heap.size+1]?=some (.cells #[.slice X q.length U,.int .i64 B,.int .i64 (((C+pos)%24:Nat):Int)] 90 (0,0)))∧Hid (wr.ownsRow (A.heap.size+3) 40 10 (.slice X q.length U) q.length (cellsX q))∧Hid (∀x∈q,OwnR wr (A.heap.size+3) x))
   (fun _ wr=>zyz wr (A.heap.size+1+1))
  case atStart=>exact⟨0,u+(([]:List RX).length:Int),[],none,0,Nat.zero_le _,rfl,Nat.zero_le _,Q,D2,D8,C7,D5,by rw[E1];simpa using D7,World.ownsRow_nil _ _ _ _,fun x D=>(by cases D)⟩
  case round=>
   clear D7 D2 C7 D5 D8 Q;obtain⟨pos,B,q,X,U,E2,C5,G6,Q,B1,HB,F8,KB,KF,HO,HX⟩:=hrel;rw[B1.o.left];have A4:=zab C5;clear C5;have C9:w.heap.size≤A.heap.size+1+1:=by omega
   by_cases hlt:B<2147483647
   ·obtain⟨⟨l,r,x2⟩,m⟩:=zyy KF.o;go_wp2_with fail;refine(zv8 (A.heap.size+1+1) a c a' c' d C pos B wr w B1.o E2 HD.o hg HB.o C9).mono ?_;rintro e K ⟨v,b,rfl,J,hT⟩;have G0:=J.size;have i:Hid (K.heap[w.heap.size+1]?=_):=(J.block _ (by omega) (by omega)).trans KB.o;have S:Hid (K.heap[A.heap.size+1]?=_):=(J.block _ (by omega) (by omega)).trans KF.o;have A6:Hid (Below w.heap.size w K):=J.below HB.o HB.o.size C9;have L:=zab (zed HO.o J (by omega));have A3:Hid (∀x∈q,OwnR K (A.heap.size+3) x):=fun x D=>(HX.o x D).but J (by omega);clear l r x2 m KB KF HB HO HX B1
    cases hrun:zfb (logOf d C) B pos (zcv B) with
    |none=>
     rw[zqb,hrun]at hT;obtain⟨rfl,rfl⟩:=hT;have Y:Hid (zbw d=(q.map (·.t),pos)):=by rw[Hid,←Q.o,scanP,dif_pos hlt,hrun]
     clear hrun Q J;have B3:w.heap.size+1<K.heap.size:=by omega
     have B4:A.heap.size+1<K.heap.size:=by omega
     obtain⟨N,F⟩:∃N:Nat,N=(C+pos)%24:=⟨_,rfl⟩;rw[←F]at S;have A2:=zab F;clear F;obtain⟨⟨z0,z1,z2⟩,zf⟩:=zyy i.o;obtain⟨⟨l,r,x2⟩,m⟩:=zyy S.o;go_wp2;clear l r x2 m;obtain⟨W,M⟩:∃W,W=((((K.setCell ⟨w.heap.size+1,0,none⟩ (.slice X q.length U)).setCell ⟨w.heap.size+1,1,none⟩ (.int .i64 B)).setCell ⟨w.heap.size+1,2,none⟩ (.int .i64 (N:Int))).alloc (.cells #[.int .i64 0,.slice none 0 0,.slice none 0 0,.slice none 0 0,.bool false,.int .i64 0,.bool false,.int .i64 0,.bool false,.int .i64 0] 40)):=⟨_,rfl⟩;have I:=zuy i.o (.slice X q.length U) (.int .i64 B) (.int .i64 (N:Int)) (.cells #[.int .i64 0,.slice none 0 0,.slice none 0 0,.slice none 0 0,.bool false,.int .i64 0,.bool false,.int .i64 0,.bool false,.int .i64 0] 40);rw[←M]at I;obtain⟨⟨y0,y1,y2⟩,_⟩:=zyy I;have HW:=zab M;rw[←M];clear M I z0 z1 z2 zf;refine bodyPost_ret (v:=.tuple #[.agg #[.slice X q.length U,.int .i64 B,.int .i64 (N:Int)],.int .i64 0]) (by simp[results,results76,go_sem,y0,y1,y2]) rfl ?_;rw[ScPost,C4.o];refine⟨_,rfl,?_,fun h=>absurd rfl h,fun _=>⟨q,X,U,?_,?_,?_,?_⟩⟩
     ·rw[HW.o];exact(((A6.o.setCell (p:=⟨w.heap.size+1,0,none⟩) (by simp) _).setCell (p:=⟨w.heap.size+1,1,none⟩) (by simp) _).setCell (p:=⟨w.heap.size+1,2,none⟩) (by simp) _).alloc (by simp[World.setCell];omega) _
     ·rw[C1.o,Y.o,D3.o,←A4.o,A2.o]
     ·rw[Y.o]
     ·rw[HW.o];refine za6 (zah (zfs L.o ?_) (zaa _ _)) (show w.heap.size≤A.heap.size+3 by omega);intro k j;have:=(L.o.lt k j).1;omega
     ·intro x D;rw[HW.o];exact OwnR.base (OwnR.below (OwnR.set3 (A3.o x D) (by omega)) (zaa _ _)) (by omega)
    |some nt=>
     obtain⟨n,t⟩:=nt;rw[zqb,hrun]at hT;obtain⟨rfl,C6,tm,tr,rfl,C8,ht⟩:=hT;have hn:=zdl (logOf d C) B 24 pos (zcv B) n t (by rw[za7];omega) hrun;rw[za7]at hn;have B8:Hid (scanP (logOf d C) n (B+1) (q.map (·.t)++[t])=zbw d):=by rw[Hid,←Q.o,scanP.eq_def (logOf d C) pos,dif_pos hlt,hrun]
     have A8:Hid (OwnR K (A.heap.size+3) ⟨tm,.slice none 0 0,tr,t⟩):=C8.base (by omega);obtain⟨s,z,F4⟩:∃s z,t=txW B s z:=⟨_,_,ht⟩;subst F4;obtain⟨ma,mc,_,_,ra,rc,e1,_,e3,_⟩:=A8.o.tx;simp only at e1 e3;subst e1 e3;have D1:=zab C6;clear hrun Q J C8 ht C6;have B3:w.heap.size+1<K.heap.size:=by omega
     have B4:A.heap.size+1<K.heap.size:=by omega
     have F6:q.length≤24:=by omega
     obtain⟨⟨l,r,x2⟩,m⟩:=zyy S.o;go_wp2_with (at_builtin;refine zsv rfl _ _ rfl (A.heap.size+3) _ q rfl (zah L.o (zae (zaa _ _) (zaa _ _))) (K.heap.size+1) ⟨.slice ma (txW B s z).info.length mc,.slice none 0 0,.slice ra (txW B s z).rev.length rc,txW B s z⟩ rfl (z5a (by simp[go_sem,txW]) (by simp[go_sem,txW]) (by simp[go_sem,txW]) (by simp[go_sem,txW]) (by simp[go_sem,txW]) (by simp[go_sem,txW]) (by simp[go_sem,txW]) (by simp[go_sem,txW]) (by simp[go_sem,txW]) (by simp[go_sem,txW])) A8.o.one (by omega) (by simp;omega) ?_);intro v3 w3 D4 Z;obtain⟨y,A0⟩:∃y,y=q++[(⟨.slice ma (txW B s z).info.length mc,.slice none 0 0,.slice ra (txW B s z).rev.length rc,txW B s z⟩:RX)]:=⟨_,rfl⟩;have C2:y.length=q.length+1:=by rw[A0];simp
     have A7:=zyv D4 (show _=y.length by simp[A0]);rw[←A0]at A7;have R:Below K.heap.size K _:=zae (zaa K (.cells #[.int .i64 B,.slice ma s.length mc,.slice none 0 0,.slice ra z.length rc,.bool false,.int .i64 0,.bool false,.int .i64 0,.bool false,.int .i64 0] 40 (0,0))) (zaa _ (.cells #[.int .i64 B,.slice ma s.length mc,.slice none 0 0,.slice ra z.length rc,.bool false,.int .i64 0,.bool false,.int .i64 0,.bool false,.int .i64 0] 40 (0,0)));have A5:∀k,(Value.slice X q.length U).ownBlock=some k→A.heap.size+3≤k:=fun k j=>(L.o.lt k j).1;have G7:K.heap.size+2≤w3.heap.size:=by have:=Z.size;simpa using this
     have F3:Hid (∀x∈y,OwnR w3 (A.heap.size+3) x):=by
      intro x D;rw[A0]at D
      have F0:OwnR K (A.heap.size+3) x:=by
       rcases List.mem_append.1 D with h|h
       ·exact A3.o x h
       ·rw[List.mem_singleton.1 h];exact A8.o
      exact(F0.below R).grown (zah L.o R) Z
     have E3:Hid (scanP (logOf d C) n (B+1) (y.map (·.t))=zbw d):=by rw[Hid,A0,List.map_append];exact B8.o
     have E0:Hid (B+1=u+(y.length:Int)):=by rw[Hid,C2,A4.o];omega
     have E6:Hid (w3.heap[w.heap.size+1]?=_):=(Z.block _ (by simp;omega) (fun e=>by have:=A5 _ e.symm;omega)).trans (zad R B3 i.o);have D6:Hid (w3.heap[A.heap.size+1]?=_):=(Z.block _ (by simp;omega) (fun e=>by have:=A5 _ e.symm;omega)).trans (zad R B4 S.o);have B2:Hid (Rd w3 (A.heap.size+1+1) a c a' c' d C n):=(D1.o.below R).grown Z (fun k j=>by have:=A5 k j;omega);have E8:Hid (Below w.heap.size w w3):=(zae A6.o R).grown Z (zae A6.o R).size (fun k j=>by have:=A5 k j;omega);have D9:=zab A7
     obtain⟨B6,B7,E4⟩:∃B6 B7,v3=.slice B6 y.length B7:=by
      rcases A7.2 with⟨e,h0⟩|⟨g,cap,cur,e,_⟩
      ·exact absurd h0 (by omega)
      ·exact⟨_,_,e⟩
     subst E4;obtain⟨N,F⟩:∃N:Nat,N=(C+n)%24:=⟨_,rfl⟩;have A2:=zab F;have B9:=B2.o;rw[Rd,←F]at B9;obtain⟨⟨r0,r1,r2,r3⟩,rf⟩:=z3r B9;have G2:IntKind.i64.wrap (B+1)=B+1:=by rw[IntKind.wrap_i64];have:=A4.o;omega
     clear l r x2 m A0 D4 A7 R A5 Z A3 A8 B8 i S D1 A6 L F B9 C2;obtain⟨⟨l,r,x2⟩,m⟩:=zyy D6.o;have F9:A.heap.size+1<w3.heap.size:=by omega
     have G8:A.heap.size+1+1<w3.heap.size:=by omega
     have C3:y.length≤n:=by have h1:=E0.o;have h2:=A4.o;omega
     go_wp2;clear l r x2 m r0 r1 r2 r3 rf;refine⟨⟨_,_,_,_,_,_,_,_,_,_,_,_,_,_,_,_,_,_,_,_,_,_,_,_,_,_,_,_,_,?rel,rfl⟩,?measure⟩
     case rel=>exact⟨n,B+1,y,B6,B7,hn.2,E0.o,C3,E3,((B2.o.setNe (p:=⟨A.heap.size+1,0,none⟩) (by simp) _).setNe (p:=⟨A.heap.size+1,1,none⟩) (by simp) _).setNe (p:=⟨A.heap.size+1,2,none⟩) (by simp) _,((E8.o.setCell (p:=⟨A.heap.size+1,0,none⟩) (by simp;omega) _).setCell (p:=⟨A.heap.size+1,1,none⟩) (by simp;omega) _).setCell (p:=⟨A.heap.size+1,2,none⟩) (by simp;omega) _,by simp[World.setCell];omega,(zg0 (p:=⟨A.heap.size+1,2,none⟩) (by simp;omega) _).trans ((zg0 (p:=⟨A.heap.size+1,1,none⟩) (by simp;omega) _).trans ((zg0 (p:=⟨A.heap.size+1,0,none⟩) (by simp;omega) _).trans E6.o)),by rw[←A2.o];exact zge D6.o _ _ _,zfs D9.o (fun k j=>by have:=(D9.o.lt k j).1;omega),fun x D=>(F3.o x D).set3 (by omega)⟩
     case measure=>
      rw[(((B2.o.setNe (p:=⟨A.heap.size+1,0,none⟩) (by simp) _).setNe (p:=⟨A.heap.size+1,1,none⟩) (by simp) _).setNe (p:=⟨A.heap.size+1,2,none⟩) (by simp) _).left];omega
   ·have Y:Hid (zbw d=(q.map (·.t),pos)):=by rw[Hid,←Q.o,scanP,dif_neg hlt]
    have i:=KB;have S:=KF;have L:=HO;have A3:=HX;clear KB KF HO HX Q;have B3:w.heap.size+1<wr.heap.size:=by omega
    have B4:A.heap.size+1<wr.heap.size:=by omega
    obtain⟨N,F⟩:∃N:Nat,N=(C+pos)%24:=⟨_,rfl⟩;rw[←F]at S;have A2:=zab F;clear F;obtain⟨⟨z0,z1,z2⟩,zf⟩:=zyy i.o;obtain⟨⟨l,r,x2⟩,m⟩:=zyy S.o;go_wp2;clear l r x2 m;obtain⟨W,M⟩:∃W,W=(((wr.setCell ⟨w.heap.size+1,0,none⟩ (.slice X q.length U)).setCell ⟨w.heap.size+1,1,none⟩ (.int .i64 B)).setCell ⟨w.heap.size+1,2,none⟩ (.int .i64 (N:Int))):=⟨_,rfl⟩;have I:=zge i.o (.slice X q.length U) (.int .i64 B) (.int .i64 (N:Int));rw[←M]at I;obtain⟨⟨y0,y1,y2⟩,_⟩:=zyy I;have HW:=zab M;rw[←M];clear M I z0 z1 z2 zf;refine bodyPost_ret (v:=.tuple #[.agg #[.slice X q.length U,.int .i64 B,.int .i64 (N:Int)],.int .i64 0]) (by simp[results,results76,go_sem,y0,y1,y2]) rfl ?_;rw[ScPost,C4.o];refine⟨_,rfl,?_,fun h=>absurd rfl h,fun _=>⟨q,X,U,?_,?_,?_,?_⟩⟩
    ·rw[HW.o];exact((HB.o.setCell (p:=⟨w.heap.size+1,0,none⟩) (by simp) _).setCell (p:=⟨w.heap.size+1,1,none⟩) (by simp) _).setCell (p:=⟨w.heap.size+1,2,none⟩) (by simp) _
    ·rw[C1.o,Y.o,D3.o,←A4.o,A2.o]
    ·rw[Y.o]
    ·rw[HW.o];refine za6 (zfs L.o ?_) (show w.heap.size≤A.heap.size+3 by omega);intro k j;have:=(L.o.lt k j).1;omega
    ·intro x D;rw[HW.o];exact OwnR.base (OwnR.set3 (A3.o x D) (by omega)) (by omega)
 ·have G4:(scanE d !=0)=true:=by simpa using hE
  have HE:=zab hE;clear B0 hE;generalize hEE:scanE d=E at *;have E7:=zab hEE;clear hEE;obtain⟨⟨z0,z1,z2⟩,zf⟩:=zyy KB.o;go_wp2;obtain⟨W,M⟩:∃W,W=((((A.setCell ⟨w.heap.size+1,0,none⟩ (.slice none 0 0)).setCell ⟨w.heap.size+1,1,none⟩ (.int .i64 0)).setCell ⟨w.heap.size+1,2,none⟩ (.int .i64 0)).alloc (.cells #[.int .i64 k,.int .i64 u,.int .i64 p,.slice a2 n2 c2,.slice a3 n3 c3] 119)):=⟨_,rfl⟩;have I:=zuy KB.o (.slice none 0 0) (.int .i64 0) (.int .i64 0) (.cells #[.int .i64 k,.int .i64 u,.int .i64 p,.slice a2 n2 c2,.slice a3 n3 c3] 119);rw[←M]at I;obtain⟨⟨y0,y1,y2⟩,_⟩:=zyy I;have HW:=zab M;rw[←M];clear M I z0 z1 z2 zf;refine bodyPost_ret (v:=.tuple #[.agg #[.slice none 0 0,.int .i64 0,.int .i64 0],.int .i64 E]) (by simp[results,results76,go_sem,y0,y1,y2]) rfl ?_;rw[ScPost,E7.o];refine⟨_,rfl,?_,fun _=>rfl,fun h=>absurd h HE.o⟩;rw[HW.o];exact(((C0.o.setCell (p:=⟨w.heap.size+1,0,none⟩) (by simp) _).setCell (p:=⟨w.heap.size+1,1,none⟩) (by simp) _).setCell (p:=⟨w.heap.size+1,2,none⟩) (by simp) _).alloc (by simp[World.setCell];omega) _
theorem zy1(log:List ByteArray):∀(f pos:Nat) (seq:Int) (acc:List Tx),log.length - pos≤f→(scanP log pos seq acc).1.length≤acc.length+f:=by
 intro f
 induction f with
 |zero=>
  intro pos seq acc A;rw[scanP];split
  ·rw[zfb,dif_neg (by omega)];exact Nat.le_refl _
  ·exact Nat.le_refl _
 |succ f ih=>
  intro pos seq acc A;rw[scanP];split
  ·split
   ·exact Nat.le_add_right _ _
   ·rename_i n t B;have hb:=zdl log seq _ pos _ n t (Nat.le_refl _) B;have:=ih n (seq+1) (acc++[t]) (by omega);rw[List.length_append,List.length_singleton]at this;omega
  ·exact Nat.le_add_right _ _
def fndL (d:Dk):List Tx:=if scanE d=0 then(zbw d).1 else[]
def fndN (d:Dk):Int:=if scanE d=0 then(zaq d).seq+((zbw d).1.length:Int) else 0
def fndP (d:Dk):Int:=if scanE d=0 then((((zaq d).pos.toNat+(zbw d).2)%24:Nat):Int) else 0
theorem zou(d:Dk):(fndL d).length≤24:=by
 unfold fndL;split
 ·have:=zy1 (logOf d (zaq d).pos) 24 0 (zaq d).seq [] (by rw[za7];omega)
  simpa[zbw] using this
 ·exact Nat.zero_le _
theorem ScPost.found{w w':World}{d:Dk}{e:Ending}(h:ScPost w w' d e):∃va vc,e=.returned (.tuple #[.agg #[.slice va (fndL d).length vc,.int .i64 (fndN d),.int .i64 (fndP d)],.int .i64 (scanE d)])∧SegTx w' va (fndL d)∧Below w.heap.size w w':=by
 obtain⟨v,rfl,hb,I,E⟩:=h;by_cases hE:scanE d=0
 ·obtain⟨q,va,vc,rfl,C,J,K⟩:=E hE;obtain⟨a,c,D,F,_⟩:=SegTx.of_owns J K;simp only[Value.slice.injEq]at D;obtain⟨rfl,_,rfl⟩:=D;have B:fndL d=q.map (·.t):=by rw[fndL,if_pos hE,C]
  have A:q.length=(zbw d).1.length:=by rw[←C,List.length_map]
  refine⟨va,vc,?_,by rw[B];exact F,hb⟩;rw[B,fndN,fndP,if_pos hE,if_pos hE,List.length_map,A]
 ·rw[I hE];refine⟨none,0,?_,.inl (by rw[fndL,if_neg hE]),hb⟩;rw[fndL,fndN,fndP,if_neg hE,if_neg hE,if_neg hE];rfl
