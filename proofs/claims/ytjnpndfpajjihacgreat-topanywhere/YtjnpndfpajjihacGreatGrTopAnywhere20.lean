/-
  
-/
import Derived.Test.YtjnpndfpajjihacGreatXScanC
import Derived.Test.YtjnpndfpajjihacGreatGrTopAnywhere19
set_option maxRecDepth 100000
set_option maxHeartbeats 40000000
namespace Go.Proofs.YtjnpndfpajjihacGreat
open Go.Proofs.Tryz
open Go.RowKit
theorem zqb(w:World)(base:Nat){ops:Array Oper}{rest:List Oper}{o:Oper}{a:Act}{Q:Exit→Act→World→Prop}(hgd:o.guard=none)(s x:Operand)
  (ho:o.op=.call {callee:=.builtin .append,args:=#[s,x],argTypes:=#[35,35]})
  (v:Value) (q:List Int) (hs:a.eval s=v) (hown:w.ownsRow base 3 1 v q.length (cellsI q)) (ao:Option Addr) (c:Nat) (l:List Int) (hx:a.eval x=.slice ao l.length c) (hS:SegI w ao l)
  (hn:q.length+l.length≤1000) (hbase:base≤w.heap.size)
  (h:∀v' w',Hid (w'.ownsRow base 3 1 v' (q++l).length (cellsI (q++l)))→w.grownBy w' v.ownBlock→wpList prog ops Q rest (a.put o.dst v') w'):wpList prog ops Q (o::rest) a w:=by
 obtain⟨J,K,D,B,C⟩:=info_parts zsc
 cases ao with
 |none=>
  have F:l=[]:=by rcases hS with h|⟨b,off,he,_⟩;exact h;cases he
  subst F;refine Lib.wpList_append_run w hgd s x _ _ ho _ _ hs hx v w (zgw w base o.type v q.length c (cellsI q) hown) (h v w ?_ ⟨rfl,rfl,rfl,Nat.le_refl _,fun _ _ _=>rfl⟩);rw[List.append_nil];exact hown
 |some ad=>
  refine wpList_append_own w hgd s x 35 ho base 3 J (.int .i64 0) 1 8 underlying35 K D B C rfl (by decide) v q.length (cellsI q) hs hown ad l.length c (cellsI l) hx (zdn l) ?_ zjr (by unfold maxLen;omega) (by omega) hbase ?_
  ·intro j u A;rcases hS with h|⟨b,off,he,hlt,hc⟩
   ·rw[h]at A;simp[cellsI]at A
   ·cases he;rw[Addr.add_lit];exact SegI.news hc j u A
  ·intro v' w' I E _;refine h v' w' ?_ E;rw[Hid,zf5,List.length_append];exact I
theorem zqc(w:World)(base:Nat){ops:Array Oper}{rest:List Oper}{o:Oper}{a:Act}{Q:Exit→Act→World→Prop}(hgd:o.guard=none)(s x:Operand)
  (ho:o.op=.call {callee:=.builtin .append,args:=#[s,x],argTypes:=#[34,34]})
  (v:Value) (q:List (Int×ByteArray)) (hs:a.eval s=v) (hown:w.ownsRow base 84 2 v q.length (cellsC q)) (ao:Option Addr) (c:Nat) (l:List (Int×ByteArray)) (hx:a.eval x=.slice ao l.length c) (hS:SegW w ao l)
  (hn:q.length+l.length≤1000) (hbase:base≤w.heap.size)
  (h:∀v' w',Hid (w'.ownsRow base 84 2 v' (q++l).length (cellsC (q++l)))→w.grownBy w' v.ownBlock→wpList prog ops Q rest (a.put o.dst v') w'):wpList prog ops Q (o::rest) a w:=by
 obtain⟨J,K,D,B,C⟩:=info_parts zvm
 cases ao with
 |none=>
  have F:l=[]:=by rcases hS with h|⟨b,off,he,_⟩;exact h;cases he
  subst F;refine Lib.wpList_append_run w hgd s x _ _ ho _ _ hs hx v w (zgv w base o.type v q.length c (cellsC q) hown) (h v w ?_ ⟨rfl,rfl,rfl,Nat.le_refl _,fun _ _ _=>rfl⟩);rw[List.append_nil];exact hown
 |some ad=>
  refine wpList_append_own w hgd s x 34 ho base 84 J (.agg #[.int .i64 0,.string ⟨#[]⟩]) 2 24 underlying34 K D B C rfl (by decide) v q.length (cellsC q) hs hown ad l.length c (cellsC l) hx (zdo l) ?_ (zho l) (by unfold maxLen;omega) (by omega) hbase ?_
  ·intro j u A;rcases hS with h|⟨b,off,he,hlt,hc⟩
   ·rw[h]at A;simp[cellsC]at A
   ·cases he;rw[Addr.add_lit];exact SegC.news hc j u A
  ·intro v' w' I E _;refine h v' w' ?_ E;rw[Hid,zdp,List.length_append];exact I
theorem zut{w:World}{B:Nat}{u0 u1 u2 u3 u4 u5 u6 u7 u8 u9:Value}{t:TypeId}(h:w.heap[B]?=some (.cells #[u0,u1,u2,u3,u4,u5,u6,u7,u8,u9] t (0,0)))(v0 v1 v2 v3 v4 v5 v6 v7 v8 v9:Value):
  (((((((((((w.setCell ⟨B,0,none⟩ v0).setCell ⟨B,1,none⟩ v1).setCell ⟨B,2,none⟩ v2).setCell ⟨B,3,none⟩ v3).setCell ⟨B,4,none⟩ v4).setCell ⟨B,5,none⟩ v5).setCell ⟨B,6,none⟩ v6).setCell ⟨B,7,none⟩ v7).setCell ⟨B,8,none⟩ v8).setCell ⟨B,9,none⟩ v9)).heap[B]?=some (.cells #[v0,v1,v2,v3,v4,v5,v6,v7,v8,v9] t (0,0)):=by
 have E:(w.setCell ⟨B,0,none⟩ v0).heap[B]?=some (.cells #[v0,u1,u2,u3,u4,u5,u6,u7,u8,u9] t (0,0)):=heap_setCell_same _ B 0 _ _ v0 h;have K:((w.setCell ⟨B,0,none⟩ v0).setCell ⟨B,1,none⟩ v1).heap[B]?=some (.cells #[v0,v1,u2,u3,u4,u5,u6,u7,u8,u9] t (0,0)):=heap_setCell_same _ B 1 _ _ v1 E;have J:(((w.setCell ⟨B,0,none⟩ v0).setCell ⟨B,1,none⟩ v1).setCell ⟨B,2,none⟩ v2).heap[B]?=some (.cells #[v0,v1,v2,u3,u4,u5,u6,u7,u8,u9] t (0,0)):=heap_setCell_same _ B 2 _ _ v2 K;have A:((((w.setCell ⟨B,0,none⟩ v0).setCell ⟨B,1,none⟩ v1).setCell ⟨B,2,none⟩ v2).setCell ⟨B,3,none⟩ v3).heap[B]?=some (.cells #[v0,v1,v2,v3,u4,u5,u6,u7,u8,u9] t (0,0)):=heap_setCell_same _ B 3 _ _ v3 J;have M:(((((w.setCell ⟨B,0,none⟩ v0).setCell ⟨B,1,none⟩ v1).setCell ⟨B,2,none⟩ v2).setCell ⟨B,3,none⟩ v3).setCell ⟨B,4,none⟩ v4).heap[B]?=some (.cells #[v0,v1,v2,v3,v4,u5,u6,u7,u8,u9] t (0,0)):=heap_setCell_same _ B 4 _ _ v4 A;have I:((((((w.setCell ⟨B,0,none⟩ v0).setCell ⟨B,1,none⟩ v1).setCell ⟨B,2,none⟩ v2).setCell ⟨B,3,none⟩ v3).setCell ⟨B,4,none⟩ v4).setCell ⟨B,5,none⟩ v5).heap[B]?=some (.cells #[v0,v1,v2,v3,v4,v5,u6,u7,u8,u9] t (0,0)):=heap_setCell_same _ B 5 _ _ v5 M;have L:(((((((w.setCell ⟨B,0,none⟩ v0).setCell ⟨B,1,none⟩ v1).setCell ⟨B,2,none⟩ v2).setCell ⟨B,3,none⟩ v3).setCell ⟨B,4,none⟩ v4).setCell ⟨B,5,none⟩ v5).setCell ⟨B,6,none⟩ v6).heap[B]?=some (.cells #[v0,v1,v2,v3,v4,v5,v6,u7,u8,u9] t (0,0)):=heap_setCell_same _ B 6 _ _ v6 I;have F:((((((((w.setCell ⟨B,0,none⟩ v0).setCell ⟨B,1,none⟩ v1).setCell ⟨B,2,none⟩ v2).setCell ⟨B,3,none⟩ v3).setCell ⟨B,4,none⟩ v4).setCell ⟨B,5,none⟩ v5).setCell ⟨B,6,none⟩ v6).setCell ⟨B,7,none⟩ v7).heap[B]?=some (.cells #[v0,v1,v2,v3,v4,v5,v6,v7,u8,u9] t (0,0)):=heap_setCell_same _ B 7 _ _ v7 L;have C:(((((((((w.setCell ⟨B,0,none⟩ v0).setCell ⟨B,1,none⟩ v1).setCell ⟨B,2,none⟩ v2).setCell ⟨B,3,none⟩ v3).setCell ⟨B,4,none⟩ v4).setCell ⟨B,5,none⟩ v5).setCell ⟨B,6,none⟩ v6).setCell ⟨B,7,none⟩ v7).setCell ⟨B,8,none⟩ v8).heap[B]?=some (.cells #[v0,v1,v2,v3,v4,v5,v6,v7,v8,u9] t (0,0)):=heap_setCell_same _ B 8 _ _ v8 F
 have D:((((((((((w.setCell ⟨B,0,none⟩ v0).setCell ⟨B,1,none⟩ v1).setCell ⟨B,2,none⟩ v2).setCell ⟨B,3,none⟩ v3).setCell ⟨B,4,none⟩ v4).setCell ⟨B,5,none⟩ v5).setCell ⟨B,6,none⟩ v6).setCell ⟨B,7,none⟩ v7).setCell ⟨B,8,none⟩ v8).setCell ⟨B,9,none⟩ v9).heap[B]?=some (.cells #[v0,v1,v2,v3,v4,v5,v6,v7,v8,v9] t (0,0)):=heap_setCell_same _ B 9 _ _ v9 C;exact D
theorem zi2{w:World}{B:Nat}{u0 u1 u2 u3 u4 u5 u6 u7 u8 u9:Value}{t:TypeId}(h:w.heap[B]?=some (.cells #[u0,u1,u2,u3,u4,u5,u6,u7,u8,u9] t (0,0)))(v0 v1 v2 v3 v4 v5 v6 v7 v8 v9:Value)(o:Obj):
  (((((((((((w.setCell ⟨B,0,none⟩ v0).setCell ⟨B,1,none⟩ v1).setCell ⟨B,2,none⟩ v2).setCell ⟨B,3,none⟩ v3).setCell ⟨B,4,none⟩ v4).setCell ⟨B,5,none⟩ v5).setCell ⟨B,6,none⟩ v6).setCell ⟨B,7,none⟩ v7).setCell ⟨B,8,none⟩ v8).setCell ⟨B,9,none⟩ v9).alloc o).heap[B]?=some (.cells #[v0,v1,v2,v3,v4,v5,v6,v7,v8,v9] t (0,0)):=by
 have A:=zut h v0 v1 v2 v3 v4 v5 v6 v7 v8 v9;exact zad (zab _ o) (Array.getElem?_eq_some_iff.1 A).1 A
theorem zyv{w:World}{base:Nat}{e:TypeId}{size:Nat}{v:Value}{n m:Nat}{xs:List Value}(h:w.ownsRow base e size v n xs)(hn:n=m):w.ownsRow base e size v m xs:=hn▸h
theorem zgx{w:World}{B:Nat}{p:Addr}(h:B≠p.block)(u:Value):(w.setCell p u).heap[B]?=w.heap[B]?:=by
 rw[World.setCell];simp only[Array.getElem?_modify];rw[if_neg (fun x=>h x.symm)]
theorem zyw{log:List ByteArray}{j:Nat}(h:j<log.length)(seq:Int)(t:Tx){mk:Mk}{er:Int}(hM:(mk,er)=zar (log.getD j ByteArray.empty)):
  zfb log seq j t=if er≠0∨mk.seq≠seq∨mk.kind=1 then none else if mk.kind=4 then some (j+1,t) else if j+1+mk.tags.length≤log.length then zfb log seq (j+1+mk.tags.length) (more log j t mk) else none:=by
 rw[zfb,dif_pos h,←hM]
def txW (seq:Int)(info:List (Int×ByteArray))(rev:List Int):Tx:=⟨seq,info,[],rev,⟨false,0⟩,⟨false,0⟩,⟨false,0⟩⟩
theorem zuu(log:List ByteArray)(i:Nat)(seq:Int)(info:List (Int×ByteArray))(rev:List Int)(m:Mk):more log i (txW seq info rev) m=txW seq (info++copiesAt log (i+1) m.tags) (rev++m.blocks):=rfl
theorem zk8{s:ByteArray}(h:(zar s).2=0):goodM (zar s).1=0:=by
 unfold zar at h⊢;split at h
 ·rename_i A;rw[if_pos A];exact A.2.1
 ·cases h
theorem zyx{m:Mk}(h:goodM m=0):(m.kind=1∨m.kind=2∨m.kind=3∨m.kind=4)∧(m.kind≠2→m.tags=[])∧(m.kind≠3→m.blocks=[])∧(m.kind=2→m.tags.length≤10)∧(m.kind=3→m.blocks.length≤20):=by
 unfold goodM at h;split at h
 ·cases h
 ·split at h
  ·cases h
  ·split at h
   ·cases h
   ·split at h
    ·cases h
    ·rename_i h1 _ B A;refine⟨by omega,fun hk=>?_,fun hk=>?_,fun hk=>?_,fun hk=>?_⟩
     ·by_cases ht:m.tags=[]
      ·exact ht
      ·exact absurd (.inr (.inl ⟨hk,ht⟩)) B
     ·by_cases ht:m.blocks=[]
      ·exact ht
      ·exact absurd (.inr (.inr ⟨hk,ht⟩)) B
     ·by_cases ht:m.tags.length≤10
      ·exact ht
      ·exact absurd (.inl ⟨hk,.inr (by omega)⟩) A
     ·by_cases ht:m.blocks.length≤20
      ·exact ht
      ·exact absurd (.inr (.inl ⟨hk,.inr (by omega)⟩)) A
def zqd (w w':World)(R:Nat)(a:Option Addr)(c:Nat)(a':Option Addr)(c':Nat)(d:Dk)(p0 i:Nat)(seq:Int)(v:Value)(b:Bool):Prop:=
 match zfb (logOf d p0) seq i (zct seq) with
 |none=>b=false∧v=.agg #[.int .i64 0,.slice none 0 0,.slice none 0 0,.slice none 0 0,.bool false,.int .i64 0,.bool false,.int .i64 0,.bool false,.int .i64 0]
 |some (n,t)=>b=true∧Rd w' R a c a' c' d p0 n∧∃m r,v=.agg #[.int .i64 seq,m,.slice none 0 0,r,.bool false,.int .i64 0,.bool false,.int .i64 0,.bool false,.int .i64 0]∧OwnR w' w.heap.size ⟨m,.slice none 0 0,r,t⟩∧t=txW seq t.info t.rev
def z48 (w w':World)(R:Nat)(a:Option Addr)(c:Nat)(a':Option Addr)(c':Nat)(d:Dk)(p0 i:Nat)(seq:Int)(e:Ending):Prop:=∃v b,e=.returned (.tuple #[v,.bool b])∧But R w.heap.size w w'∧zqd w w' R a c a' c' d p0 i seq v b
theorem zv7(R:Nat)(a:Option Addr)(c:Nat)(a':Option Addr)(c':Nat)(d:Dk)(p0 i:Nat)(seq:Int)(w w0:World)(hR:Rd w R a c a' c' d p0 i)(hi:i≤24)(hD:IsDk w0 (.agg #[.slice a d.safe.length c,.slice a' d.wr.length c']) d)(hg:za0 d=true)(hb:Below w0.heap.size w0 w)(hR0:w0.heap.size≤R):
  Calls prog 114 #[.pointer (some ⟨R,0,none⟩),.int .i64 seq] w fun e w'=>z48 w w' R a c a' c' d p0 i seq e:=by
 have G9:=hR.lt;have HD:=zaa hD;have B9:=zaa hb;have HR:=zaa hR;clear hD hb hR;go_enter func114,ntmps114;go_wp2
 go_loopw [8] (fun _ wr=>∃(j:Nat) (info:List (Int×ByteArray)) (rev:List Int) (ma:Option Addr) (z:Nat) (ra:Option Addr) (rc:Nat),i≤j∧j≤24∧info.length≤j∧rev.length≤20*j∧Hid (zfb (logOf d p0) seq i (zct seq)=zfb (logOf d p0) seq j (txW seq info rev))∧Hid (Rd wr R a c a' c' d p0 j)∧Hid (But R w.heap.size w wr)∧w.heap.size+1<wr.heap.size∧
   Hid (wr.heap[w.heap.size]?=some (.cells #[.int .i64 0,.slice none 0 0,.slice none 0 0,.slice none 0 0,.bool false,.int .i64 0,.bool false,.int .i64 0,.bool false,.int .i64 0] 40 (0,0)))∧Hid (wr.heap[w.heap.size+1]?=some (.cells #[.int .i64 seq,.slice ma info.length z,.slice none 0 0,.slice ra rev.length rc,.bool false,.int .i64 0,.bool false,.int .i64 0,.bool false,.int .i64 0] 40 (0,0)))∧Hid (wr.ownsRow (w.heap.size+2) 84 2 (.slice ma info.length z) info.length (cellsC info))∧Hid (wr.ownsRow (w.heap.size+2) 3 1 (.slice ra rev.length rc) rev.length (cellsI rev)))
  (fun _ wr=>match wr.cell? ⟨R,3,none⟩ with|some (.int _ n)=>n.toNat|_=>0)
 case atStart=>exact⟨i,[],[],none,0,none,0,Nat.le_refl _,hi,Nat.zero_le _,Nat.zero_le _,rfl,HR.o.below (zae (zab _ _) (zab _ _)),But.of_below (zae (zab _ _) (zab _ _)),by simp,zhm (Below.refl _ _),zh4 (Below.refl _ _),World.ownsRow_nil _ _ _ _,World.ownsRow_nil _ _ _ _⟩
 case round=>
  obtain⟨j,info,rev,ma,z,ra,rc,H2,hj,H0,G8,B,B1,HB,G4,KB,KT,C7,D2⟩:=hrel;have A8:(match wr.cell? ⟨R,3,none⟩ with|some (.int _ n)=>n.toNat|_=>0)=24 - j:=by rw[(z30 B1.o).1.2.2.2];simp
  rw[A8];have C6:Hid (Below w0.heap.size w0 wr):=HB.o.below B9.o B9.o.size hR0;by_cases hend:j=24
  ·subst hend;have A4:Hid (zfb (logOf d p0) seq i (zct seq)=none):=by rw[Hid,B.o,zfb,dif_neg (by rw[za5];omega)]
   clear A8;go_wp2_with fail;refine(zyq R a c a' c' d p0 seq _ B1.o).mono ?_;rintro e K ⟨rfl,J⟩;have q:Hid (But R w.heap.size w K):=HB.o.trans (But.of_below J) HB.o.size;have I:=zaa (zad J (by omega) KB.o);have B6:w.heap.size+1<K.heap.size:=Nat.lt_of_lt_of_le G4 J.size;have A7:w.heap.size<K.heap.size:=by omega
   clear J B1 KB KT C7 D2 HB;obtain⟨⟨h,l,N,m,Y,Z,O,U,X,L⟩,Q⟩:=zaj I.o;go_wp2;obtain⟨W,D⟩:∃W,W=(((((((((((K.setCell ⟨w.heap.size,0,none⟩ (.int .i64 0)).setCell ⟨w.heap.size,1,none⟩ (.slice none 0 0)).setCell ⟨w.heap.size,2,none⟩ (.slice none 0 0)).setCell ⟨w.heap.size,3,none⟩ (.slice none 0 0)).setCell ⟨w.heap.size,4,none⟩ (.bool false)).setCell ⟨w.heap.size,5,none⟩ (.int .i64 0)).setCell ⟨w.heap.size,6,none⟩ (.bool false)).setCell ⟨w.heap.size,7,none⟩ (.int .i64 0)).setCell ⟨w.heap.size,8,none⟩ (.bool false)).setCell ⟨w.heap.size,9,none⟩ (.int .i64 0)).alloc (.cells #[.int .i64 0,.int .i64 0,.int .i64 0,.slice none 0 0,.slice none 0 0] 119)):=⟨_,rfl⟩;have A:=zi2 I.o (.int .i64 0) (.slice none 0 0) (.slice none 0 0) (.slice none 0 0) (.bool false) (.int .i64 0) (.bool false) (.int .i64 0) (.bool false) (.int .i64 0) (.cells #[.int .i64 0,.int .i64 0,.int .i64 0,.slice none 0 0,.slice none 0 0] 119);rw[←D]at A;obtain⟨⟨y0,y1,y2,y3,y4,y5,y6,y7,y8,y9⟩,_⟩:=zaj A;have y:=zaa D;rw[←D];clear D A h l N m Y Z O U X L Q;refine bodyPost_ret (v:=.tuple #[.agg #[.int .i64 0,.slice none 0 0,.slice none 0 0,.slice none 0 0,.bool false,.int .i64 0,.bool false,.int .i64 0,.bool false,.int .i64 0],.bool false]) (by simp[results,results114,go_sem,y0,y1,y2,y3,y4,y5,y6,y7,y8,y9]) rfl ?_;unfold z48;refine⟨_,false,rfl,?_,?_⟩
   ·rw[y.o];exact(But.trans ((((((((((q.o.setNew (p:=⟨w.heap.size,0,none⟩) (Nat.le_refl _) _).setNew (p:=⟨w.heap.size,1,none⟩) (Nat.le_refl _) _).setNew (p:=⟨w.heap.size,2,none⟩) (Nat.le_refl _) _).setNew (p:=⟨w.heap.size,3,none⟩) (Nat.le_refl _) _).setNew (p:=⟨w.heap.size,4,none⟩) (Nat.le_refl _) _).setNew (p:=⟨w.heap.size,5,none⟩) (Nat.le_refl _) _).setNew (p:=⟨w.heap.size,6,none⟩) (Nat.le_refl _) _).setNew (p:=⟨w.heap.size,7,none⟩) (Nat.le_refl _) _).setNew (p:=⟨w.heap.size,8,none⟩) (Nat.le_refl _) _).setNew (p:=⟨w.heap.size,9,none⟩) (Nat.le_refl _) _) (But.of_below (zab _ _)) (by simp[World.setCell];omega))
   ·rw[zqd,A4.o];exact⟨rfl,rfl⟩
  ·have E5:j<24:=by omega
   clear A8;go_wp2_with fail;refine(zv4 R a c a' c' d p0 j seq _ w0 B1.o E5 HD.o hg C6.o).mono ?_;rintro e K ⟨v2,rfl,hN,F0,J⟩;obtain⟨M,hM⟩:∃M,M=zar ((logOf d p0).getD j ByteArray.empty):=⟨_,rfl⟩;rw[←hM]at hN⊢;obtain⟨mk,er⟩:=M;have C:=zaa (zyw (log:=logOf d p0) (j:=j) (by rw[za5];exact E5) seq (txW seq info rev) hM)
   have F2:er=0→goodM mk=0:=by
    intro he;have:=zk8 (s:=(logOf d p0).getD j ByteArray.empty) (by rw[←hM];exact he);rw[←hM]at this;exact this
   have D3:=zaa F2;clear hM F2;obtain⟨a2,c2,a3,c3,rfl,hT,hI,n1,n2,t1,t2⟩:=hN;have H3:=J.size;have B3:=zaa F0;have HT:=zaa hT;have HI:=zaa hI;have C4:Hid (∀b off,a2=some ⟨b,off,none⟩→b≠R):=fun b off e=>by have:=t1 b off e;omega
   have I:Hid (K.heap[w.heap.size]?=_):=(J.block _ (by omega) (by omega)).trans KB.o;have A6:Hid (K.heap[w.heap.size+1]?=_):=(J.block _ (by omega) (by omega)).trans KT.o;have q:Hid (But R w.heap.size w K):=HB.o.trans J (by omega);have A1:=zaa (zeh C7.o J (by omega));have u:=zaa (zeh D2.o J (by omega));have B6:w.heap.size+1<K.heap.size:=by omega
   have A7:w.heap.size<K.heap.size:=by omega
   clear F0 hT hI t1 t2 J KB KT HB C7 D2 B1 C6 n1 n2;by_cases hok:er=0∧mk.seq=seq
   ·obtain⟨rfl,hq⟩:=hok;have B0:(decide ((0:Int)=0)&&decide (mk.seq=seq))=true:=by simp[hq]
    dsimp only;rw[B0];obtain⟨E1,E7,F1,G0,F8⟩:=zyx (D3.o rfl);have G3:=zaa E7;have F9:=zaa F1;clear B0 E7 F1 D3;rcases E1 with hk|hk|hk|hk
    ·have A4:Hid (zfb (logOf d p0) seq i (zct seq)=none):=by rw[Hid,B.o,C.o,if_pos (.inr (.inr hk))]
     clear C B;obtain⟨⟨h,l,N,m,Y,Z,O,U,X,L⟩,Q⟩:=zaj I.o;go_wp2;obtain⟨W,D⟩:∃W,W=(((((((((((K.setCell ⟨w.heap.size,0,none⟩ (.int .i64 0)).setCell ⟨w.heap.size,1,none⟩ (.slice none 0 0)).setCell ⟨w.heap.size,2,none⟩ (.slice none 0 0)).setCell ⟨w.heap.size,3,none⟩ (.slice none 0 0)).setCell ⟨w.heap.size,4,none⟩ (.bool false)).setCell ⟨w.heap.size,5,none⟩ (.int .i64 0)).setCell ⟨w.heap.size,6,none⟩ (.bool false)).setCell ⟨w.heap.size,7,none⟩ (.int .i64 0)).setCell ⟨w.heap.size,8,none⟩ (.bool false)).setCell ⟨w.heap.size,9,none⟩ (.int .i64 0)).alloc (.cells #[.int .i64 1,.int .i64 seq,.int .i64 mk.pos,.slice a2 mk.tags.length c2,.slice a3 mk.blocks.length c3] 119)):=⟨_,rfl⟩;have A:=zi2 I.o (.int .i64 0) (.slice none 0 0) (.slice none 0 0) (.slice none 0 0) (.bool false) (.int .i64 0) (.bool false) (.int .i64 0) (.bool false) (.int .i64 0) (.cells #[.int .i64 1,.int .i64 seq,.int .i64 mk.pos,.slice a2 mk.tags.length c2,.slice a3 mk.blocks.length c3] 119);rw[←D]at A;obtain⟨⟨y0,y1,y2,y3,y4,y5,y6,y7,y8,y9⟩,_⟩:=zaj A;have y:=zaa D;rw[←D];clear D A h l N m Y Z O U X L Q;refine bodyPost_ret (v:=.tuple #[.agg #[.int .i64 0,.slice none 0 0,.slice none 0 0,.slice none 0 0,.bool false,.int .i64 0,.bool false,.int .i64 0,.bool false,.int .i64 0],.bool false]) (by simp[results,results114,go_sem,y0,y1,y2,y3,y4,y5,y6,y7,y8,y9]) rfl ?_;unfold z48;refine⟨_,false,rfl,?_,?_⟩
     ·rw[y.o];exact(But.trans ((((((((((q.o.setNew (p:=⟨w.heap.size,0,none⟩) (Nat.le_refl _) _).setNew (p:=⟨w.heap.size,1,none⟩) (Nat.le_refl _) _).setNew (p:=⟨w.heap.size,2,none⟩) (Nat.le_refl _) _).setNew (p:=⟨w.heap.size,3,none⟩) (Nat.le_refl _) _).setNew (p:=⟨w.heap.size,4,none⟩) (Nat.le_refl _) _).setNew (p:=⟨w.heap.size,5,none⟩) (Nat.le_refl _) _).setNew (p:=⟨w.heap.size,6,none⟩) (Nat.le_refl _) _).setNew (p:=⟨w.heap.size,7,none⟩) (Nat.le_refl _) _).setNew (p:=⟨w.heap.size,8,none⟩) (Nat.le_refl _) _).setNew (p:=⟨w.heap.size,9,none⟩) (Nat.le_refl _) _) (But.of_below (zab _ _)) (by simp[World.setCell];omega))
     ·rw[zqd,A4.o];exact⟨rfl,rfl⟩
    ·have G7:=G0 hk;have E8:mk.blocks=[]:=F9.o (by omega)
     have C1:Hid (zfb (logOf d p0) seq j (txW seq info rev)=if j+1+mk.tags.length≤24 then zfb (logOf d p0) seq (j+1+mk.tags.length) (txW seq (info++copiesAt (logOf d p0) (j+1) mk.tags) rev) else none):=by
      rw[Hid,C.o,if_neg (by simp[hq,hk]),if_neg (by omega),zuu,E8,List.append_nil,za5]
     clear C E8;go_wp2_with fail;refine(zsq R a c a' c' d p0 (j+1) a2 c2 mk.tags _ w0 (B3.o.below (zab _ _)) (by omega) HD.o hg (zae (q.o.below B9.o B9.o.size hR0) (zab _ _)) hR0 (HT.o.below (zab _ _)) C4.o).mono ?_;rintro e w2 ⟨v2,b2,rfl,hC⟩;have H1:K.heap.size+1≤w2.heap.size:=by have:=hC.1.size;simpa using this
     have C3:Hid (w2.heap[w.heap.size]?=_):=(hC.1.block _ (by simp;omega) (by omega)).trans (zad (zab _ _) A7 I.o);have C2:Hid (w2.heap[w.heap.size+1]?=_):=(hC.1.block _ (by simp;omega) (by omega)).trans (zad (zab _ _) B6 A6.o);have C9:Hid (But R w.heap.size w w2):=(q.o.trans (But.of_below (zab _ _)) (by omega)).trans hC.1 (by simp;omega);have B2:=zaa (zeh (zah A1.o (zab _ _)) hC.1 (by omega));have B8:=zaa (zeh (zah u.o (zab _ _)) hC.1 (by omega));have F5:w.heap.size+1<w2.heap.size:=by omega
     have E0:w.heap.size<w2.heap.size:=by omega
     have C5:=zaa hC.2;clear hC HT HI C4 B3 q I A6 A1 u;by_cases hle:j+1+mk.tags.length≤24
     ·have hc:=C5.o;rw[if_pos hle]at hc;obtain⟨rfl,D7,E6⟩:=hc;have r:Hid (zfb (logOf d p0) seq i (zct seq)=zfb (logOf d p0) seq (j+1+mk.tags.length) (txW seq (info++copiesAt (logOf d p0) (j+1) mk.tags) rev)):=by rw[Hid,B.o,C1.o,if_pos hle]
      obtain⟨ca,cc,rfl,hS,_⟩:=SegC.of_owns D7;have HS:=zaa hS;have E3:=zaa E6;have E4:=zdt (logOf d p0) (j+1) mk.tags;have E9:=zaa E4;clear D7 hS E6 C5 C1 B;generalize copiesAt (logOf d p0) (j+1) mk.tags=cp at *;clear E4;obtain⟨⟨h,l,N,m,Y,Z,O,U,X,L⟩,Q⟩:=zaj C2.o;go_wp2_with (at_builtin;refine zqc _ (w.heap.size+2) rfl _ _ rfl (.slice ma info.length z) info rfl B2.o ca cc cp rfl HS.o (by have:=E9.o;omega) (by omega) ?_);intro v3 w3 F E;obtain⟨nf,B7⟩:∃nf,nf=info++cp:=⟨_,rfl⟩;have F6:nf.length≤j+1+mk.tags.length:=by have:=E9.o;rw[B7,List.length_append];omega
      replace F:=zaa (zyv F.o (show _=nf.length by simp[B7]))
      rw[←B7]at F r;clear B7;obtain⟨D6,D5,D8,_,_⟩:=SegC.of_owns F.o;subst D8;have S:∀k,(Value.slice ma info.length z).ownBlock=some k→w.heap.size+2≤k:=fun k hk=>(B2.o.lt k hk).1;have A0:∀k,(Value.slice D6 nf.length D5).ownBlock=some k→w.heap.size+2≤k:=fun k hk=>(F.o.lt k hk).1;have A5:∀k,(Value.slice ra rev.length rc).ownBlock=some k→w.heap.size+2≤k:=fun k hk=>(B8.o.lt k hk).1;have G1:=E.size;have D1:Hid (w3.heap[w.heap.size]?=_):=(E.block _ E0 (fun e=>by have:=S _ e.symm;omega)).trans C3.o;have B4:Hid (w3.heap[w.heap.size+1]?=_):=(E.block _ F5 (fun e=>by have:=S _ e.symm;omega)).trans C2.o;have B5:Hid (Rd w3 R a c a' c' d p0 (j+1+mk.tags.length)):=E3.o.grown E (fun k hk=>by have:=S k hk;omega);have D4:Hid (But R w.heap.size w w3):=C9.o.grown E (fun k hk=>by have:=S k hk;omega) (by omega);have F7:=zaa (zfp B8.o B2.o (by decide) E);have x:=zaa (And.intro A0 A5);clear h l N m Y Z O U X L Q S A0 A5 E C3 C2 C9 B2 B8 E3 HS;obtain⟨⟨h,l,N,m,Y,Z,O,U,X,L⟩,Q⟩:=zaj B4.o;have A9:R≠w.heap.size+1:=by omega
      go_wp2;clear h l N m Y Z O U X L Q
      go_roundw
      case rel=>exact⟨j+1+mk.tags.length,nf,rev,D6,D5,ra,rc,by omega,hle,F6,by omega,r,B5.o.setNe A9 _,D4.o.setNew (p:=⟨w.heap.size+1,1,none⟩) (by simp) _,by simp[World.setCell];omega,(zgx (by simp) _).trans D1.o,heap_setCell_same _ _ 1 _ _ (.slice D6 nf.length D5) B4.o,zc2 F.o (fun k hk=>by have:=x.o.1 k hk;simp;omega) _,zc2 F7.o (fun k hk=>by have:=x.o.2 k hk;simp;omega) _⟩
      case measure=>
       rw[(z30 (B5.o.setNe (p:=⟨w.heap.size+1,1,none⟩) A9 _)).1.2.2.2];simp;omega
     ·have hc:=C5.o;rw[if_neg hle]at hc;obtain⟨rfl,rfl⟩:=hc;have A4:Hid (zfb (logOf d p0) seq i (zct seq)=none):=by rw[Hid,B.o,C1.o,if_neg hle]
      clear C5 C1 B B2 B8 C2;obtain⟨⟨h,l,N,m,Y,Z,O,U,X,L⟩,Q⟩:=zaj C3.o;go_wp2;obtain⟨W,D⟩:∃W,W=((((((((((w2.setCell ⟨w.heap.size,0,none⟩ (.int .i64 0)).setCell ⟨w.heap.size,1,none⟩ (.slice none 0 0)).setCell ⟨w.heap.size,2,none⟩ (.slice none 0 0)).setCell ⟨w.heap.size,3,none⟩ (.slice none 0 0)).setCell ⟨w.heap.size,4,none⟩ (.bool false)).setCell ⟨w.heap.size,5,none⟩ (.int .i64 0)).setCell ⟨w.heap.size,6,none⟩ (.bool false)).setCell ⟨w.heap.size,7,none⟩ (.int .i64 0)).setCell ⟨w.heap.size,8,none⟩ (.bool false)).setCell ⟨w.heap.size,9,none⟩ (.int .i64 0)):=⟨_,rfl⟩;have A:=zut C3.o (.int .i64 0) (.slice none 0 0) (.slice none 0 0) (.slice none 0 0) (.bool false) (.int .i64 0) (.bool false) (.int .i64 0) (.bool false) (.int .i64 0);rw[←D]at A;obtain⟨⟨y0,y1,y2,y3,y4,y5,y6,y7,y8,y9⟩,_⟩:=zaj A;have y:=zaa D;rw[←D];clear D A h l N m Y Z O U X L Q;refine bodyPost_ret (v:=.tuple #[.agg #[.int .i64 0,.slice none 0 0,.slice none 0 0,.slice none 0 0,.bool false,.int .i64 0,.bool false,.int .i64 0,.bool false,.int .i64 0],.bool false]) (by simp[results,results114,go_sem,y0,y1,y2,y3,y4,y5,y6,y7,y8,y9]) rfl ?_;unfold z48;refine⟨_,false,rfl,?_,?_⟩
      ·rw[y.o];exact((((((((((C9.o.setNew (p:=⟨w.heap.size,0,none⟩) (Nat.le_refl _) _).setNew (p:=⟨w.heap.size,1,none⟩) (Nat.le_refl _) _).setNew (p:=⟨w.heap.size,2,none⟩) (Nat.le_refl _) _).setNew (p:=⟨w.heap.size,3,none⟩) (Nat.le_refl _) _).setNew (p:=⟨w.heap.size,4,none⟩) (Nat.le_refl _) _).setNew (p:=⟨w.heap.size,5,none⟩) (Nat.le_refl _) _).setNew (p:=⟨w.heap.size,6,none⟩) (Nat.le_refl _) _).setNew (p:=⟨w.heap.size,7,none⟩) (Nat.le_refl _) _).setNew (p:=⟨w.heap.size,8,none⟩) (Nat.le_refl _) _).setNew (p:=⟨w.heap.size,9,none⟩) (Nat.le_refl _) _)
      ·rw[zqd,A4.o];exact⟨rfl,rfl⟩
    ·have G5:=F8 hk;have E2:mk.tags=[]:=G3.o (by omega)
     have r:Hid (zfb (logOf d p0) seq i (zct seq)=zfb (logOf d p0) seq (j+1) (txW seq info (rev++mk.blocks))):=by
      rw[Hid,B.o,C.o,if_neg (by simp[hq,hk]),if_neg (by omega),zuu,E2,if_pos (by rw[za5];simp;omega)];simp[copiesAt]
     clear C B E2;obtain⟨⟨h,l,N,m,Y,Z,O,U,X,L⟩,Q⟩:=zaj A6.o;go_wp2_with (at_builtin;refine zqb _ (w.heap.size+2) rfl _ _ rfl (.slice ra rev.length rc) rev rfl (zah u.o (zab _ _)) a3 c3 mk.blocks rfl (HI.o.below (zab _ _)) (by omega) (by simp;omega) ?_);intro v3 w3 F E;obtain⟨rv,C0⟩:∃rv,rv=rev++mk.blocks:=⟨_,rfl⟩;have F4:rv.length≤20*(j+1):=by rw[C0,List.length_append];omega
     replace F:=zaa (zyv F.o (show _=rv.length by simp[C0]))
     rw[←C0]at F r;clear C0;obtain⟨D9,C8,D8,_,_⟩:=SegI.of_owns F.o;subst D8;have A2:Below K.heap.size K (K.alloc (.cells #[.int .i64 3,.int .i64 seq,.int .i64 mk.pos,.slice a2 mk.tags.length c2,.slice a3 mk.blocks.length c3] 119)):=zab _ _;have S:∀k,(Value.slice ra rev.length rc).ownBlock=some k→w.heap.size+2≤k:=fun k hk=>(u.o.lt k hk).1;have A0:∀k,(Value.slice D9 rv.length C8).ownBlock=some k→w.heap.size+2≤k:=fun k hk=>(F.o.lt k hk).1;have A3:∀k,(Value.slice ma info.length z).ownBlock=some k→w.heap.size+2≤k:=fun k hk=>(A1.o.lt k hk).1;have G1:K.heap.size+1≤w3.heap.size:=by have:=E.size;simpa using this
     have D1:Hid (w3.heap[w.heap.size]?=_):=(E.block _ (by simp;omega) (fun e=>by have:=S _ e.symm;omega)).trans (zad A2 A7 I.o);have B4:Hid (w3.heap[w.heap.size+1]?=_):=(E.block _ (by simp;omega) (fun e=>by have:=S _ e.symm;omega)).trans (zad A2 B6 A6.o);have B5:Hid (Rd w3 R a c a' c' d p0 (j+1)):=(B3.o.below A2).grown E (fun k hk=>by have:=S k hk;omega);have D4:Hid (But R w.heap.size w w3):=(q.o.trans (But.of_below A2) (by omega)).grown E (fun k hk=>by have:=S k hk;omega) (by simp;omega);have G2:=zaa (zfp (zah A1.o A2) (zah u.o A2) (by decide) E);have x:=zaa (And.intro A0 A3);clear h l N m Y Z O U X L Q S A0 A3 E I A6 q A1 u B3 HT HI C4 A2;obtain⟨⟨h,l,N,m,Y,Z,O,U,X,L⟩,Q⟩:=zaj B4.o;have A9:R≠w.heap.size+1:=by omega
     have G6:w.heap.size+1<w3.heap.size:=by omega
     go_wp2;clear h l N m Y Z O U X L Q
     go_roundw
     case rel=>exact⟨j+1,info,rv,ma,z,D9,C8,by omega,by omega,by omega,F4,r,B5.o.setNe A9 _,D4.o.setNew (p:=⟨w.heap.size+1,3,none⟩) (by simp) _,by simp[World.setCell];omega,(zgx (by simp) _).trans D1.o,heap_setCell_same _ _ 3 _ _ (.slice D9 rv.length C8) B4.o,zc2 G2.o (fun k hk=>by have:=x.o.2 k hk;simp;omega) _,zc2 F.o (fun k hk=>by have:=x.o.1 k hk;simp;omega) _⟩
     case measure=>
      rw[(z30 (B5.o.setNe (p:=⟨w.heap.size+1,3,none⟩) A9 _)).1.2.2.2];simp;omega
    ·have F3:Hid (zfb (logOf d p0) seq i (zct seq)=some (j+1,txW seq info rev)):=by rw[Hid,B.o,C.o,if_neg (by simp[hq,hk]),if_pos hk]
     have A5:∀k,(Value.slice ra rev.length rc).ownBlock=some k→w.heap.size+2≤k:=fun k hk=>(u.o.lt k hk).1;have A3:∀k,(Value.slice ma info.length z).ownBlock=some k→w.heap.size+2≤k:=fun k hk=>(A1.o.lt k hk).1;have x:=zaa (And.intro A3 A5);clear C B A5 A3 HT HI C4;obtain⟨⟨h,l,N,m,Y,Z,O,U,X,L⟩,Q⟩:=zaj I.o;obtain⟨⟨y0,y1,y2,y3,y4,y5,y6,y7,y8,y9⟩,yf⟩:=zaj A6.o;go_wp2;clear y0 y1 y2 y3 y4 y5 y6 y7 y8 y9 yf;obtain⟨W,D⟩:∃W,W=(((((((((((K.setCell ⟨w.heap.size,0,none⟩ (.int .i64 seq)).setCell ⟨w.heap.size,1,none⟩ (.slice ma info.length z)).setCell ⟨w.heap.size,2,none⟩ (.slice none 0 0)).setCell ⟨w.heap.size,3,none⟩ (.slice ra rev.length rc)).setCell ⟨w.heap.size,4,none⟩ (.bool false)).setCell ⟨w.heap.size,5,none⟩ (.int .i64 0)).setCell ⟨w.heap.size,6,none⟩ (.bool false)).setCell ⟨w.heap.size,7,none⟩ (.int .i64 0)).setCell ⟨w.heap.size,8,none⟩ (.bool false)).setCell ⟨w.heap.size,9,none⟩ (.int .i64 0)).alloc (.cells #[.int .i64 4,.int .i64 seq,.int .i64 mk.pos,.slice a2 mk.tags.length c2,.slice a3 mk.blocks.length c3] 119)):=⟨_,rfl⟩;have A:=zi2 I.o (.int .i64 seq) (.slice ma info.length z) (.slice none 0 0) (.slice ra rev.length rc) (.bool false) (.int .i64 0) (.bool false) (.int .i64 0) (.bool false) (.int .i64 0) (.cells #[.int .i64 4,.int .i64 seq,.int .i64 mk.pos,.slice a2 mk.tags.length c2,.slice a3 mk.blocks.length c3] 119);rw[←D]at A;obtain⟨⟨y0,y1,y2,y3,y4,y5,y6,y7,y8,y9⟩,_⟩:=zaj A;have y:=zaa D;rw[←D];clear D A h l N m Y Z O U X L Q;refine bodyPost_ret (v:=.tuple #[.agg #[.int .i64 seq,.slice ma info.length z,.slice none 0 0,.slice ra rev.length rc,.bool false,.int .i64 0,.bool false,.int .i64 0,.bool false,.int .i64 0],.bool true]) (by simp[results,results114,go_sem,y0,y1,y2,y3,y4,y5,y6,y7,y8,y9]) rfl ?_;unfold z48;refine⟨_,true,rfl,?_,?_⟩
     ·rw[y.o];exact(But.trans ((((((((((q.o.setNew (p:=⟨w.heap.size,0,none⟩) (Nat.le_refl _) _).setNew (p:=⟨w.heap.size,1,none⟩) (Nat.le_refl _) _).setNew (p:=⟨w.heap.size,2,none⟩) (Nat.le_refl _) _).setNew (p:=⟨w.heap.size,3,none⟩) (Nat.le_refl _) _).setNew (p:=⟨w.heap.size,4,none⟩) (Nat.le_refl _) _).setNew (p:=⟨w.heap.size,5,none⟩) (Nat.le_refl _) _).setNew (p:=⟨w.heap.size,6,none⟩) (Nat.le_refl _) _).setNew (p:=⟨w.heap.size,7,none⟩) (Nat.le_refl _) _).setNew (p:=⟨w.heap.size,8,none⟩) (Nat.le_refl _) _).setNew (p:=⟨w.heap.size,9,none⟩) (Nat.le_refl _) _) (But.of_below (zab _ _)) (by simp[World.setCell];omega))
     ·rw[zqd,F3.o];refine⟨rfl,?_,_,_,rfl,⟨?_,?_,?_⟩,rfl⟩
      ·rw[y.o];refine Rd.below ?_ (zab _ _)
       repeat refine Rd.setNe ?_ (show R≠w.heap.size by omega) _
       exact B3.o
      ·rw[y.o];refine zba (zah ?_ (zab _ _)) (show w.heap.size≤w.heap.size+2 by omega)
       repeat refine zc2 ?_ (fun k e=>by have:=x.o.1 k e;simp;omega) _
       exact A1.o
      ·exact World.ownsRow_nil _ _ _ _
      ·rw[y.o];refine zba (zah ?_ (zab _ _)) (show w.heap.size≤w.heap.size+2 by omega)
       repeat refine zc2 ?_ (fun k e=>by have:=x.o.2 k e;simp;omega) _
       exact u.o
   ·have B0:(decide (er=0)&&decide (mk.seq=seq))=false:=by
     rw[Bool.and_eq_false_iff];by_cases he:er=0
     ·right;exact decide_eq_false fun hq=>hok ⟨he,hq⟩
     ·left;exact decide_eq_false he
    have A4:Hid (zfb (logOf d p0) seq i (zct seq)=none):=by
     rw[Hid,B.o,C.o,if_pos];by_cases he:er=0
     ·exact .inr (.inl fun hq=>hok ⟨he,hq⟩)
     ·exact .inl he
    dsimp only;rw[B0];clear C B hok B0 D3;obtain⟨⟨h,l,N,m,Y,Z,O,U,X,L⟩,Q⟩:=zaj I.o;go_wp2;obtain⟨W,D⟩:∃W,W=(((((((((((K.setCell ⟨w.heap.size,0,none⟩ (.int .i64 0)).setCell ⟨w.heap.size,1,none⟩ (.slice none 0 0)).setCell ⟨w.heap.size,2,none⟩ (.slice none 0 0)).setCell ⟨w.heap.size,3,none⟩ (.slice none 0 0)).setCell ⟨w.heap.size,4,none⟩ (.bool false)).setCell ⟨w.heap.size,5,none⟩ (.int .i64 0)).setCell ⟨w.heap.size,6,none⟩ (.bool false)).setCell ⟨w.heap.size,7,none⟩ (.int .i64 0)).setCell ⟨w.heap.size,8,none⟩ (.bool false)).setCell ⟨w.heap.size,9,none⟩ (.int .i64 0)).alloc (.cells #[.int .i64 mk.kind,.int .i64 mk.seq,.int .i64 mk.pos,.slice a2 mk.tags.length c2,.slice a3 mk.blocks.length c3] 119)):=⟨_,rfl⟩;have A:=zi2 I.o (.int .i64 0) (.slice none 0 0) (.slice none 0 0) (.slice none 0 0) (.bool false) (.int .i64 0) (.bool false) (.int .i64 0) (.bool false) (.int .i64 0) (.cells #[.int .i64 mk.kind,.int .i64 mk.seq,.int .i64 mk.pos,.slice a2 mk.tags.length c2,.slice a3 mk.blocks.length c3] 119);rw[←D]at A;obtain⟨⟨y0,y1,y2,y3,y4,y5,y6,y7,y8,y9⟩,_⟩:=zaj A;have y:=zaa D;rw[←D];clear D A h l N m Y Z O U X L Q;refine bodyPost_ret (v:=.tuple #[.agg #[.int .i64 0,.slice none 0 0,.slice none 0 0,.slice none 0 0,.bool false,.int .i64 0,.bool false,.int .i64 0,.bool false,.int .i64 0],.bool false]) (by simp[results,results114,go_sem,y0,y1,y2,y3,y4,y5,y6,y7,y8,y9]) rfl ?_;unfold z48;refine⟨_,false,rfl,?_,?_⟩
    ·rw[y.o];exact(But.trans ((((((((((q.o.setNew (p:=⟨w.heap.size,0,none⟩) (Nat.le_refl _) _).setNew (p:=⟨w.heap.size,1,none⟩) (Nat.le_refl _) _).setNew (p:=⟨w.heap.size,2,none⟩) (Nat.le_refl _) _).setNew (p:=⟨w.heap.size,3,none⟩) (Nat.le_refl _) _).setNew (p:=⟨w.heap.size,4,none⟩) (Nat.le_refl _) _).setNew (p:=⟨w.heap.size,5,none⟩) (Nat.le_refl _) _).setNew (p:=⟨w.heap.size,6,none⟩) (Nat.le_refl _) _).setNew (p:=⟨w.heap.size,7,none⟩) (Nat.le_refl _) _).setNew (p:=⟨w.heap.size,8,none⟩) (Nat.le_refl _) _).setNew (p:=⟨w.heap.size,9,none⟩) (Nat.le_refl _) _) (But.of_below (zab _ _)) (by simp[World.setCell];omega))
    ·rw[zqd,A4.o];exact⟨rfl,rfl⟩
theorem zuv{w:World}{B:Nat}{z0 z1 z2 z3 z4:Value}{t:TypeId}(h:w.heap[B]?=some (.cells #[z0,z1,z2,z3,z4] t (0,0)))(v0 v1 v2 v3 v4:Value):
  (((((w.setCell ⟨B,0,none⟩ v0).setCell ⟨B,1,none⟩ v1).setCell ⟨B,2,none⟩ v2).setCell ⟨B,3,none⟩ v3).setCell ⟨B,4,none⟩ v4).heap[B]?=some (.cells #[v0,v1,v2,v3,v4] t (0,0)):=by
 have C:=heap_setCell_same w B 0 _ _ v0 h;have E:=heap_setCell_same _ B 1 _ _ v1 C;have A:=heap_setCell_same _ B 2 _ _ v2 E;have D:=heap_setCell_same _ B 3 _ _ v3 A;exact heap_setCell_same _ B 4 _ _ v4 D
theorem zor{w:World}{B:Nat}{z0 z1 z2 z3 z4:Value}{t:TypeId}(h:w.heap[B]?=some (.cells #[z0,z1,z2,z3,z4] t (0,0)))(v0 v1 v2 v3 v4:Value)(o:Obj):
  ((((((w.setCell ⟨B,0,none⟩ v0).setCell ⟨B,1,none⟩ v1).setCell ⟨B,2,none⟩ v2).setCell ⟨B,3,none⟩ v3).setCell ⟨B,4,none⟩ v4).alloc o).heap[B]?=some (.cells #[v0,v1,v2,v3,v4] t (0,0)):=by
 have A:=zuv h v0 v1 v2 v3 v4;exact zad (zab _ o) (Array.getElem?_eq_some_iff.1 A).1 A
def zlv (w w':World)(d:Dk)(e:Ending):Prop:=
 ∃(k q p:Int) (a2:Option Addr) (n2 c2:Nat) (a3:Option Addr) (n3 c3:Nat),e=.returned (.tuple #[.agg #[.int .i64 k,.int .i64 q,.int .i64 p,.slice a2 n2 c2,.slice a3 n3 c3],.int .i64 (scanE d)])∧True∧(scanE d=0→q=(zap d).seq∧p=(zap d).pos)∧Below w.heap.size w w'
theorem zos(a:Option Addr)(c:Nat)(a':Option Addr)(c':Nat)(d:Dk)(w:World)(hD:IsDk w (.agg #[.slice a d.safe.length c,.slice a' d.wr.length c']) d):
  Calls prog 113 #[.agg #[.slice a d.safe.length c,.slice a' d.wr.length c']] w fun e w'=>zlv w w' d e:=by
 have HD:=zaa hD;clear hD;go_enter func113,ntmps113;go_wp2_with fail;refine(zk2 _ d 0 _ (HD.o.below (zae (zab _ _) (zab _ _)))).mono ?_;rintro e w1 ⟨rfl,m⟩;have n:=zaa (zh4 m);have z:w.heap.size+1<w1.heap.size:=by have:=m.size;simp at this;omega
 have r:=zaa (zae (zae (zab _ _) (zab _ _)) m);clear m HD;by_cases hE:readE d 0=0
 ·rw[hE];have HE:=zaa hE;clear hE;go_wp2_with fail;refine(zlt (zam d 0) _).mono ?_;rintro e x ⟨v2,rfl,hN,l⟩;obtain⟨N,c2,O,c3,rfl,_,_,_,_⟩:=hN;obtain⟨M,u⟩:∃M,M=zar (zam d 0):=⟨_,rfl⟩;rw[←u];obtain⟨mk,er⟩:=M;have K:Hid (scanE d=if er≠0∨mk.kind≠1 then 1 else 0):=by rw[Hid,scanE,zap,←u,HE.o];simp
  have y:Hid (zap d=mk):=by rw[Hid,zap,←u]
  clear u;have L:=zaa (zad l z n.o);have A4:w.heap.size+1<x.heap.size:=Nat.lt_of_lt_of_le z l.size;have s:=zaa (zae r.o l);clear l n r;dsimp only;by_cases he:er=0
  ·subst he;by_cases hk:mk.kind=1
   ·have A0:Hid (scanE d=0):=by rw[Hid,K.o,if_neg (by simp[hk])]
    clear K;obtain⟨⟨X,Z,i,k,R⟩,F,J,C,I,D⟩:=zhn L.o;go_wp2;obtain⟨W,B⟩:∃W,W=((((((x.setCell ⟨w.heap.size+1,0,none⟩ (.int .i64 1)).setCell ⟨w.heap.size+1,1,none⟩ (.int .i64 mk.seq)).setCell ⟨w.heap.size+1,2,none⟩ (.int .i64 mk.pos)).setCell ⟨w.heap.size+1,3,none⟩ (.slice N mk.tags.length c2)).setCell ⟨w.heap.size+1,4,none⟩ (.slice O mk.blocks.length c3)).alloc (.cells #[.int .i64 1,.int .i64 mk.seq,.int .i64 mk.pos,.slice N mk.tags.length c2,.slice O mk.blocks.length c3] 119)):=⟨_,rfl⟩;have A:=zor L.o (.int .i64 1) (.int .i64 mk.seq) (.int .i64 mk.pos) (.slice N mk.tags.length c2) (.slice O mk.blocks.length c3) (.cells #[.int .i64 1,.int .i64 mk.seq,.int .i64 mk.pos,.slice N mk.tags.length c2,.slice O mk.blocks.length c3] 119);rw[←B]at A;obtain⟨⟨j,h,b,U,Y⟩,_⟩:=zhn A;have S:=zaa B;rw[←B];clear B A X Z i k R F J C I D;refine bodyPost_ret (v:=.tuple #[.agg #[.int .i64 1,.int .i64 mk.seq,.int .i64 mk.pos,.slice N mk.tags.length c2,.slice O mk.blocks.length c3],.int .i64 0]) (by simp[results,results113,go_sem,j,h,b,U,Y]) rfl ?_;rw[zlv,A0.o];refine⟨_,_,_,_,_,_,_,_,_,rfl,?_,?_,?_⟩
    ·exact trivial
    ·intro q;exact⟨by rw[y.o],by rw[y.o]⟩
    ·rw[S.o];exact((((((s.o.setCell (p:=⟨w.heap.size+1,0,none⟩) (by simp) _).setCell (p:=⟨w.heap.size+1,1,none⟩) (by simp) _).setCell (p:=⟨w.heap.size+1,2,none⟩) (by simp) _).setCell (p:=⟨w.heap.size+1,3,none⟩) (by simp) _).setCell (p:=⟨w.heap.size+1,4,none⟩) (by simp) _).alloc (by simp[World.setCell];omega) _)
   ·have Q:Hid (scanE d=1):=by rw[Hid,K.o,if_pos (.inr hk)]
    have A1:(mk.kind !=1)=true:=by simpa using hk
    clear K;obtain⟨⟨X,Z,i,k,R⟩,F,J,C,I,D⟩:=zhn L.o;go_wp2;obtain⟨W,B⟩:∃W,W=((((((x.setCell ⟨w.heap.size+1,0,none⟩ (.int .i64 0)).setCell ⟨w.heap.size+1,1,none⟩ (.int .i64 0)).setCell ⟨w.heap.size+1,2,none⟩ (.int .i64 0)).setCell ⟨w.heap.size+1,3,none⟩ (.slice none 0 0)).setCell ⟨w.heap.size+1,4,none⟩ (.slice none 0 0)).alloc (.cells #[.int .i64 mk.kind,.int .i64 mk.seq,.int .i64 mk.pos,.slice N mk.tags.length c2,.slice O mk.blocks.length c3] 119)):=⟨_,rfl⟩;have A:=zor L.o (.int .i64 0) (.int .i64 0) (.int .i64 0) (.slice none 0 0) (.slice none 0 0) (.cells #[.int .i64 mk.kind,.int .i64 mk.seq,.int .i64 mk.pos,.slice N mk.tags.length c2,.slice O mk.blocks.length c3] 119);rw[←B]at A;obtain⟨⟨j,h,b,U,Y⟩,_⟩:=zhn A;have S:=zaa B;rw[←B];clear B A X Z i k R F J C I D;refine bodyPost_ret (v:=.tuple #[.agg #[.int .i64 0,.int .i64 0,.int .i64 0,.slice none 0 0,.slice none 0 0],.int .i64 (1)]) (by simp[results,results113,go_sem,j,h,b,U,Y]) rfl ?_;rw[zlv,Q.o];refine⟨_,_,_,_,_,_,_,_,_,rfl,?_,?_,?_⟩
    ·exact trivial
    ·intro q;cases q
    ·rw[S.o];exact((((((s.o.setCell (p:=⟨w.heap.size+1,0,none⟩) (by simp) _).setCell (p:=⟨w.heap.size+1,1,none⟩) (by simp) _).setCell (p:=⟨w.heap.size+1,2,none⟩) (by simp) _).setCell (p:=⟨w.heap.size+1,3,none⟩) (by simp) _).setCell (p:=⟨w.heap.size+1,4,none⟩) (by simp) _).alloc (by simp[World.setCell];omega) _)
  ·have Q:Hid (scanE d=1):=by rw[Hid,K.o,if_pos (.inl he)]
   have A2:(er !=0)=true:=by simpa using he
   clear K;obtain⟨⟨X,Z,i,k,R⟩,F,J,C,I,D⟩:=zhn L.o;go_wp2;obtain⟨W,B⟩:∃W,W=((((((x.setCell ⟨w.heap.size+1,0,none⟩ (.int .i64 0)).setCell ⟨w.heap.size+1,1,none⟩ (.int .i64 0)).setCell ⟨w.heap.size+1,2,none⟩ (.int .i64 0)).setCell ⟨w.heap.size+1,3,none⟩ (.slice none 0 0)).setCell ⟨w.heap.size+1,4,none⟩ (.slice none 0 0)).alloc (.cells #[.int .i64 mk.kind,.int .i64 mk.seq,.int .i64 mk.pos,.slice N mk.tags.length c2,.slice O mk.blocks.length c3] 119)):=⟨_,rfl⟩;have A:=zor L.o (.int .i64 0) (.int .i64 0) (.int .i64 0) (.slice none 0 0) (.slice none 0 0) (.cells #[.int .i64 mk.kind,.int .i64 mk.seq,.int .i64 mk.pos,.slice N mk.tags.length c2,.slice O mk.blocks.length c3] 119);rw[←B]at A;obtain⟨⟨j,h,b,U,Y⟩,_⟩:=zhn A;have S:=zaa B;rw[←B];clear B A X Z i k R F J C I D;refine bodyPost_ret (v:=.tuple #[.agg #[.int .i64 0,.int .i64 0,.int .i64 0,.slice none 0 0,.slice none 0 0],.int .i64 (1)]) (by simp[results,results113,go_sem,j,h,b,U,Y]) rfl ?_;rw[zlv,Q.o];refine⟨_,_,_,_,_,_,_,_,_,rfl,?_,?_,?_⟩
   ·exact trivial
   ·intro q;cases q
   ·rw[S.o];exact((((((s.o.setCell (p:=⟨w.heap.size+1,0,none⟩) (by simp) _).setCell (p:=⟨w.heap.size+1,1,none⟩) (by simp) _).setCell (p:=⟨w.heap.size+1,2,none⟩) (by simp) _).setCell (p:=⟨w.heap.size+1,3,none⟩) (by simp) _).setCell (p:=⟨w.heap.size+1,4,none⟩) (by simp) _).alloc (by simp[World.setCell];omega) _)
 ·have Q:Hid (scanE d=readE d 0):=by rw[Hid,scanE,if_pos hE]
  have A3:(readE d 0 !=0)=true:=by simpa using hE
  have HE:=zaa hE;generalize readE d 0=E at *;clear hE;obtain⟨⟨X,Z,i,k,R⟩,F,J,C,I,D⟩:=zhn n.o;go_wp2;obtain⟨W,B⟩:∃W,W=(((((w1.setCell ⟨w.heap.size+1,0,none⟩ (.int .i64 0)).setCell ⟨w.heap.size+1,1,none⟩ (.int .i64 0)).setCell ⟨w.heap.size+1,2,none⟩ (.int .i64 0)).setCell ⟨w.heap.size+1,3,none⟩ (.slice none 0 0)).setCell ⟨w.heap.size+1,4,none⟩ (.slice none 0 0)):=⟨_,rfl⟩;have A:=zuv n.o (.int .i64 0) (.int .i64 0) (.int .i64 0) (.slice none 0 0) (.slice none 0 0);rw[←B]at A;obtain⟨⟨j,h,b,U,Y⟩,_⟩:=zhn A;have S:=zaa B;rw[←B];clear B A X Z i k R F J C I D;refine bodyPost_ret (v:=.tuple #[.agg #[.int .i64 0,.int .i64 0,.int .i64 0,.slice none 0 0,.slice none 0 0],.int .i64 (E)]) (by simp[results,results113,go_sem,j,h,b,U,Y]) rfl ?_;rw[zlv,Q.o];refine⟨_,_,_,_,_,_,_,_,_,rfl,?_,?_,?_⟩
  ·exact trivial
  ·intro q;exact absurd q HE.o
  ·rw[S.o];exact(((((r.o.setCell (p:=⟨w.heap.size+1,0,none⟩) (by simp) _).setCell (p:=⟨w.heap.size+1,1,none⟩) (by simp) _).setCell (p:=⟨w.heap.size+1,2,none⟩) (by simp) _).setCell (p:=⟨w.heap.size+1,3,none⟩) (by simp) _).setCell (p:=⟨w.heap.size+1,4,none⟩) (by simp) _)
theorem zyy{w:World}{B:Nat}{v0 v1 v2:Value}{t:TypeId}(h:w.heap[B]?=some (.cells #[v0,v1,v2] t (0,0))):
  (w.cell? ⟨B,0,none⟩=some v0∧w.cell? ⟨B,1,none⟩=some v1∧w.cell? ⟨B,2,none⟩=some v2)∧∀k,w.frozen? ⟨B,k,none⟩=false:=by
 refine⟨⟨?_,?_,?_⟩,fun k=>frozen_of_row w _ _ _ _ h⟩<;>(rw[cell_of_row w _ _ _ _ _ h];rfl)
theorem zgc{w:World}{B:Nat}{z0 z1 z2:Value}{t:TypeId}(h:w.heap[B]?=some (.cells #[z0,z1,z2] t (0,0)))(v0 v1 v2:Value):
  (((w.setCell ⟨B,0,none⟩ v0).setCell ⟨B,1,none⟩ v1).setCell ⟨B,2,none⟩ v2).heap[B]?=some (.cells #[v0,v1,v2] t (0,0)):=by
 have A:=heap_setCell_same w B 0 _ _ v0 h;have C:=heap_setCell_same _ B 1 _ _ v1 A;exact heap_setCell_same _ B 2 _ _ v2 C
theorem zuw{w:World}{B:Nat}{z0 z1 z2:Value}{t:TypeId}(h:w.heap[B]?=some (.cells #[z0,z1,z2] t (0,0)))(v0 v1 v2:Value)(o:Obj):
  ((((w.setCell ⟨B,0,none⟩ v0).setCell ⟨B,1,none⟩ v1).setCell ⟨B,2,none⟩ v2).alloc o).heap[B]?=some (.cells #[v0,v1,v2] t (0,0)):=by
 have A:=zgc h v0 v1 v2;exact zad (zab _ o) (Array.getElem?_eq_some_iff.1 A).1 A
theorem zfq{w:World}{base:Nat}{e:TypeId}{size:Nat}{v:Value}{n:Nat}{xs:List Value}{B:Nat}{v0 v1 v2:Value}(h:w.ownsRow base e size v n xs)(hb:∀k,v.ownBlock=some k→k≠B):(((w.setCell ⟨B,0,none⟩ v0).setCell ⟨B,1,none⟩ v1).setCell ⟨B,2,none⟩ v2).ownsRow base e size v n xs:=
 zc2 (zc2 (zc2 h (p:=⟨B,0,none⟩) hb v0) (p:=⟨B,1,none⟩) hb v1) (p:=⟨B,2,none⟩) hb v2
theorem OwnR.ne{w:World}{base:Nat}{x:RX}(h:OwnR w base x){B:Nat}(hB:B<base):(∀k,x.m.ownBlock=some k→k≠B)∧(∀k,x.d.ownBlock=some k→k≠B)∧∀k,x.r.ownBlock=some k→k≠B:=
 ⟨fun k hk=>by have:=(h.1.lt k hk).1;omega,fun k hk=>by have:=(h.2.1.lt k hk).1;omega,fun k hk=>by have:=(h.2.2.lt k hk).1;omega⟩
theorem OwnR.set3{w:World}{base B:Nat}{x:RX}{v0 v1 v2:Value}(h:OwnR w base x)(hB:B<base):OwnR (((w.setCell ⟨B,0,none⟩ v0).setCell ⟨B,1,none⟩ v1).setCell ⟨B,2,none⟩ v2) base x:=
 ⟨zfq h.1 (h.ne hB).1,zfq h.2.1 (h.ne hB).2.1,zfq h.2.2 (h.ne hB).2.2⟩
theorem OwnR.base{w:World}{b b':Nat}{x:RX}(h:OwnR w b x)(hb:b'≤b):OwnR w b' x:=⟨zba h.1 hb,zba h.2.1 hb,zba h.2.2 hb⟩
theorem OwnR.but{R base:Nat}{w w':World}{x:RX}(h:OwnR w base x)(hb:But R w.heap.size w w')(hR:R<base):OwnR w' base x:=⟨zeh h.1 hb hR,zeh h.2.1 hb hR,zeh h.2.2 hb hR⟩
def zyz (w:World)(R:Nat):Nat:=match w.cell? ⟨R,3,none⟩ with|some (.int _ n)=>n.toNat|_=>0
theorem Rd.left{w:World}{R:Nat}{a:Option Addr}{c:Nat}{a':Option Addr}{c':Nat}{d:Dk}{p0 i:Nat}(h:Rd w R a c a' c' d p0 i):zyz w R=24 - i:=by
 rw[zyz,(z30 h).1.2.2.2];simp
def ScPost (w w':World)(d:Dk)(e:Ending):Prop:=
 ∃v,e=.returned (.tuple #[v,.int .i64 (scanE d)])∧Below w.heap.size w w'∧(scanE d≠0→v=.agg #[.slice none 0 0,.int .i64 0,.int .i64 0])∧
  (scanE d=0→∃(q:List RX) (va:Option Addr) (vc:Nat),v=.agg #[.slice va q.length vc,.int .i64 ((zap d).seq+(q.length:Int)),.int .i64 ((((zap d).pos.toNat+(zbw d).2)%24:Nat):Int)]∧q.map (·.t)=(zbw d).1∧w'.ownsRow w.heap.size 40 10 (.slice va q.length vc) q.length (cellsX q)∧∀x∈q,OwnR w' w.heap.size x)
theorem z2j(a:Option Addr)(c:Nat)(a':Option Addr)(c':Nat)(d:Dk)(w:World)(hD:IsDk w (.agg #[.slice a d.safe.length c,.slice a' d.wr.length c']) d):
  Calls prog 76 #[.agg #[.slice a d.safe.length c,.slice a' d.wr.length c']] w fun e w'=>ScPost w w' d e:=by
 have HD:=zaa hD;clear hD;go_enter func76,ntmps76;go_wp2_with fail;refine(zos a c a' c' d _ (HD.o.below (zae (zab _ _) (zab _ _)))).mono ?_;rintro e A ⟨k,u,p,a2,n2,c2,a3,n3,c3,rfl,_,C1,A5⟩;have K0:=zaa (zhm A5);have KB:=zaa (zh4 A5);have F3:w.heap.size+1<A.heap.size:=by have:=A5.size;simp at this;omega
 have F7:w.heap.size<A.heap.size:=by omega
 have B1:=zaa (zae (zae (zab _ _) (zab _ _)) A5);clear A5;by_cases hE:scanE d=0
 ·obtain⟨rfl,rfl⟩:=C1 hE;rw[hE];have C7:=zaa hE
  have F0:za0 d=true∧(1≤(zap d).seq∧(zap d).seq≤2147483647)∧0≤(zap d).pos∧(zap d).pos≤23:=by
   have h:=hE;unfold scanE at h;split at h
   ·rename_i h1;exact absurd h h1
   ·rename_i h1;split at h
    ·cases h
    ·rename_i h2
     have h3:(zar (zam d 0)).2=0:=by
      by_cases D:(zar (zam d 0)).2=0
      ·exact D
      ·exact absurd (.inl D) h2
     have h4:=zk8 h3
     have h5:readE d 0=0:=by
      by_cases D:readE d 0=0
      ·exact D
      ·exact absurd D h1
     refine⟨?_,?_⟩
     ·unfold readE at h5;split at h5
      ·rename_i D;exact(Bool.and_eq_true_iff.1 D).1
      ·cases h5
     ·unfold goodM at h4;split at h4
      ·cases h4
      ·split at h4
       ·cases h4
       ·rename_i D;show(1≤(zar (zam d 0)).1.seq∧_)∧_;unfold zap;omega
  obtain⟨hg,⟨G4,G5⟩,E5,E6⟩:=F0;have HL:Hid (zbw d=scanP (logOf d (zap d).pos) 0 (zap d).seq []):=rfl;obtain⟨C,hp⟩:∃C:Nat,(zap d).pos=(C:Int):=⟨(zap d).pos.toNat,by omega⟩;have C2:Hid ((zap d).pos.toNat=C):=by rw[Hid,hp];rfl
  rw[hp]at HL⊢;have F5:C<24:=by omega
  have G0:=zaa hp;generalize hsq0:(zap d).seq=u at *;have C9:=zaa hsq0;clear hE C1 hp E5 E6 hsq0;obtain⟨⟨i,Y⟩,m⟩:=zgo K0.o;go_wp2;clear i Y m;obtain⟨W0,A8⟩:∃W0,W0=((A.alloc (.cells #[.int .i64 k,.int .i64 u,.int .i64 (C:Int),.slice a2 n2 c2,.slice a3 n3 c3] 119)).alloc (.cells #[.slice none 0 0,.int .i64 u,.int .i64 (C:Int)] 90)).alloc (.cells #[.slice a d.safe.length c,.slice a' d.wr.length c',.int .i64 (C:Int),.int .i64 24] 170):=⟨_,rfl⟩;have B9:Below A.heap.size A W0:=by rw[A8];exact zae (zae (zab _ _) (zab _ _)) (zab _ _)
  have O:W0.heap[A.heap.size+1]?=some (.cells #[.slice none 0 0,.int .i64 u,.int .i64 (C:Int)] 90 (0,0))∧W0.heap[A.heap.size+1+1]?=some (.cells #[.slice a d.safe.length c,.slice a' d.wr.length c',.int .i64 (C:Int),.int .i64 24] 170 (0,0))∧A.heap.size+1+1<W0.heap.size:=by
   rw[A8];obtain⟨_,K2,K3,hs⟩:=zj9 (Below.refl _ _);exact⟨K2,K3,hs⟩
  rw[←A8];clear A8;have E1:=zaa O.1;have E0:(C+0)%24=C:=by omega
  have D9:Hid (Rd W0 (A.heap.size+1+1) a c a' c' d C 0):=by rw[Hid,Rd,E0];exact O.2.1
  have D6:=O.2.2;have D8:=zaa (zad B9 F3 KB.o);have D5:=zaa (zae B1.o B9);have M:Hid (scanP (logOf d C) 0 (u+(([]:List RX).length:Int)) (([]:List RX).map (·.t))=zbw d):=by rw[Hid,HL.o];simp
  clear O B9 KB B1 K0 HL
  go_loopw [9] (fun _ wr=>∃(pos:Nat) (B:Int) (q:List RX) (X:Option Addr) (U:Nat),pos≤24∧B=u+(q.length:Int)∧q.length≤pos∧Hid (scanP (logOf d C) pos B (q.map (·.t))=zbw d)∧Hid (Rd wr (A.heap.size+1+1) a c a' c' d C pos)∧Hid (Below w.heap.size w wr)∧A.heap.size+1+1<wr.heap.size∧Hid (wr.heap[w.heap.size+1]?=some (.cells #[.slice none 0 0,.int .i64 0,.int .i64 0] 90 (0,0)))∧
    Hid (wr.heap[A.heap.size+1]?=some (.cells #[.slice X q.length U,.int .i64 B,.int .i64 (((C+pos)%24:Nat):Int)] 90 (0,0)))∧Hid (wr.ownsRow (A.heap.size+3) 40 10 (.slice X q.length U) q.length (cellsX q))∧Hid (∀x∈q,OwnR wr (A.heap.size+3) x))
   (fun _ wr=>zyz wr (A.heap.size+1+1))
  case atStart=>exact⟨0,u+(([]:List RX).length:Int),[],none,0,Nat.zero_le _,rfl,Nat.zero_le _,M,D9,D5,D6,D8,by rw[E0];simpa using E1,World.ownsRow_nil _ _ _ _,fun x D=>(by cases D)⟩
  case round=>
   clear E1 D9 D6 D8 D5 M;obtain⟨pos,B,q,X,U,E3,D7,F8,M,B7,HB,G8,KB,KF,HO,HX⟩:=hrel;rw[B7.o.left];have A4:=zaa D7;clear D7;have C6:w.heap.size≤A.heap.size+1+1:=by omega
   by_cases hlt:B<2147483647
   ·obtain⟨⟨i,Y,x2⟩,m⟩:=zyy KF.o;go_wp2_with fail;refine(zv7 (A.heap.size+1+1) a c a' c' d C pos B wr w B7.o E3 HD.o hg HB.o C6).mono ?_;rintro e K ⟨v,b,rfl,J,hT⟩;have G6:=J.size;have Z:Hid (K.heap[w.heap.size+1]?=_):=(J.block _ (by omega) (by omega)).trans KB.o;have S:Hid (K.heap[A.heap.size+1]?=_):=(J.block _ (by omega) (by omega)).trans KF.o;have A6:Hid (Below w.heap.size w K):=J.below HB.o HB.o.size C6;have N:=zaa (zeh HO.o J (by omega));have A1:Hid (∀x∈q,OwnR K (A.heap.size+3) x):=fun x D=>(HX.o x D).but J (by omega);clear i Y x2 m KB KF HB HO HX B7
    cases hrun:zfb (logOf d C) B pos (zct B) with
    |none=>
     rw[zqd,hrun]at hT;obtain⟨rfl,rfl⟩:=hT;have l:Hid (zbw d=(q.map (·.t),pos)):=by rw[Hid,←M.o,scanP,dif_pos hlt,hrun]
     clear hrun M J;have B5:w.heap.size+1<K.heap.size:=by omega
     have C0:A.heap.size+1<K.heap.size:=by omega
     obtain⟨Q,F⟩:∃Q:Nat,Q=(C+pos)%24:=⟨_,rfl⟩;rw[←F]at S;have A2:=zaa F;clear F;obtain⟨⟨z0,z1,z2⟩,zf⟩:=zyy Z.o;obtain⟨⟨i,Y,x2⟩,m⟩:=zyy S.o;go_wp2;clear i Y x2 m;obtain⟨W,L⟩:∃W,W=((((K.setCell ⟨w.heap.size+1,0,none⟩ (.slice X q.length U)).setCell ⟨w.heap.size+1,1,none⟩ (.int .i64 B)).setCell ⟨w.heap.size+1,2,none⟩ (.int .i64 (Q:Int))).alloc (.cells #[.int .i64 0,.slice none 0 0,.slice none 0 0,.slice none 0 0,.bool false,.int .i64 0,.bool false,.int .i64 0,.bool false,.int .i64 0] 40)):=⟨_,rfl⟩;have I:=zuw Z.o (.slice X q.length U) (.int .i64 B) (.int .i64 (Q:Int)) (.cells #[.int .i64 0,.slice none 0 0,.slice none 0 0,.slice none 0 0,.bool false,.int .i64 0,.bool false,.int .i64 0,.bool false,.int .i64 0] 40);rw[←L]at I;obtain⟨⟨y0,y1,y2⟩,_⟩:=zyy I;have HW:=zaa L;rw[←L];clear L I z0 z1 z2 zf;refine bodyPost_ret (v:=.tuple #[.agg #[.slice X q.length U,.int .i64 B,.int .i64 (Q:Int)],.int .i64 0]) (by simp[results,results76,go_sem,y0,y1,y2]) rfl ?_;rw[ScPost,C7.o];refine⟨_,rfl,?_,fun h=>absurd rfl h,fun _=>⟨q,X,U,?_,?_,?_,?_⟩⟩
     ·rw[HW.o];exact(((A6.o.setCell (p:=⟨w.heap.size+1,0,none⟩) (by simp) _).setCell (p:=⟨w.heap.size+1,1,none⟩) (by simp) _).setCell (p:=⟨w.heap.size+1,2,none⟩) (by simp) _).alloc (by simp[World.setCell];omega) _
     ·rw[C2.o,l.o,C9.o,←A4.o,A2.o]
     ·rw[l.o]
     ·rw[HW.o];refine zba (zah (zfq N.o ?_) (zab _ _)) (show w.heap.size≤A.heap.size+3 by omega);intro k r;have:=(N.o.lt k r).1;omega
     ·intro x D;rw[HW.o];exact OwnR.base (OwnR.below (OwnR.set3 (A1.o x D) (by omega)) (zab _ _)) (by omega)
    |some nt=>
     obtain⟨n,t⟩:=nt;rw[zqd,hrun]at hT;obtain⟨rfl,C5,tm,tr,rfl,D1,ht⟩:=hT;have hn:=zdj (logOf d C) B 24 pos (zct B) n t (by rw[za5];omega) hrun;rw[za5]at hn;have B6:Hid (scanP (logOf d C) n (B+1) (q.map (·.t)++[t])=zbw d):=by rw[Hid,←M.o,scanP.eq_def (logOf d C) pos,dif_pos hlt,hrun]
     have A7:Hid (OwnR K (A.heap.size+3) ⟨tm,.slice none 0 0,tr,t⟩):=D1.base (by omega);obtain⟨s,y,F2⟩:∃s y,t=txW B s y:=⟨_,_,ht⟩;subst F2;obtain⟨ma,mc,_,_,ra,rc,e1,_,e3,_⟩:=A7.o.tx;simp only at e1 e3;subst e1 e3;have D3:=zaa C5;clear hrun M J D1 ht C5;have B5:w.heap.size+1<K.heap.size:=by omega
     have C0:A.heap.size+1<K.heap.size:=by omega
     have F6:q.length≤24:=by omega
     obtain⟨⟨i,Y,x2⟩,m⟩:=zyy S.o;go_wp2_with (at_builtin;refine zss rfl _ _ rfl (A.heap.size+3) _ q rfl (zah N.o (zae (zab _ _) (zab _ _))) (K.heap.size+1) ⟨.slice ma (txW B s y).info.length mc,.slice none 0 0,.slice ra (txW B s y).rev.length rc,txW B s y⟩ rfl (z5o (by simp[go_sem,txW]) (by simp[go_sem,txW]) (by simp[go_sem,txW]) (by simp[go_sem,txW]) (by simp[go_sem,txW]) (by simp[go_sem,txW]) (by simp[go_sem,txW]) (by simp[go_sem,txW]) (by simp[go_sem,txW]) (by simp[go_sem,txW])) A7.o.one (by omega) (by simp;omega) ?_);intro v3 w3 D4 j;obtain⟨z,A0⟩:∃z,z=q++[(⟨.slice ma (txW B s y).info.length mc,.slice none 0 0,.slice ra (txW B s y).rev.length rc,txW B s y⟩:RX)]:=⟨_,rfl⟩;have B2:z.length=q.length+1:=by rw[A0];simp
     have A9:=zyv D4 (show _=z.length by simp[A0]);rw[←A0]at A9;have R:Below K.heap.size K _:=zae (zab K (.cells #[.int .i64 B,.slice ma s.length mc,.slice none 0 0,.slice ra y.length rc,.bool false,.int .i64 0,.bool false,.int .i64 0,.bool false,.int .i64 0] 40 (0,0))) (zab _ (.cells #[.int .i64 B,.slice ma s.length mc,.slice none 0 0,.slice ra y.length rc,.bool false,.int .i64 0,.bool false,.int .i64 0,.bool false,.int .i64 0] 40 (0,0)));have A3:∀k,(Value.slice X q.length U).ownBlock=some k→A.heap.size+3≤k:=fun k r=>(N.o.lt k r).1;have G3:K.heap.size+2≤w3.heap.size:=by have:=j.size;simpa using this
     have E4:Hid (∀x∈z,OwnR w3 (A.heap.size+3) x):=by
      intro x D;rw[A0]at D
      have E9:OwnR K (A.heap.size+3) x:=by
       rcases List.mem_append.1 D with h|h
       ·exact A1.o x h
       ·rw[List.mem_singleton.1 h];exact A7.o
      exact(E9.below R).grown (zah N.o R) j
     have E2:Hid (scanP (logOf d C) n (B+1) (z.map (·.t))=zbw d):=by rw[Hid,A0,List.map_append];exact B6.o
     have C8:Hid (B+1=u+(z.length:Int)):=by rw[Hid,B2,A4.o];omega
     have F4:Hid (w3.heap[w.heap.size+1]?=_):=(j.block _ (by simp;omega) (fun e=>by have:=A3 _ e.symm;omega)).trans (zad R B5 Z.o);have C4:Hid (w3.heap[A.heap.size+1]?=_):=(j.block _ (by simp;omega) (fun e=>by have:=A3 _ e.symm;omega)).trans (zad R C0 S.o);have B4:Hid (Rd w3 (A.heap.size+1+1) a c a' c' d C n):=(D3.o.below R).grown j (fun k r=>by have:=A3 k r;omega);have E8:Hid (Below w.heap.size w w3):=(zae A6.o R).grown j (zae A6.o R).size (fun k r=>by have:=A3 k r;omega);have D2:=zaa A9
     obtain⟨B8,B0,F1⟩:∃B8 B0,v3=.slice B8 z.length B0:=by
      rcases A9.2 with⟨e,h0⟩|⟨g,cap,cur,e,_⟩
      ·exact absurd h0 (by omega)
      ·exact⟨_,_,e⟩
     subst F1;obtain⟨Q,F⟩:∃Q:Nat,Q=(C+n)%24:=⟨_,rfl⟩;have A2:=zaa F;have B3:=B4.o;rw[Rd,←F]at B3;obtain⟨⟨r0,r1,r2,r3⟩,rf⟩:=z30 B3;have G7:IntKind.i64.wrap (B+1)=B+1:=by rw[IntKind.wrap_i64];have:=A4.o;omega
     clear i Y x2 m A0 D4 A9 R A3 j A1 A7 B6 Z S D3 A6 N F B3 B2;obtain⟨⟨i,Y,x2⟩,m⟩:=zyy C4.o;have G2:A.heap.size+1<w3.heap.size:=by omega
     have F9:A.heap.size+1+1<w3.heap.size:=by omega
     have C3:z.length≤n:=by have h1:=C8.o;have h2:=A4.o;omega
     go_wp2;clear i Y x2 m r0 r1 r2 r3 rf;refine⟨⟨_,_,_,_,_,_,_,_,_,_,_,_,_,_,_,_,_,_,_,_,_,_,_,_,_,_,_,_,_,?rel,rfl⟩,?measure⟩
     case rel=>exact⟨n,B+1,z,B8,B0,hn.2,C8.o,C3,E2,((B4.o.setNe (p:=⟨A.heap.size+1,0,none⟩) (by simp) _).setNe (p:=⟨A.heap.size+1,1,none⟩) (by simp) _).setNe (p:=⟨A.heap.size+1,2,none⟩) (by simp) _,((E8.o.setCell (p:=⟨A.heap.size+1,0,none⟩) (by simp;omega) _).setCell (p:=⟨A.heap.size+1,1,none⟩) (by simp;omega) _).setCell (p:=⟨A.heap.size+1,2,none⟩) (by simp;omega) _,by simp[World.setCell];omega,(zgx (p:=⟨A.heap.size+1,2,none⟩) (by simp;omega) _).trans ((zgx (p:=⟨A.heap.size+1,1,none⟩) (by simp;omega) _).trans ((zgx (p:=⟨A.heap.size+1,0,none⟩) (by simp;omega) _).trans F4.o)),by rw[←A2.o];exact zgc C4.o _ _ _,zfq D2.o (fun k r=>by have:=(D2.o.lt k r).1;omega),fun x D=>(E4.o x D).set3 (by omega)⟩
     case measure=>
      rw[(((B4.o.setNe (p:=⟨A.heap.size+1,0,none⟩) (by simp) _).setNe (p:=⟨A.heap.size+1,1,none⟩) (by simp) _).setNe (p:=⟨A.heap.size+1,2,none⟩) (by simp) _).left];omega
   ·have l:Hid (zbw d=(q.map (·.t),pos)):=by rw[Hid,←M.o,scanP,dif_neg hlt]
    have Z:=KB;have S:=KF;have N:=HO;have A1:=HX;clear KB KF HO HX M;have B5:w.heap.size+1<wr.heap.size:=by omega
    have C0:A.heap.size+1<wr.heap.size:=by omega
    obtain⟨Q,F⟩:∃Q:Nat,Q=(C+pos)%24:=⟨_,rfl⟩;rw[←F]at S;have A2:=zaa F;clear F;obtain⟨⟨z0,z1,z2⟩,zf⟩:=zyy Z.o;obtain⟨⟨i,Y,x2⟩,m⟩:=zyy S.o;go_wp2;clear i Y x2 m;obtain⟨W,L⟩:∃W,W=(((wr.setCell ⟨w.heap.size+1,0,none⟩ (.slice X q.length U)).setCell ⟨w.heap.size+1,1,none⟩ (.int .i64 B)).setCell ⟨w.heap.size+1,2,none⟩ (.int .i64 (Q:Int))):=⟨_,rfl⟩;have I:=zgc Z.o (.slice X q.length U) (.int .i64 B) (.int .i64 (Q:Int));rw[←L]at I;obtain⟨⟨y0,y1,y2⟩,_⟩:=zyy I;have HW:=zaa L;rw[←L];clear L I z0 z1 z2 zf;refine bodyPost_ret (v:=.tuple #[.agg #[.slice X q.length U,.int .i64 B,.int .i64 (Q:Int)],.int .i64 0]) (by simp[results,results76,go_sem,y0,y1,y2]) rfl ?_;rw[ScPost,C7.o];refine⟨_,rfl,?_,fun h=>absurd rfl h,fun _=>⟨q,X,U,?_,?_,?_,?_⟩⟩
    ·rw[HW.o];exact((HB.o.setCell (p:=⟨w.heap.size+1,0,none⟩) (by simp) _).setCell (p:=⟨w.heap.size+1,1,none⟩) (by simp) _).setCell (p:=⟨w.heap.size+1,2,none⟩) (by simp) _
    ·rw[C2.o,l.o,C9.o,←A4.o,A2.o]
    ·rw[l.o]
    ·rw[HW.o];refine zba (zfq N.o ?_) (show w.heap.size≤A.heap.size+3 by omega);intro k r;have:=(N.o.lt k r).1;omega
    ·intro x D;rw[HW.o];exact OwnR.base (OwnR.set3 (A1.o x D) (by omega)) (by omega)
 ·have G1:(scanE d !=0)=true:=by simpa using hE
  have HE:=zaa hE;clear C1 hE;generalize hEE:scanE d=E at *;have E7:=zaa hEE;clear hEE;obtain⟨⟨z0,z1,z2⟩,zf⟩:=zyy KB.o;go_wp2;obtain⟨W,L⟩:∃W,W=((((A.setCell ⟨w.heap.size+1,0,none⟩ (.slice none 0 0)).setCell ⟨w.heap.size+1,1,none⟩ (.int .i64 0)).setCell ⟨w.heap.size+1,2,none⟩ (.int .i64 0)).alloc (.cells #[.int .i64 k,.int .i64 u,.int .i64 p,.slice a2 n2 c2,.slice a3 n3 c3] 119)):=⟨_,rfl⟩;have I:=zuw KB.o (.slice none 0 0) (.int .i64 0) (.int .i64 0) (.cells #[.int .i64 k,.int .i64 u,.int .i64 p,.slice a2 n2 c2,.slice a3 n3 c3] 119);rw[←L]at I;obtain⟨⟨y0,y1,y2⟩,_⟩:=zyy I;have HW:=zaa L;rw[←L];clear L I z0 z1 z2 zf;refine bodyPost_ret (v:=.tuple #[.agg #[.slice none 0 0,.int .i64 0,.int .i64 0],.int .i64 E]) (by simp[results,results76,go_sem,y0,y1,y2]) rfl ?_;rw[ScPost,E7.o];refine⟨_,rfl,?_,fun _=>rfl,fun h=>absurd h HE.o⟩;rw[HW.o];exact(((B1.o.setCell (p:=⟨w.heap.size+1,0,none⟩) (by simp) _).setCell (p:=⟨w.heap.size+1,1,none⟩) (by simp) _).setCell (p:=⟨w.heap.size+1,2,none⟩) (by simp) _).alloc (by simp[World.setCell];omega) _
theorem zy1(log:List ByteArray):∀(f pos:Nat) (seq:Int) (acc:List Tx),log.length - pos≤f→(scanP log pos seq acc).1.length≤acc.length+f:=by
 intro f
 induction f with
 |zero=>
  intro pos seq acc A;rw[scanP];split
  ·rw[zfb,dif_neg (by omega)];exact Nat.le_refl _
  ·exact Nat.le_refl _
 |succ f ih=>
  intro pos seq acc A;rw[scanP];split
  ·split
   ·exact Nat.le_add_right _ _
   ·rename_i n t B;have hb:=zdj log seq _ pos _ n t (Nat.le_refl _) B;have:=ih n (seq+1) (acc++[t]) (by omega);rw[List.length_append,List.length_singleton]at this;omega
  ·exact Nat.le_add_right _ _
def fndL (d:Dk):List Tx:=if scanE d=0 then(zbw d).1 else[]
def fndN (d:Dk):Int:=if scanE d=0 then(zap d).seq+((zbw d).1.length:Int) else 0
def fndP (d:Dk):Int:=if scanE d=0 then((((zap d).pos.toNat+(zbw d).2)%24:Nat):Int) else 0
theorem zot(d:Dk):(fndL d).length≤24:=by
 unfold fndL;split
 ·have:=zy1 (logOf d (zap d).pos) 24 0 (zap d).seq [] (by rw[za5];omega)
  simpa[zbw] using this
 ·exact Nat.zero_le _
theorem ScPost.found{w w':World}{d:Dk}{e:Ending}(h:ScPost w w' d e):∃va vc,e=.returned (.tuple #[.agg #[.slice va (fndL d).length vc,.int .i64 (fndN d),.int .i64 (fndP d)],.int .i64 (scanE d)])∧SegTx w' va (fndL d)∧Below w.heap.size w w':=by
 obtain⟨v,rfl,hb,K,I⟩:=h;by_cases hE:scanE d=0
 ·obtain⟨q,va,vc,rfl,C,F,J⟩:=I hE;obtain⟨a,c,D,E,_⟩:=SegTx.of_owns F J;simp only[Value.slice.injEq]at D;obtain⟨rfl,_,rfl⟩:=D;have B:fndL d=q.map (·.t):=by rw[fndL,if_pos hE,C]
  have A:q.length=(zbw d).1.length:=by rw[←C,List.length_map]
  refine⟨va,vc,?_,by rw[B];exact E,hb⟩;rw[B,fndN,fndP,if_pos hE,if_pos hE,List.length_map,A]
 ·rw[K hE];refine⟨none,0,?_,.inl (by rw[fndL,if_neg hE]),hb⟩;rw[fndL,fndN,fndP,if_neg hE,if_neg hE,if_neg hE];rfl
