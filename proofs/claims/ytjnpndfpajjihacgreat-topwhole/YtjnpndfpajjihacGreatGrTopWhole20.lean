/-
  
-/
import Derived.Test.YtjnpndfpajjihacGreatXScanC
import Derived.Test.YtjnpndfpajjihacGreatGrTopWhole19
set_option maxRecDepth 100000
set_option maxHeartbeats 40000000
namespace Go.Proofs.YtjnpndfpajjihacGreat
open Tryz
open Go.RowKit
theorem zp5 (w:World)(base:Nat){ops:Array Oper}{rest:List Oper}{o:Oper}{a:Act}{Q:Exit→Act→World→Prop}(hgd:o.guard=none)(s x:Operand)
  (ho:o.op=.call {callee:=.builtin .append,args:=#[s,x],argTypes:=#[35,35]})
  (v:Value) (q:List Int) (hs:a.eval s=v) (hown:w.ownsRow base 3 1 v q.length (cellsI q)) (ao:Option Addr) (c:Nat) (l:List Int) (hx:a.eval x=.slice ao l.length c) (hS:SegI w ao l)
  (hn:q.length+l.length≤1000) (hbase:base≤w.heap.size)
  (h:∀v' w',Hid (w'.ownsRow base 3 1 v' (q++l).length (cellsI (q++l)))→w.grownBy w' v.ownBlock→wpList prog ops Q rest (a.put o.dst v') w'):wpList prog ops Q (o::rest) a w:=by
 obtain⟨I,K,C,D,B⟩:=info_parts zr5
 cases ao with
 |none=>
  have F:l=[]:=by rcases hS with h|⟨b,off,he,_⟩;exact h;cases he
  subst F;refine Lib.wpList_append_run w hgd s x _ _ ho _ _ hs hx v w (zgs w base o.type v q.length c (cellsI q) hown) (h v w ?_ ⟨rfl,rfl,rfl,Nat.le_refl _,fun _ _ _=>rfl⟩);rw[List.append_nil];exact hown
 |some ad=>
  refine wpList_append_own w hgd s x 35 ho base 3 I (.int .i64 0) 1 8 underlying35 K C D B rfl (by decide) v q.length (cellsI q) hs hown ad l.length c (cellsI l) hx (zdn l) ?_ zjk (by unfold maxLen;omega) (by omega) hbase ?_
  ·intro j u A;rcases hS with h|⟨b,off,he,hlt,hc⟩
   ·rw[h] at A;simp[cellsI] at A
   ·cases he;rw[Addr.add_lit];exact SegI.news hc j u A
  ·intro v' w' J E _;refine h v' w' ?_ E;rw[Hid,zfx,List.length_append];exact J
theorem zp6 (w:World)(base:Nat){ops:Array Oper}{rest:List Oper}{o:Oper}{a:Act}{Q:Exit→Act→World→Prop}(hgd:o.guard=none)(s x:Operand)
  (ho:o.op=.call {callee:=.builtin .append,args:=#[s,x],argTypes:=#[34,34]})
  (v:Value) (q:List (Int×ByteArray)) (hs:a.eval s=v) (hown:w.ownsRow base 84 2 v q.length (cellsC q)) (ao:Option Addr) (c:Nat) (l:List (Int×ByteArray)) (hx:a.eval x=.slice ao l.length c) (hS:SegW w ao l)
  (hn:q.length+l.length≤1000) (hbase:base≤w.heap.size)
  (h:∀v' w',Hid (w'.ownsRow base 84 2 v' (q++l).length (cellsC (q++l)))→w.grownBy w' v.ownBlock→wpList prog ops Q rest (a.put o.dst v') w'):wpList prog ops Q (o::rest) a w:=by
 obtain⟨I,K,C,D,B⟩:=info_parts zvg
 cases ao with
 |none=>
  have F:l=[]:=by rcases hS with h|⟨b,off,he,_⟩;exact h;cases he
  subst F;refine Lib.wpList_append_run w hgd s x _ _ ho _ _ hs hx v w (zgr w base o.type v q.length c (cellsC q) hown) (h v w ?_ ⟨rfl,rfl,rfl,Nat.le_refl _,fun _ _ _=>rfl⟩);rw[List.append_nil];exact hown
 |some ad=>
  refine wpList_append_own w hgd s x 34 ho base 84 I (.agg #[.int .i64 0,.string ⟨#[]⟩]) 2 24 underlying34 K C D B rfl (by decide) v q.length (cellsC q) hs hown ad l.length c (cellsC l) hx (zdo l) ?_ (zhf l) (by unfold maxLen;omega) (by omega) hbase ?_
  ·intro j u A;rcases hS with h|⟨b,off,he,hlt,hc⟩
   ·rw[h] at A;simp[cellsC] at A
   ·cases he;rw[Addr.add_lit];exact SegC.news hc j u A
  ·intro v' w' J E _;refine h v' w' ?_ E;rw[Hid,zdp,List.length_append];exact J
theorem zun {w:World}{B:Nat}{u0 u1 u2 u3 u4 u5 u6 u7 u8 u9:Value}{t:TypeId}(h:w.heap[B]?=some (.cells #[u0,u1,u2,u3,u4,u5,u6,u7,u8,u9] t (0,0)))(v0 v1 v2 v3 v4 v5 v6 v7 v8 v9:Value):
  (((((((((((w.setCell ⟨B,0,none⟩ v0).setCell ⟨B,1,none⟩ v1).setCell ⟨B,2,none⟩ v2).setCell ⟨B,3,none⟩ v3).setCell ⟨B,4,none⟩ v4).setCell ⟨B,5,none⟩ v5).setCell ⟨B,6,none⟩ v6).setCell ⟨B,7,none⟩ v7).setCell ⟨B,8,none⟩ v8).setCell ⟨B,9,none⟩ v9)).heap[B]?=some (.cells #[v0,v1,v2,v3,v4,v5,v6,v7,v8,v9] t (0,0)):=by
 have F:(w.setCell ⟨B,0,none⟩ v0).heap[B]?=some (.cells #[v0,u1,u2,u3,u4,u5,u6,u7,u8,u9] t (0,0)):=heap_setCell_same _ B 0 _ _ v0 h;have I:((w.setCell ⟨B,0,none⟩ v0).setCell ⟨B,1,none⟩ v1).heap[B]?=some (.cells #[v0,v1,u2,u3,u4,u5,u6,u7,u8,u9] t (0,0)):=heap_setCell_same _ B 1 _ _ v1 F;have A:(((w.setCell ⟨B,0,none⟩ v0).setCell ⟨B,1,none⟩ v1).setCell ⟨B,2,none⟩ v2).heap[B]?=some (.cells #[v0,v1,v2,u3,u4,u5,u6,u7,u8,u9] t (0,0)):=heap_setCell_same _ B 2 _ _ v2 I;have J:((((w.setCell ⟨B,0,none⟩ v0).setCell ⟨B,1,none⟩ v1).setCell ⟨B,2,none⟩ v2).setCell ⟨B,3,none⟩ v3).heap[B]?=some (.cells #[v0,v1,v2,v3,u4,u5,u6,u7,u8,u9] t (0,0)):=heap_setCell_same _ B 3 _ _ v3 A;have M:(((((w.setCell ⟨B,0,none⟩ v0).setCell ⟨B,1,none⟩ v1).setCell ⟨B,2,none⟩ v2).setCell ⟨B,3,none⟩ v3).setCell ⟨B,4,none⟩ v4).heap[B]?=some (.cells #[v0,v1,v2,v3,v4,u5,u6,u7,u8,u9] t (0,0)):=heap_setCell_same _ B 4 _ _ v4 J;have C:((((((w.setCell ⟨B,0,none⟩ v0).setCell ⟨B,1,none⟩ v1).setCell ⟨B,2,none⟩ v2).setCell ⟨B,3,none⟩ v3).setCell ⟨B,4,none⟩ v4).setCell ⟨B,5,none⟩ v5).heap[B]?=some (.cells #[v0,v1,v2,v3,v4,v5,u6,u7,u8,u9] t (0,0)):=heap_setCell_same _ B 5 _ _ v5 M;have E:(((((((w.setCell ⟨B,0,none⟩ v0).setCell ⟨B,1,none⟩ v1).setCell ⟨B,2,none⟩ v2).setCell ⟨B,3,none⟩ v3).setCell ⟨B,4,none⟩ v4).setCell ⟨B,5,none⟩ v5).setCell ⟨B,6,none⟩ v6).heap[B]?=some (.cells #[v0,v1,v2,v3,v4,v5,v6,u7,u8,u9] t (0,0)):=heap_setCell_same _ B 6 _ _ v6 C;have K:((((((((w.setCell ⟨B,0,none⟩ v0).setCell ⟨B,1,none⟩ v1).setCell ⟨B,2,none⟩ v2).setCell ⟨B,3,none⟩ v3).setCell ⟨B,4,none⟩ v4).setCell ⟨B,5,none⟩ v5).setCell ⟨B,6,none⟩ v6).setCell ⟨B,7,none⟩ v7).heap[B]?=some (.cells #[v0,v1,v2,v3,v4,v5,v6,v7,u8,u9] t (0,0)):=heap_setCell_same _ B 7 _ _ v7 E;have D:(((((((((w.setCell ⟨B,0,none⟩ v0).setCell ⟨B,1,none⟩ v1).setCell ⟨B,2,none⟩ v2).setCell ⟨B,3,none⟩ v3).setCell ⟨B,4,none⟩ v4).setCell ⟨B,5,none⟩ v5).setCell ⟨B,6,none⟩ v6).setCell ⟨B,7,none⟩ v7).setCell ⟨B,8,none⟩ v8).heap[B]?=some (.cells #[v0,v1,v2,v3,v4,v5,v6,v7,v8,u9] t (0,0)):=heap_setCell_same _ B 8 _ _ v8 K
 have L:((((((((((w.setCell ⟨B,0,none⟩ v0).setCell ⟨B,1,none⟩ v1).setCell ⟨B,2,none⟩ v2).setCell ⟨B,3,none⟩ v3).setCell ⟨B,4,none⟩ v4).setCell ⟨B,5,none⟩ v5).setCell ⟨B,6,none⟩ v6).setCell ⟨B,7,none⟩ v7).setCell ⟨B,8,none⟩ v8).setCell ⟨B,9,none⟩ v9).heap[B]?=some (.cells #[v0,v1,v2,v3,v4,v5,v6,v7,v8,v9] t (0,0)):=heap_setCell_same _ B 9 _ _ v9 D;exact L
theorem ziw {w:World}{B:Nat}{u0 u1 u2 u3 u4 u5 u6 u7 u8 u9:Value}{t:TypeId}(h:w.heap[B]?=some (.cells #[u0,u1,u2,u3,u4,u5,u6,u7,u8,u9] t (0,0)))(v0 v1 v2 v3 v4 v5 v6 v7 v8 v9:Value)(o:Obj):
  (((((((((((w.setCell ⟨B,0,none⟩ v0).setCell ⟨B,1,none⟩ v1).setCell ⟨B,2,none⟩ v2).setCell ⟨B,3,none⟩ v3).setCell ⟨B,4,none⟩ v4).setCell ⟨B,5,none⟩ v5).setCell ⟨B,6,none⟩ v6).setCell ⟨B,7,none⟩ v7).setCell ⟨B,8,none⟩ v8).setCell ⟨B,9,none⟩ v9).alloc o).heap[B]?=some (.cells #[v0,v1,v2,v3,v4,v5,v6,v7,v8,v9] t (0,0)):=by
 have A:=zun h v0 v1 v2 v3 v4 v5 v6 v7 v8 v9;exact zad (zaa _ o) (Array.getElem?_eq_some_iff.1 A).1 A
theorem zyq {w:World}{base:Nat}{e:TypeId}{size:Nat}{v:Value}{n m:Nat}{xs:List Value}(h:w.ownsRow base e size v n xs)(hn:n=m):w.ownsRow base e size v m xs:=hn▸h
theorem zgt {w:World}{B:Nat}{p:Addr}(h:B≠p.block)(u:Value):(w.setCell p u).heap[B]?=w.heap[B]?:=by
 rw[World.setCell];simp only[Array.getElem?_modify];rw[if_neg (fun x=>h x.symm)]
theorem zyr {log:List ByteArray}{j:Nat}(h:j<log.length)(seq:Int)(t:Tx){mk:Mk}{er:Int}(hM:(mk,er)=zaq (log.getD j ByteArray.empty)):
  ze8 log seq j t=if er≠0∨mk.seq≠seq∨mk.kind=1 then none else if mk.kind=4 then some (j+1,t) else if j+1+mk.tags.length≤log.length then ze8 log seq (j+1+mk.tags.length) (more log j t mk) else none:=by
 rw[ze8,dif_pos h,←hM]
def txW (seq:Int)(info:List (Int×ByteArray))(rev:List Int):Tx:=⟨seq,info,[],rev,⟨false,0⟩,⟨false,0⟩,⟨false,0⟩⟩
theorem zuo (log:List ByteArray)(i:Nat)(seq:Int)(info:List (Int×ByteArray))(rev:List Int)(m:Mk):more log i (txW seq info rev) m=txW seq (info++copiesAt log (i+1) m.tags) (rev++m.blocks):=rfl
theorem zkz {s:ByteArray}(h:(zaq s).2=0):goodM (zaq s).1=0:=by
 unfold zaq at h⊢;split at h
 ·rename_i A;rw[if_pos A];exact A.2.1
 ·cases h
theorem zys {m:Mk}(h:goodM m=0):(m.kind=1∨m.kind=2∨m.kind=3∨m.kind=4)∧(m.kind≠2→m.tags=[])∧(m.kind≠3→m.blocks=[])∧(m.kind=2→m.tags.length≤10)∧(m.kind=3→m.blocks.length≤20):=by
 unfold goodM at h;split at h
 ·cases h
 ·split at h
  ·cases h
  ·split at h
   ·cases h
   ·split at h
    ·cases h
    ·rename_i h1 _ B A;refine⟨by omega,fun hk=>?_,fun hk=>?_,fun hk=>?_,fun hk=>?_⟩
     ·by_cases ht:m.tags=[]
      ·exact ht
      ·exact absurd (.inr (.inl ⟨hk,ht⟩)) B
     ·by_cases ht:m.blocks=[]
      ·exact ht
      ·exact absurd (.inr (.inr ⟨hk,ht⟩)) B
     ·by_cases ht:m.tags.length≤10
      ·exact ht
      ·exact absurd (.inl ⟨hk,.inr (by omega)⟩) A
     ·by_cases ht:m.blocks.length≤20
      ·exact ht
      ·exact absurd (.inr (.inl ⟨hk,.inr (by omega)⟩)) A
def zp7 (w w':World)(R:Nat)(a:Option Addr)(c:Nat)(a':Option Addr)(c':Nat)(d:Dk)(p0 i:Nat)(seq:Int)(v:Value)(b:Bool):Prop:=
 match ze8 (logOf d p0) seq i (zcu seq) with
 |none=>b=false∧v=.agg #[.int .i64 0,.slice none 0 0,.slice none 0 0,.slice none 0 0,.bool false,.int .i64 0,.bool false,.int .i64 0,.bool false,.int .i64 0]
 |some (n,t)=>b=true∧Rd w' R a c a' c' d p0 n∧∃m r,v=.agg #[.int .i64 seq,m,.slice none 0 0,r,.bool false,.int .i64 0,.bool false,.int .i64 0,.bool false,.int .i64 0]∧OwnR w' w.heap.size ⟨m,.slice none 0 0,r,t⟩∧t=txW seq t.info t.rev
def z4w (w w':World)(R:Nat)(a:Option Addr)(c:Nat)(a':Option Addr)(c':Nat)(d:Dk)(p0 i:Nat)(seq:Int)(e:Ending):Prop:=∃v b,e=.returned (.tuple #[v,.bool b])∧But R w.heap.size w w'∧zp7 w w' R a c a' c' d p0 i seq v b
theorem zv1 (R:Nat)(a:Option Addr)(c:Nat)(a':Option Addr)(c':Nat)(d:Dk)(p0 i:Nat)(seq:Int)(w w0:World)(hR:Rd w R a c a' c' d p0 i)(hi:i≤24)(hD:IsDk w0 (.agg #[.slice a d.safe.length c,.slice a' d.wr.length c']) d)(hg:za2 d=true)(hb:Below w0.heap.size w0 w)(hR0:w0.heap.size≤R):
  Calls prog 114 #[.pointer (some ⟨R,0,none⟩),.int .i64 seq] w fun e w'=>z4w w w' R a c a' c' d p0 i seq e:=by
 have H2:=hR.lt;have HD:=zab hD;have B7:=zab hb;have HR:=zab hR;clear hD hb hR;go_enter func114,ntmps114;go_wp2
 go_loopw [8] (fun _ wr=>∃(j:Nat) (info:List (Int×ByteArray)) (rev:List Int) (ma:Option Addr) (mc:Nat) (ra:Option Addr) (rc:Nat),i≤j∧j≤24∧info.length≤j∧rev.length≤20*j∧Hid (ze8 (logOf d p0) seq i (zcu seq)=ze8 (logOf d p0) seq j (txW seq info rev))∧Hid (Rd wr R a c a' c' d p0 j)∧Hid (But R w.heap.size w wr)∧w.heap.size+1<wr.heap.size∧
   Hid (wr.heap[w.heap.size]?=some (.cells #[.int .i64 0,.slice none 0 0,.slice none 0 0,.slice none 0 0,.bool false,.int .i64 0,.bool false,.int .i64 0,.bool false,.int .i64 0] 40 (0,0)))∧Hid (wr.heap[w.heap.size+1]?=some (.cells #[.int .i64 seq,.slice ma info.length mc,.slice none 0 0,.slice ra rev.length rc,.bool false,.int .i64 0,.bool false,.int .i64 0,.bool false,.int .i64 0] 40 (0,0)))∧Hid (wr.ownsRow (w.heap.size+2) 84 2 (.slice ma info.length mc) info.length (cellsC info))∧Hid (wr.ownsRow (w.heap.size+2) 3 1 (.slice ra rev.length rc) rev.length (cellsI rev)))
  (fun _ wr=>match wr.cell? ⟨R,3,none⟩ with|some (.int _ n)=>n.toNat|_=>0)
 case atStart=>exact⟨i,[],[],none,0,none,0,Nat.le_refl _,hi,Nat.zero_le _,Nat.zero_le _,rfl,HR.o.below (zae (zaa _ _) (zaa _ _)),But.of_below (zae (zaa _ _) (zaa _ _)),by simp,zhe (Below.refl _ _),zhx (Below.refl _ _),World.ownsRow_nil _ _ _ _,World.ownsRow_nil _ _ _ _⟩
 case round=>
  obtain⟨j,info,rev,ma,mc,ra,rc,H3,hj,G8,H1,B,B0,HB,F8,KB,KT,D8,D1⟩:=hrel;have A8:(match wr.cell? ⟨R,3,none⟩ with|some (.int _ n)=>n.toNat|_=>0)=24 - j:=by rw[(z3q B0.o).1.2.2.2];simp
  rw[A8];have D7:Hid (Below w0.heap.size w0 wr):=HB.o.below B7.o B7.o.size hR0;by_cases hend:j=24
  ·subst hend;have A3:Hid (ze8 (logOf d p0) seq i (zcu seq)=none):=by rw[Hid,B.o,ze8,dif_neg (by rw[za4];omega)]
   clear A8;go_wp2_with fail;refine(zyl R a c a' c' d p0 seq _ B0.o).mono ?_;rintro e K ⟨rfl,J⟩;have q:Hid (But R w.heap.size w K):=HB.o.trans (But.of_below J) HB.o.size;have F:=zab (zad J (by omega) KB.o);have B6:w.heap.size+1<K.heap.size:=Nat.lt_of_lt_of_le F8 J.size;have A7:w.heap.size<K.heap.size:=by omega
   clear J B0 KB KT D8 D1 HB;obtain⟨⟨L,N,O,S,l,h,Q,X,U,Z⟩,Y⟩:=zaj F.o;go_wp2;obtain⟨W,D⟩:∃W,W=(((((((((((K.setCell ⟨w.heap.size,0,none⟩ (.int .i64 0)).setCell ⟨w.heap.size,1,none⟩ (.slice none 0 0)).setCell ⟨w.heap.size,2,none⟩ (.slice none 0 0)).setCell ⟨w.heap.size,3,none⟩ (.slice none 0 0)).setCell ⟨w.heap.size,4,none⟩ (.bool false)).setCell ⟨w.heap.size,5,none⟩ (.int .i64 0)).setCell ⟨w.heap.size,6,none⟩ (.bool false)).setCell ⟨w.heap.size,7,none⟩ (.int .i64 0)).setCell ⟨w.heap.size,8,none⟩ (.bool false)).setCell ⟨w.heap.size,9,none⟩ (.int .i64 0)).alloc (.cells #[.int .i64 0,.int .i64 0,.int .i64 0,.slice none 0 0,.slice none 0 0] 119)):=⟨_,rfl⟩;have A:=ziw F.o (.int .i64 0) (.slice none 0 0) (.slice none 0 0) (.slice none 0 0) (.bool false) (.int .i64 0) (.bool false) (.int .i64 0) (.bool false) (.int .i64 0) (.cells #[.int .i64 0,.int .i64 0,.int .i64 0,.slice none 0 0,.slice none 0 0] 119);rw[←D] at A;obtain⟨⟨z,y1,y2,y3,y4,y5,y6,y7,y8,y9⟩,_⟩:=zaj A;have y:=zab D;rw[←D];clear D A L N O S l h Q X U Z Y;refine bodyPost_ret (v:=.tuple #[.agg #[.int .i64 0,.slice none 0 0,.slice none 0 0,.slice none 0 0,.bool false,.int .i64 0,.bool false,.int .i64 0,.bool false,.int .i64 0],.bool false]) (by simp[results,results114,go_sem,z,y1,y2,y3,y4,y5,y6,y7,y8,y9]) rfl ?_;unfold z4w;refine⟨_,false,rfl,?_,?_⟩
   ·rw[y.o];exact(But.trans ((((((((((q.o.setNew (p:=⟨w.heap.size,0,none⟩) (Nat.le_refl _) _).setNew (p:=⟨w.heap.size,1,none⟩) (Nat.le_refl _) _).setNew (p:=⟨w.heap.size,2,none⟩) (Nat.le_refl _) _).setNew (p:=⟨w.heap.size,3,none⟩) (Nat.le_refl _) _).setNew (p:=⟨w.heap.size,4,none⟩) (Nat.le_refl _) _).setNew (p:=⟨w.heap.size,5,none⟩) (Nat.le_refl _) _).setNew (p:=⟨w.heap.size,6,none⟩) (Nat.le_refl _) _).setNew (p:=⟨w.heap.size,7,none⟩) (Nat.le_refl _) _).setNew (p:=⟨w.heap.size,8,none⟩) (Nat.le_refl _) _).setNew (p:=⟨w.heap.size,9,none⟩) (Nat.le_refl _) _) (But.of_below (zaa _ _)) (by simp[World.setCell];omega))
   ·rw[zp7,A3.o];exact⟨rfl,rfl⟩
  ·have F2:j<24:=by omega
   clear A8;go_wp2_with fail;refine(zvy R a c a' c' d p0 j seq _ w0 B0.o F2 HD.o hg D7.o).mono ?_;rintro e K ⟨v2,rfl,hN,E4,J⟩;obtain⟨M,hM⟩:∃M,M=zaq ((logOf d p0).getD j ByteArray.empty):=⟨_,rfl⟩;rw[←hM] at hN⊢;obtain⟨mk,er⟩:=M;have C:=zab (zyr (log:=logOf d p0) (j:=j) (by rw[za4];exact F2) seq (txW seq info rev) hM)
   have E2:er=0→goodM mk=0:=by
    intro he;have:=zkz (s:=(logOf d p0).getD j ByteArray.empty) (by rw[←hM];exact he);rw[←hM] at this;exact this
   have C7:=zab E2;clear hM E2;obtain⟨a2,c2,a3,c3,rfl,hT,hI,n1,n2,t1,t2⟩:=hN;have G9:=J.size;have B2:=zab E4;have HT:=zab hT;have HI:=zab hI;have C1:Hid (∀b off,a2=some ⟨b,off,none⟩→b≠R):=fun b off e=>by have:=t1 b off e;omega
   have F:Hid (K.heap[w.heap.size]?=_):=(J.block _ (by omega) (by omega)).trans KB.o;have A6:Hid (K.heap[w.heap.size+1]?=_):=(J.block _ (by omega) (by omega)).trans KT.o;have q:Hid (But R w.heap.size w K):=HB.o.trans J (by omega);have A1:=zab (zee D8.o J (by omega));have x:=zab (zee D1.o J (by omega));have B6:w.heap.size+1<K.heap.size:=by omega
   have A7:w.heap.size<K.heap.size:=by omega
   clear E4 hT hI t1 t2 J KB KT HB D8 D1 B0 D7 n1 n2;by_cases hok:er=0∧mk.seq=seq
   ·obtain⟨rfl,hq⟩:=hok;have B3:(decide ((0:Int)=0)&&decide (mk.seq=seq))=true:=by simp[hq]
    dsimp only;rw[B3];obtain⟨E1,E5,E9,G0,G1⟩:=zys (C7.o rfl);have G3:=zab E5;have F7:=zab E9;clear B3 E5 E9 C7;rcases E1 with hk|hk|hk|hk
    ·have A3:Hid (ze8 (logOf d p0) seq i (zcu seq)=none):=by rw[Hid,B.o,C.o,if_pos (.inr (.inr hk))]
     clear C B;obtain⟨⟨L,N,O,S,l,h,Q,X,U,Z⟩,Y⟩:=zaj F.o;go_wp2;obtain⟨W,D⟩:∃W,W=(((((((((((K.setCell ⟨w.heap.size,0,none⟩ (.int .i64 0)).setCell ⟨w.heap.size,1,none⟩ (.slice none 0 0)).setCell ⟨w.heap.size,2,none⟩ (.slice none 0 0)).setCell ⟨w.heap.size,3,none⟩ (.slice none 0 0)).setCell ⟨w.heap.size,4,none⟩ (.bool false)).setCell ⟨w.heap.size,5,none⟩ (.int .i64 0)).setCell ⟨w.heap.size,6,none⟩ (.bool false)).setCell ⟨w.heap.size,7,none⟩ (.int .i64 0)).setCell ⟨w.heap.size,8,none⟩ (.bool false)).setCell ⟨w.heap.size,9,none⟩ (.int .i64 0)).alloc (.cells #[.int .i64 1,.int .i64 seq,.int .i64 mk.pos,.slice a2 mk.tags.length c2,.slice a3 mk.blocks.length c3] 119)):=⟨_,rfl⟩;have A:=ziw F.o (.int .i64 0) (.slice none 0 0) (.slice none 0 0) (.slice none 0 0) (.bool false) (.int .i64 0) (.bool false) (.int .i64 0) (.bool false) (.int .i64 0) (.cells #[.int .i64 1,.int .i64 seq,.int .i64 mk.pos,.slice a2 mk.tags.length c2,.slice a3 mk.blocks.length c3] 119);rw[←D] at A;obtain⟨⟨z,y1,y2,y3,y4,y5,y6,y7,y8,y9⟩,_⟩:=zaj A;have y:=zab D;rw[←D];clear D A L N O S l h Q X U Z Y;refine bodyPost_ret (v:=.tuple #[.agg #[.int .i64 0,.slice none 0 0,.slice none 0 0,.slice none 0 0,.bool false,.int .i64 0,.bool false,.int .i64 0,.bool false,.int .i64 0],.bool false]) (by simp[results,results114,go_sem,z,y1,y2,y3,y4,y5,y6,y7,y8,y9]) rfl ?_;unfold z4w;refine⟨_,false,rfl,?_,?_⟩
     ·rw[y.o];exact(But.trans ((((((((((q.o.setNew (p:=⟨w.heap.size,0,none⟩) (Nat.le_refl _) _).setNew (p:=⟨w.heap.size,1,none⟩) (Nat.le_refl _) _).setNew (p:=⟨w.heap.size,2,none⟩) (Nat.le_refl _) _).setNew (p:=⟨w.heap.size,3,none⟩) (Nat.le_refl _) _).setNew (p:=⟨w.heap.size,4,none⟩) (Nat.le_refl _) _).setNew (p:=⟨w.heap.size,5,none⟩) (Nat.le_refl _) _).setNew (p:=⟨w.heap.size,6,none⟩) (Nat.le_refl _) _).setNew (p:=⟨w.heap.size,7,none⟩) (Nat.le_refl _) _).setNew (p:=⟨w.heap.size,8,none⟩) (Nat.le_refl _) _).setNew (p:=⟨w.heap.size,9,none⟩) (Nat.le_refl _) _) (But.of_below (zaa _ _)) (by simp[World.setCell];omega))
     ·rw[zp7,A3.o];exact⟨rfl,rfl⟩
    ·have G7:=G0 hk;have E3:mk.blocks=[]:=F7.o (by omega)
     have C2:Hid (ze8 (logOf d p0) seq j (txW seq info rev)=if j+1+mk.tags.length≤24 then ze8 (logOf d p0) seq (j+1+mk.tags.length) (txW seq (info++copiesAt (logOf d p0) (j+1) mk.tags) rev) else none):=by
      rw[Hid,C.o,if_neg (by simp[hq,hk]),if_neg (by omega),zuo,E3,List.append_nil,za4]
     clear C E3;go_wp2_with fail;refine(zsj R a c a' c' d p0 (j+1) a2 c2 mk.tags _ w0 (B2.o.below (zaa _ _)) (by omega) HD.o hg (zae (q.o.below B7.o B7.o.size hR0) (zaa _ _)) hR0 (HT.o.below (zaa _ _)) C1.o).mono ?_;rintro e w2 ⟨v2,b2,rfl,hC⟩;have H0:K.heap.size+1≤w2.heap.size:=by have:=hC.1.size;simpa using this
     have C3:Hid (w2.heap[w.heap.size]?=_):=(hC.1.block _ (by simp;omega) (by omega)).trans (zad (zaa _ _) A7 F.o);have C4:Hid (w2.heap[w.heap.size+1]?=_):=(hC.1.block _ (by simp;omega) (by omega)).trans (zad (zaa _ _) B6 A6.o);have C6:Hid (But R w.heap.size w w2):=(q.o.trans (But.of_below (zaa _ _)) (by omega)).trans hC.1 (by simp;omega);have B5:=zab (zee (zah A1.o (zaa _ _)) hC.1 (by omega));have C5:=zab (zee (zah x.o (zaa _ _)) hC.1 (by omega));have F4:w.heap.size+1<w2.heap.size:=by omega
     have E0:w.heap.size<w2.heap.size:=by omega
     have B9:=zab hC.2;clear hC HT HI C1 B2 q F A6 A1 x;by_cases hle:j+1+mk.tags.length≤24
     ·have hc:=B9.o;rw[if_pos hle] at hc;obtain⟨rfl,D6,F0⟩:=hc;have r:Hid (ze8 (logOf d p0) seq i (zcu seq)=ze8 (logOf d p0) seq (j+1+mk.tags.length) (txW seq (info++copiesAt (logOf d p0) (j+1) mk.tags) rev)):=by rw[Hid,B.o,C2.o,if_pos hle]
      obtain⟨ca,cc,rfl,hS,_⟩:=SegC.of_owns D6;have HS:=zab hS;have E8:=zab F0;have E7:=zdt (logOf d p0) (j+1) mk.tags;have F1:=zab E7;clear D6 hS F0 B9 C2 B;generalize copiesAt (logOf d p0) (j+1) mk.tags=cp at *;clear E7;obtain⟨⟨L,N,O,S,l,h,Q,X,U,Z⟩,Y⟩:=zaj C4.o;go_wp2_with (at_builtin;refine zp6 _ (w.heap.size+2) rfl _ _ rfl (.slice ma info.length mc) info rfl B5.o ca cc cp rfl HS.o (by have:=F1.o;omega) (by omega) ?_);intro v3 w3 I E;obtain⟨nf,C0⟩:∃nf,nf=info++cp:=⟨_,rfl⟩;have F6:nf.length≤j+1+mk.tags.length:=by have:=F1.o;rw[C0,List.length_append];omega
      replace I:=zab (zyq I.o (show _=nf.length by simp[C0]))
      rw[←C0] at I r;clear C0;obtain⟨D5,C9,D2,_,_⟩:=SegC.of_owns I.o;subst D2;have m:∀k,(Value.slice ma info.length mc).ownBlock=some k→w.heap.size+2≤k:=fun k hk=>(B5.o.lt k hk).1;have A4:∀k,(Value.slice D5 nf.length C9).ownBlock=some k→w.heap.size+2≤k:=fun k hk=>(I.o.lt k hk).1;have A5:∀k,(Value.slice ra rev.length rc).ownBlock=some k→w.heap.size+2≤k:=fun k hk=>(C5.o.lt k hk).1;have G2:=E.size;have D3:Hid (w3.heap[w.heap.size]?=_):=(E.block _ E0 (fun e=>by have:=m _ e.symm;omega)).trans C3.o;have A9:Hid (w3.heap[w.heap.size+1]?=_):=(E.block _ F4 (fun e=>by have:=m _ e.symm;omega)).trans C4.o;have B4:Hid (Rd w3 R a c a' c' d p0 (j+1+mk.tags.length)):=E8.o.grown E (fun k hk=>by have:=m k hk;omega);have C8:Hid (But R w.heap.size w w3):=C6.o.grown E (fun k hk=>by have:=m k hk;omega) (by omega);have F9:=zab (zfo C5.o B5.o (by decide) E);have u:=zab (And.intro A4 A5);clear L N O S l h Q X U Z Y m A4 A5 E C3 C4 C6 B5 C5 E8 HS;obtain⟨⟨L,N,O,S,l,h,Q,X,U,Z⟩,Y⟩:=zaj A9.o;have B1:R≠w.heap.size+1:=by omega
      go_wp2;clear L N O S l h Q X U Z Y
      go_roundw
      case rel=>exact⟨j+1+mk.tags.length,nf,rev,D5,C9,ra,rc,by omega,hle,F6,by omega,r,B4.o.setNe B1 _,C8.o.setNew (p:=⟨w.heap.size+1,1,none⟩) (by simp) _,by simp[World.setCell];omega,(zgt (by simp) _).trans D3.o,heap_setCell_same _ _ 1 _ _ (.slice D5 nf.length C9) A9.o,zc2 I.o (fun k hk=>by have:=u.o.1 k hk;simp;omega) _,zc2 F9.o (fun k hk=>by have:=u.o.2 k hk;simp;omega) _⟩
      case measure=>
       rw[(z3q (B4.o.setNe (p:=⟨w.heap.size+1,1,none⟩) B1 _)).1.2.2.2];simp;omega
     ·have hc:=B9.o;rw[if_neg hle] at hc;obtain⟨rfl,rfl⟩:=hc;have A3:Hid (ze8 (logOf d p0) seq i (zcu seq)=none):=by rw[Hid,B.o,C2.o,if_neg hle]
      clear B9 C2 B B5 C5 C4;obtain⟨⟨L,N,O,S,l,h,Q,X,U,Z⟩,Y⟩:=zaj C3.o;go_wp2;obtain⟨W,D⟩:∃W,W=((((((((((w2.setCell ⟨w.heap.size,0,none⟩ (.int .i64 0)).setCell ⟨w.heap.size,1,none⟩ (.slice none 0 0)).setCell ⟨w.heap.size,2,none⟩ (.slice none 0 0)).setCell ⟨w.heap.size,3,none⟩ (.slice none 0 0)).setCell ⟨w.heap.size,4,none⟩ (.bool false)).setCell ⟨w.heap.size,5,none⟩ (.int .i64 0)).setCell ⟨w.heap.size,6,none⟩ (.bool false)).setCell ⟨w.heap.size,7,none⟩ (.int .i64 0)).setCell ⟨w.heap.size,8,none⟩ (.bool false)).setCell ⟨w.heap.size,9,none⟩ (.int .i64 0)):=⟨_,rfl⟩;have A:=zun C3.o (.int .i64 0) (.slice none 0 0) (.slice none 0 0) (.slice none 0 0) (.bool false) (.int .i64 0) (.bool false) (.int .i64 0) (.bool false) (.int .i64 0);rw[←D] at A;obtain⟨⟨z,y1,y2,y3,y4,y5,y6,y7,y8,y9⟩,_⟩:=zaj A;have y:=zab D;rw[←D];clear D A L N O S l h Q X U Z Y;refine bodyPost_ret (v:=.tuple #[.agg #[.int .i64 0,.slice none 0 0,.slice none 0 0,.slice none 0 0,.bool false,.int .i64 0,.bool false,.int .i64 0,.bool false,.int .i64 0],.bool false]) (by simp[results,results114,go_sem,z,y1,y2,y3,y4,y5,y6,y7,y8,y9]) rfl ?_;unfold z4w;refine⟨_,false,rfl,?_,?_⟩
      ·rw[y.o];exact((((((((((C6.o.setNew (p:=⟨w.heap.size,0,none⟩) (Nat.le_refl _) _).setNew (p:=⟨w.heap.size,1,none⟩) (Nat.le_refl _) _).setNew (p:=⟨w.heap.size,2,none⟩) (Nat.le_refl _) _).setNew (p:=⟨w.heap.size,3,none⟩) (Nat.le_refl _) _).setNew (p:=⟨w.heap.size,4,none⟩) (Nat.le_refl _) _).setNew (p:=⟨w.heap.size,5,none⟩) (Nat.le_refl _) _).setNew (p:=⟨w.heap.size,6,none⟩) (Nat.le_refl _) _).setNew (p:=⟨w.heap.size,7,none⟩) (Nat.le_refl _) _).setNew (p:=⟨w.heap.size,8,none⟩) (Nat.le_refl _) _).setNew (p:=⟨w.heap.size,9,none⟩) (Nat.le_refl _) _)
      ·rw[zp7,A3.o];exact⟨rfl,rfl⟩
    ·have G6:=G1 hk;have E6:mk.tags=[]:=G3.o (by omega)
     have r:Hid (ze8 (logOf d p0) seq i (zcu seq)=ze8 (logOf d p0) seq (j+1) (txW seq info (rev++mk.blocks))):=by
      rw[Hid,B.o,C.o,if_neg (by simp[hq,hk]),if_neg (by omega),zuo,E6,if_pos (by rw[za4];simp;omega)];simp[copiesAt]
     clear C B E6;obtain⟨⟨L,N,O,S,l,h,Q,X,U,Z⟩,Y⟩:=zaj A6.o;go_wp2_with (at_builtin;refine zp5 _ (w.heap.size+2) rfl _ _ rfl (.slice ra rev.length rc) rev rfl (zah x.o (zaa _ _)) a3 c3 mk.blocks rfl (HI.o.below (zaa _ _)) (by omega) (by simp;omega) ?_);intro v3 w3 I E;obtain⟨rv,B8⟩:∃rv,rv=rev++mk.blocks:=⟨_,rfl⟩;have F3:rv.length≤20*(j+1):=by rw[B8,List.length_append];omega
     replace I:=zab (zyq I.o (show _=rv.length by simp[B8]))
     rw[←B8] at I r;clear B8;obtain⟨D9,D4,D2,_,_⟩:=SegI.of_owns I.o;subst D2;have A2:Below K.heap.size K (K.alloc (.cells #[.int .i64 3,.int .i64 seq,.int .i64 mk.pos,.slice a2 mk.tags.length c2,.slice a3 mk.blocks.length c3] 119)):=zaa _ _;have m:∀k,(Value.slice ra rev.length rc).ownBlock=some k→w.heap.size+2≤k:=fun k hk=>(x.o.lt k hk).1;have A4:∀k,(Value.slice D9 rv.length D4).ownBlock=some k→w.heap.size+2≤k:=fun k hk=>(I.o.lt k hk).1;have A0:∀k,(Value.slice ma info.length mc).ownBlock=some k→w.heap.size+2≤k:=fun k hk=>(A1.o.lt k hk).1;have G2:K.heap.size+1≤w3.heap.size:=by have:=E.size;simpa using this
     have D3:Hid (w3.heap[w.heap.size]?=_):=(E.block _ (by simp;omega) (fun e=>by have:=m _ e.symm;omega)).trans (zad A2 A7 F.o);have A9:Hid (w3.heap[w.heap.size+1]?=_):=(E.block _ (by simp;omega) (fun e=>by have:=m _ e.symm;omega)).trans (zad A2 B6 A6.o);have B4:Hid (Rd w3 R a c a' c' d p0 (j+1)):=(B2.o.below A2).grown E (fun k hk=>by have:=m k hk;omega);have C8:Hid (But R w.heap.size w w3):=(q.o.trans (But.of_below A2) (by omega)).grown E (fun k hk=>by have:=m k hk;omega) (by simp;omega);have G4:=zab (zfo (zah A1.o A2) (zah x.o A2) (by decide) E);have u:=zab (And.intro A4 A0);clear L N O S l h Q X U Z Y m A4 A0 E F A6 q A1 x B2 HT HI C1 A2;obtain⟨⟨L,N,O,S,l,h,Q,X,U,Z⟩,Y⟩:=zaj A9.o;have B1:R≠w.heap.size+1:=by omega
     have G5:w.heap.size+1<w3.heap.size:=by omega
     go_wp2;clear L N O S l h Q X U Z Y
     go_roundw
     case rel=>exact⟨j+1,info,rv,ma,mc,D9,D4,by omega,by omega,by omega,F3,r,B4.o.setNe B1 _,C8.o.setNew (p:=⟨w.heap.size+1,3,none⟩) (by simp) _,by simp[World.setCell];omega,(zgt (by simp) _).trans D3.o,heap_setCell_same _ _ 3 _ _ (.slice D9 rv.length D4) A9.o,zc2 G4.o (fun k hk=>by have:=u.o.2 k hk;simp;omega) _,zc2 I.o (fun k hk=>by have:=u.o.1 k hk;simp;omega) _⟩
     case measure=>
      rw[(z3q (B4.o.setNe (p:=⟨w.heap.size+1,3,none⟩) B1 _)).1.2.2.2];simp;omega
    ·have F5:Hid (ze8 (logOf d p0) seq i (zcu seq)=some (j+1,txW seq info rev)):=by rw[Hid,B.o,C.o,if_neg (by simp[hq,hk]),if_pos hk]
     have A5:∀k,(Value.slice ra rev.length rc).ownBlock=some k→w.heap.size+2≤k:=fun k hk=>(x.o.lt k hk).1;have A0:∀k,(Value.slice ma info.length mc).ownBlock=some k→w.heap.size+2≤k:=fun k hk=>(A1.o.lt k hk).1;have u:=zab (And.intro A0 A5);clear C B A5 A0 HT HI C1;obtain⟨⟨L,N,O,S,l,h,Q,X,U,Z⟩,Y⟩:=zaj F.o;obtain⟨⟨z,y1,y2,y3,y4,y5,y6,y7,y8,y9⟩,yf⟩:=zaj A6.o;go_wp2;clear z y1 y2 y3 y4 y5 y6 y7 y8 y9 yf;obtain⟨W,D⟩:∃W,W=(((((((((((K.setCell ⟨w.heap.size,0,none⟩ (.int .i64 seq)).setCell ⟨w.heap.size,1,none⟩ (.slice ma info.length mc)).setCell ⟨w.heap.size,2,none⟩ (.slice none 0 0)).setCell ⟨w.heap.size,3,none⟩ (.slice ra rev.length rc)).setCell ⟨w.heap.size,4,none⟩ (.bool false)).setCell ⟨w.heap.size,5,none⟩ (.int .i64 0)).setCell ⟨w.heap.size,6,none⟩ (.bool false)).setCell ⟨w.heap.size,7,none⟩ (.int .i64 0)).setCell ⟨w.heap.size,8,none⟩ (.bool false)).setCell ⟨w.heap.size,9,none⟩ (.int .i64 0)).alloc (.cells #[.int .i64 4,.int .i64 seq,.int .i64 mk.pos,.slice a2 mk.tags.length c2,.slice a3 mk.blocks.length c3] 119)):=⟨_,rfl⟩;have A:=ziw F.o (.int .i64 seq) (.slice ma info.length mc) (.slice none 0 0) (.slice ra rev.length rc) (.bool false) (.int .i64 0) (.bool false) (.int .i64 0) (.bool false) (.int .i64 0) (.cells #[.int .i64 4,.int .i64 seq,.int .i64 mk.pos,.slice a2 mk.tags.length c2,.slice a3 mk.blocks.length c3] 119);rw[←D] at A;obtain⟨⟨z,y1,y2,y3,y4,y5,y6,y7,y8,y9⟩,_⟩:=zaj A;have y:=zab D;rw[←D];clear D A L N O S l h Q X U Z Y;refine bodyPost_ret (v:=.tuple #[.agg #[.int .i64 seq,.slice ma info.length mc,.slice none 0 0,.slice ra rev.length rc,.bool false,.int .i64 0,.bool false,.int .i64 0,.bool false,.int .i64 0],.bool true]) (by simp[results,results114,go_sem,z,y1,y2,y3,y4,y5,y6,y7,y8,y9]) rfl ?_;unfold z4w;refine⟨_,true,rfl,?_,?_⟩
     ·rw[y.o];exact(But.trans ((((((((((q.o.setNew (p:=⟨w.heap.size,0,none⟩) (Nat.le_refl _) _).setNew (p:=⟨w.heap.size,1,none⟩) (Nat.le_refl _) _).setNew (p:=⟨w.heap.size,2,none⟩) (Nat.le_refl _) _).setNew (p:=⟨w.heap.size,3,none⟩) (Nat.le_refl _) _).setNew (p:=⟨w.heap.size,4,none⟩) (Nat.le_refl _) _).setNew (p:=⟨w.heap.size,5,none⟩) (Nat.le_refl _) _).setNew (p:=⟨w.heap.size,6,none⟩) (Nat.le_refl _) _).setNew (p:=⟨w.heap.size,7,none⟩) (Nat.le_refl _) _).setNew (p:=⟨w.heap.size,8,none⟩) (Nat.le_refl _) _).setNew (p:=⟨w.heap.size,9,none⟩) (Nat.le_refl _) _) (But.of_below (zaa _ _)) (by simp[World.setCell];omega))
     ·rw[zp7,F5.o];refine⟨rfl,?_,_,_,rfl,⟨?_,?_,?_⟩,rfl⟩
      ·rw[y.o];refine Rd.below ?_ (zaa _ _)
       repeat refine Rd.setNe ?_ (show R≠w.heap.size by omega) _
       exact B2.o
      ·rw[y.o];refine za9 (zah ?_ (zaa _ _)) (show w.heap.size≤w.heap.size+2 by omega)
       repeat refine zc2 ?_ (fun k e=>by have:=u.o.1 k e;simp;omega) _
       exact A1.o
      ·exact World.ownsRow_nil _ _ _ _
      ·rw[y.o];refine za9 (zah ?_ (zaa _ _)) (show w.heap.size≤w.heap.size+2 by omega)
       repeat refine zc2 ?_ (fun k e=>by have:=u.o.2 k e;simp;omega) _
       exact x.o
   ·have B3:(decide (er=0)&&decide (mk.seq=seq))=false:=by
     rw[Bool.and_eq_false_iff];by_cases he:er=0
     ·right;exact decide_eq_false fun hq=>hok ⟨he,hq⟩
     ·left;exact decide_eq_false he
    have A3:Hid (ze8 (logOf d p0) seq i (zcu seq)=none):=by
     rw[Hid,B.o,C.o,if_pos];by_cases he:er=0
     ·exact .inr (.inl fun hq=>hok ⟨he,hq⟩)
     ·exact .inl he
    dsimp only;rw[B3];clear C B hok B3 C7;obtain⟨⟨L,N,O,S,l,h,Q,X,U,Z⟩,Y⟩:=zaj F.o;go_wp2;obtain⟨W,D⟩:∃W,W=(((((((((((K.setCell ⟨w.heap.size,0,none⟩ (.int .i64 0)).setCell ⟨w.heap.size,1,none⟩ (.slice none 0 0)).setCell ⟨w.heap.size,2,none⟩ (.slice none 0 0)).setCell ⟨w.heap.size,3,none⟩ (.slice none 0 0)).setCell ⟨w.heap.size,4,none⟩ (.bool false)).setCell ⟨w.heap.size,5,none⟩ (.int .i64 0)).setCell ⟨w.heap.size,6,none⟩ (.bool false)).setCell ⟨w.heap.size,7,none⟩ (.int .i64 0)).setCell ⟨w.heap.size,8,none⟩ (.bool false)).setCell ⟨w.heap.size,9,none⟩ (.int .i64 0)).alloc (.cells #[.int .i64 mk.kind,.int .i64 mk.seq,.int .i64 mk.pos,.slice a2 mk.tags.length c2,.slice a3 mk.blocks.length c3] 119)):=⟨_,rfl⟩;have A:=ziw F.o (.int .i64 0) (.slice none 0 0) (.slice none 0 0) (.slice none 0 0) (.bool false) (.int .i64 0) (.bool false) (.int .i64 0) (.bool false) (.int .i64 0) (.cells #[.int .i64 mk.kind,.int .i64 mk.seq,.int .i64 mk.pos,.slice a2 mk.tags.length c2,.slice a3 mk.blocks.length c3] 119);rw[←D] at A;obtain⟨⟨z,y1,y2,y3,y4,y5,y6,y7,y8,y9⟩,_⟩:=zaj A;have y:=zab D;rw[←D];clear D A L N O S l h Q X U Z Y;refine bodyPost_ret (v:=.tuple #[.agg #[.int .i64 0,.slice none 0 0,.slice none 0 0,.slice none 0 0,.bool false,.int .i64 0,.bool false,.int .i64 0,.bool false,.int .i64 0],.bool false]) (by simp[results,results114,go_sem,z,y1,y2,y3,y4,y5,y6,y7,y8,y9]) rfl ?_;unfold z4w;refine⟨_,false,rfl,?_,?_⟩
    ·rw[y.o];exact(But.trans ((((((((((q.o.setNew (p:=⟨w.heap.size,0,none⟩) (Nat.le_refl _) _).setNew (p:=⟨w.heap.size,1,none⟩) (Nat.le_refl _) _).setNew (p:=⟨w.heap.size,2,none⟩) (Nat.le_refl _) _).setNew (p:=⟨w.heap.size,3,none⟩) (Nat.le_refl _) _).setNew (p:=⟨w.heap.size,4,none⟩) (Nat.le_refl _) _).setNew (p:=⟨w.heap.size,5,none⟩) (Nat.le_refl _) _).setNew (p:=⟨w.heap.size,6,none⟩) (Nat.le_refl _) _).setNew (p:=⟨w.heap.size,7,none⟩) (Nat.le_refl _) _).setNew (p:=⟨w.heap.size,8,none⟩) (Nat.le_refl _) _).setNew (p:=⟨w.heap.size,9,none⟩) (Nat.le_refl _) _) (But.of_below (zaa _ _)) (by simp[World.setCell];omega))
    ·rw[zp7,A3.o];exact⟨rfl,rfl⟩
open Go.RowKit
theorem zup {w:World}{B:Nat}{z0 z1 z2 z3 z4:Value}{t:TypeId}(h:w.heap[B]?=some (.cells #[z0,z1,z2,z3,z4] t (0,0)))(v0 v1 v2 v3 v4:Value):
  (((((w.setCell ⟨B,0,none⟩ v0).setCell ⟨B,1,none⟩ v1).setCell ⟨B,2,none⟩ v2).setCell ⟨B,3,none⟩ v3).setCell ⟨B,4,none⟩ v4).heap[B]?=some (.cells #[v0,v1,v2,v3,v4] t (0,0)):=by
 have A:=heap_setCell_same w B 0 _ _ v0 h;have D:=heap_setCell_same _ B 1 _ _ v1 A;have C:=heap_setCell_same _ B 2 _ _ v2 D;have E:=heap_setCell_same _ B 3 _ _ v3 C;exact heap_setCell_same _ B 4 _ _ v4 E
theorem zok {w:World}{B:Nat}{z0 z1 z2 z3 z4:Value}{t:TypeId}(h:w.heap[B]?=some (.cells #[z0,z1,z2,z3,z4] t (0,0)))(v0 v1 v2 v3 v4:Value)(o:Obj):
  ((((((w.setCell ⟨B,0,none⟩ v0).setCell ⟨B,1,none⟩ v1).setCell ⟨B,2,none⟩ v2).setCell ⟨B,3,none⟩ v3).setCell ⟨B,4,none⟩ v4).alloc o).heap[B]?=some (.cells #[v0,v1,v2,v3,v4] t (0,0)):=by
 have A:=zup h v0 v1 v2 v3 v4;exact zad (zaa _ o) (Array.getElem?_eq_some_iff.1 A).1 A
def zlm (w w':World)(d:Dk)(e:Ending):Prop:=
 ∃(k q p:Int) (a2:Option Addr) (n2 c2:Nat) (a3:Option Addr) (n3 c3:Nat),e=.returned (.tuple #[.agg #[.int .i64 k,.int .i64 q,.int .i64 p,.slice a2 n2 c2,.slice a3 n3 c3],.int .i64 (scanE d)])∧True∧(scanE d=0→q=(zap d).seq∧p=(zap d).pos)∧Below w.heap.size w w'
theorem zol (a:Option Addr)(c:Nat)(a':Option Addr)(c':Nat)(d:Dk)(w:World)(hD:IsDk w (.agg #[.slice a d.safe.length c,.slice a' d.wr.length c']) d):
  Calls prog 113 #[.agg #[.slice a d.safe.length c,.slice a' d.wr.length c']] w fun e w'=>zlm w w' d e:=by
 have HD:=zab hD;clear hD;go_enter func113,ntmps113;go_wp2_with fail;refine(zkt _ d 0 _ (HD.o.below (zae (zaa _ _) (zaa _ _)))).mono ?_;rintro e w1 ⟨rfl,m⟩;have l:=zab (zhx m);have z:w.heap.size+1<w1.heap.size:=by have:=m.size;simp at this;omega
 have s:=zab (zae (zae (zaa _ _) (zaa _ _)) m);clear m HD;by_cases hE:readE d 0=0
 ·rw[hE];have HE:=zab hE;clear hE;go_wp2_with fail;refine(zlk (zam d 0) _).mono ?_;rintro e x ⟨v2,rfl,hN,n⟩;obtain⟨N,c2,O,c3,rfl,_,_,_,_⟩:=hN;obtain⟨M,u⟩:∃M,M=zaq (zam d 0):=⟨_,rfl⟩;rw[←u];obtain⟨mk,er⟩:=M;have K:Hid (scanE d=if er≠0∨mk.kind≠1 then 1 else 0):=by rw[Hid,scanE,zap,←u,HE.o];simp
  have y:Hid (zap d=mk):=by rw[Hid,zap,←u]
  clear u;have L:=zab (zad n z l.o);have A2:w.heap.size+1<x.heap.size:=Nat.lt_of_lt_of_le z n.size;have r:=zab (zae s.o n);clear n l s;dsimp only;by_cases he:er=0
  ·subst he;by_cases hk:mk.kind=1
   ·have A0:Hid (scanE d=0):=by rw[Hid,K.o,if_neg (by simp[hk])]
    clear K;obtain⟨⟨Z,h,Y,R,i⟩,D,F,J,I,C⟩:=zhy L.o;go_wp2;obtain⟨W,B⟩:∃W,W=((((((x.setCell ⟨w.heap.size+1,0,none⟩ (.int .i64 1)).setCell ⟨w.heap.size+1,1,none⟩ (.int .i64 mk.seq)).setCell ⟨w.heap.size+1,2,none⟩ (.int .i64 mk.pos)).setCell ⟨w.heap.size+1,3,none⟩ (.slice N mk.tags.length c2)).setCell ⟨w.heap.size+1,4,none⟩ (.slice O mk.blocks.length c3)).alloc (.cells #[.int .i64 1,.int .i64 mk.seq,.int .i64 mk.pos,.slice N mk.tags.length c2,.slice O mk.blocks.length c3] 119)):=⟨_,rfl⟩;have A:=zok L.o (.int .i64 1) (.int .i64 mk.seq) (.int .i64 mk.pos) (.slice N mk.tags.length c2) (.slice O mk.blocks.length c3) (.cells #[.int .i64 1,.int .i64 mk.seq,.int .i64 mk.pos,.slice N mk.tags.length c2,.slice O mk.blocks.length c3] 119);rw[←B] at A;obtain⟨⟨S,U,X,b,k⟩,_⟩:=zhy A;have j:=zab B;rw[←B];clear B A Z h Y R i D F J I C;refine bodyPost_ret (v:=.tuple #[.agg #[.int .i64 1,.int .i64 mk.seq,.int .i64 mk.pos,.slice N mk.tags.length c2,.slice O mk.blocks.length c3],.int .i64 0]) (by simp[results,results113,go_sem,S,U,X,b,k]) rfl ?_;rw[zlm,A0.o];refine⟨_,_,_,_,_,_,_,_,_,rfl,?_,?_,?_⟩
    ·exact trivial
    ·intro q;exact⟨by rw[y.o],by rw[y.o]⟩
    ·rw[j.o];exact((((((r.o.setCell (p:=⟨w.heap.size+1,0,none⟩) (by simp) _).setCell (p:=⟨w.heap.size+1,1,none⟩) (by simp) _).setCell (p:=⟨w.heap.size+1,2,none⟩) (by simp) _).setCell (p:=⟨w.heap.size+1,3,none⟩) (by simp) _).setCell (p:=⟨w.heap.size+1,4,none⟩) (by simp) _).alloc (by simp[World.setCell];omega) _)
   ·have Q:Hid (scanE d=1):=by rw[Hid,K.o,if_pos (.inr hk)]
    have A4:(mk.kind !=1)=true:=by simpa using hk
    clear K;obtain⟨⟨Z,h,Y,R,i⟩,D,F,J,I,C⟩:=zhy L.o;go_wp2;obtain⟨W,B⟩:∃W,W=((((((x.setCell ⟨w.heap.size+1,0,none⟩ (.int .i64 0)).setCell ⟨w.heap.size+1,1,none⟩ (.int .i64 0)).setCell ⟨w.heap.size+1,2,none⟩ (.int .i64 0)).setCell ⟨w.heap.size+1,3,none⟩ (.slice none 0 0)).setCell ⟨w.heap.size+1,4,none⟩ (.slice none 0 0)).alloc (.cells #[.int .i64 mk.kind,.int .i64 mk.seq,.int .i64 mk.pos,.slice N mk.tags.length c2,.slice O mk.blocks.length c3] 119)):=⟨_,rfl⟩;have A:=zok L.o (.int .i64 0) (.int .i64 0) (.int .i64 0) (.slice none 0 0) (.slice none 0 0) (.cells #[.int .i64 mk.kind,.int .i64 mk.seq,.int .i64 mk.pos,.slice N mk.tags.length c2,.slice O mk.blocks.length c3] 119);rw[←B] at A;obtain⟨⟨S,U,X,b,k⟩,_⟩:=zhy A;have j:=zab B;rw[←B];clear B A Z h Y R i D F J I C;refine bodyPost_ret (v:=.tuple #[.agg #[.int .i64 0,.int .i64 0,.int .i64 0,.slice none 0 0,.slice none 0 0],.int .i64 (1)]) (by simp[results,results113,go_sem,S,U,X,b,k]) rfl ?_;rw[zlm,Q.o];refine⟨_,_,_,_,_,_,_,_,_,rfl,?_,?_,?_⟩
    ·exact trivial
    ·intro q;cases q
    ·rw[j.o];exact((((((r.o.setCell (p:=⟨w.heap.size+1,0,none⟩) (by simp) _).setCell (p:=⟨w.heap.size+1,1,none⟩) (by simp) _).setCell (p:=⟨w.heap.size+1,2,none⟩) (by simp) _).setCell (p:=⟨w.heap.size+1,3,none⟩) (by simp) _).setCell (p:=⟨w.heap.size+1,4,none⟩) (by simp) _).alloc (by simp[World.setCell];omega) _)
  ·have Q:Hid (scanE d=1):=by rw[Hid,K.o,if_pos (.inl he)]
   have A3:(er !=0)=true:=by simpa using he
   clear K;obtain⟨⟨Z,h,Y,R,i⟩,D,F,J,I,C⟩:=zhy L.o;go_wp2;obtain⟨W,B⟩:∃W,W=((((((x.setCell ⟨w.heap.size+1,0,none⟩ (.int .i64 0)).setCell ⟨w.heap.size+1,1,none⟩ (.int .i64 0)).setCell ⟨w.heap.size+1,2,none⟩ (.int .i64 0)).setCell ⟨w.heap.size+1,3,none⟩ (.slice none 0 0)).setCell ⟨w.heap.size+1,4,none⟩ (.slice none 0 0)).alloc (.cells #[.int .i64 mk.kind,.int .i64 mk.seq,.int .i64 mk.pos,.slice N mk.tags.length c2,.slice O mk.blocks.length c3] 119)):=⟨_,rfl⟩;have A:=zok L.o (.int .i64 0) (.int .i64 0) (.int .i64 0) (.slice none 0 0) (.slice none 0 0) (.cells #[.int .i64 mk.kind,.int .i64 mk.seq,.int .i64 mk.pos,.slice N mk.tags.length c2,.slice O mk.blocks.length c3] 119);rw[←B] at A;obtain⟨⟨S,U,X,b,k⟩,_⟩:=zhy A;have j:=zab B;rw[←B];clear B A Z h Y R i D F J I C;refine bodyPost_ret (v:=.tuple #[.agg #[.int .i64 0,.int .i64 0,.int .i64 0,.slice none 0 0,.slice none 0 0],.int .i64 (1)]) (by simp[results,results113,go_sem,S,U,X,b,k]) rfl ?_;rw[zlm,Q.o];refine⟨_,_,_,_,_,_,_,_,_,rfl,?_,?_,?_⟩
   ·exact trivial
   ·intro q;cases q
   ·rw[j.o];exact((((((r.o.setCell (p:=⟨w.heap.size+1,0,none⟩) (by simp) _).setCell (p:=⟨w.heap.size+1,1,none⟩) (by simp) _).setCell (p:=⟨w.heap.size+1,2,none⟩) (by simp) _).setCell (p:=⟨w.heap.size+1,3,none⟩) (by simp) _).setCell (p:=⟨w.heap.size+1,4,none⟩) (by simp) _).alloc (by simp[World.setCell];omega) _)
 ·have Q:Hid (scanE d=readE d 0):=by rw[Hid,scanE,if_pos hE]
  have A1:(readE d 0 !=0)=true:=by simpa using hE
  have HE:=zab hE;generalize readE d 0=E at *;clear hE;obtain⟨⟨Z,h,Y,R,i⟩,D,F,J,I,C⟩:=zhy l.o;go_wp2;obtain⟨W,B⟩:∃W,W=(((((w1.setCell ⟨w.heap.size+1,0,none⟩ (.int .i64 0)).setCell ⟨w.heap.size+1,1,none⟩ (.int .i64 0)).setCell ⟨w.heap.size+1,2,none⟩ (.int .i64 0)).setCell ⟨w.heap.size+1,3,none⟩ (.slice none 0 0)).setCell ⟨w.heap.size+1,4,none⟩ (.slice none 0 0)):=⟨_,rfl⟩;have A:=zup l.o (.int .i64 0) (.int .i64 0) (.int .i64 0) (.slice none 0 0) (.slice none 0 0);rw[←B] at A;obtain⟨⟨S,U,X,b,k⟩,_⟩:=zhy A;have j:=zab B;rw[←B];clear B A Z h Y R i D F J I C;refine bodyPost_ret (v:=.tuple #[.agg #[.int .i64 0,.int .i64 0,.int .i64 0,.slice none 0 0,.slice none 0 0],.int .i64 (E)]) (by simp[results,results113,go_sem,S,U,X,b,k]) rfl ?_;rw[zlm,Q.o];refine⟨_,_,_,_,_,_,_,_,_,rfl,?_,?_,?_⟩
  ·exact trivial
  ·intro q;exact absurd q HE.o
  ·rw[j.o];exact(((((s.o.setCell (p:=⟨w.heap.size+1,0,none⟩) (by simp) _).setCell (p:=⟨w.heap.size+1,1,none⟩) (by simp) _).setCell (p:=⟨w.heap.size+1,2,none⟩) (by simp) _).setCell (p:=⟨w.heap.size+1,3,none⟩) (by simp) _).setCell (p:=⟨w.heap.size+1,4,none⟩) (by simp) _)
open Go.RowKit
theorem zyt {w:World}{B:Nat}{v0 v1 v2:Value}{t:TypeId}(h:w.heap[B]?=some (.cells #[v0,v1,v2] t (0,0))):
  (w.cell? ⟨B,0,none⟩=some v0∧w.cell? ⟨B,1,none⟩=some v1∧w.cell? ⟨B,2,none⟩=some v2)∧∀k,w.frozen? ⟨B,k,none⟩=false:=by
 refine⟨⟨?_,?_,?_⟩,fun k=>frozen_of_row w _ _ _ _ h⟩<;>(rw[cell_of_row w _ _ _ _ _ h];rfl)
theorem zf9 {w:World}{B:Nat}{z0 z1 z2:Value}{t:TypeId}(h:w.heap[B]?=some (.cells #[z0,z1,z2] t (0,0)))(v0 v1 v2:Value):
  (((w.setCell ⟨B,0,none⟩ v0).setCell ⟨B,1,none⟩ v1).setCell ⟨B,2,none⟩ v2).heap[B]?=some (.cells #[v0,v1,v2] t (0,0)):=by
 have A:=heap_setCell_same w B 0 _ _ v0 h;have C:=heap_setCell_same _ B 1 _ _ v1 A;exact heap_setCell_same _ B 2 _ _ v2 C
theorem zuq {w:World}{B:Nat}{z0 z1 z2:Value}{t:TypeId}(h:w.heap[B]?=some (.cells #[z0,z1,z2] t (0,0)))(v0 v1 v2:Value)(o:Obj):
  ((((w.setCell ⟨B,0,none⟩ v0).setCell ⟨B,1,none⟩ v1).setCell ⟨B,2,none⟩ v2).alloc o).heap[B]?=some (.cells #[v0,v1,v2] t (0,0)):=by
 have A:=zf9 h v0 v1 v2;exact zad (zaa _ o) (Array.getElem?_eq_some_iff.1 A).1 A
theorem zfp {w:World}{base:Nat}{e:TypeId}{size:Nat}{v:Value}{n:Nat}{xs:List Value}{B:Nat}{v0 v1 v2:Value}(h:w.ownsRow base e size v n xs)(hb:∀k,v.ownBlock=some k→k≠B):(((w.setCell ⟨B,0,none⟩ v0).setCell ⟨B,1,none⟩ v1).setCell ⟨B,2,none⟩ v2).ownsRow base e size v n xs:=
 zc2 (zc2 (zc2 h (p:=⟨B,0,none⟩) hb v0) (p:=⟨B,1,none⟩) hb v1) (p:=⟨B,2,none⟩) hb v2
theorem OwnR.ne {w:World}{base:Nat}{x:RX}(h:OwnR w base x){B:Nat}(hB:B<base):(∀k,x.m.ownBlock=some k→k≠B)∧(∀k,x.d.ownBlock=some k→k≠B)∧∀k,x.r.ownBlock=some k→k≠B:=
 ⟨fun k hk=>by have:=(h.1.lt k hk).1;omega,fun k hk=>by have:=(h.2.1.lt k hk).1;omega,fun k hk=>by have:=(h.2.2.lt k hk).1;omega⟩
theorem OwnR.set3 {w:World}{base B:Nat}{x:RX}{v0 v1 v2:Value}(h:OwnR w base x)(hB:B<base):OwnR (((w.setCell ⟨B,0,none⟩ v0).setCell ⟨B,1,none⟩ v1).setCell ⟨B,2,none⟩ v2) base x:=
 ⟨zfp h.1 (h.ne hB).1,zfp h.2.1 (h.ne hB).2.1,zfp h.2.2 (h.ne hB).2.2⟩
theorem OwnR.base {w:World}{b b':Nat}{x:RX}(h:OwnR w b x)(hb:b'≤b):OwnR w b' x:=⟨za9 h.1 hb,za9 h.2.1 hb,za9 h.2.2 hb⟩
theorem OwnR.but {R base:Nat}{w w':World}{x:RX}(h:OwnR w base x)(hb:But R w.heap.size w w')(hR:R<base):OwnR w' base x:=⟨zee h.1 hb hR,zee h.2.1 hb hR,zee h.2.2 hb hR⟩
def zyu (w:World)(R:Nat):Nat:=match w.cell? ⟨R,3,none⟩ with|some (.int _ n)=>n.toNat|_=>0
theorem Rd.left {w:World}{R:Nat}{a:Option Addr}{c:Nat}{a':Option Addr}{c':Nat}{d:Dk}{p0 i:Nat}(h:Rd w R a c a' c' d p0 i):zyu w R=24 - i:=by
 rw[zyu,(z3q h).1.2.2.2];simp
def ScPost (w w':World)(d:Dk)(e:Ending):Prop:=
 ∃v,e=.returned (.tuple #[v,.int .i64 (scanE d)])∧Below w.heap.size w w'∧(scanE d≠0→v=.agg #[.slice none 0 0,.int .i64 0,.int .i64 0])∧
  (scanE d=0→∃(q:List RX) (va:Option Addr) (vc:Nat),v=.agg #[.slice va q.length vc,.int .i64 ((zap d).seq+(q.length:Int)),.int .i64 ((((zap d).pos.toNat+(zbw d).2)%24:Nat):Int)]∧q.map (·.t)=(zbw d).1∧w'.ownsRow w.heap.size 40 10 (.slice va q.length vc) q.length (cellsX q)∧∀x∈q,OwnR w' w.heap.size x)
theorem z2b (a:Option Addr)(c:Nat)(a':Option Addr)(c':Nat)(d:Dk)(w:World)(hD:IsDk w (.agg #[.slice a d.safe.length c,.slice a' d.wr.length c']) d):
  Calls prog 76 #[.agg #[.slice a d.safe.length c,.slice a' d.wr.length c']] w fun e w'=>ScPost w w' d e:=by
 have HD:=zab hD;clear hD;go_enter func76,ntmps76;go_wp2_with fail;refine(zol a c a' c' d _ (HD.o.below (zae (zaa _ _) (zaa _ _)))).mono ?_;rintro e A ⟨k,u,p,a2,n2,c2,a3,n3,c3,rfl,_,B9,A4⟩;have K0:=zab (zhe A4);have KB:=zab (zhx A4);have F3:w.heap.size+1<A.heap.size:=by have:=A4.size;simp at this;omega
 have F7:w.heap.size<A.heap.size:=by omega
 have B1:=zab (zae (zae (zaa _ _) (zaa _ _)) A4);clear A4;by_cases hE:scanE d=0
 ·obtain⟨rfl,rfl⟩:=B9 hE;rw[hE];have D5:=zab hE
  have F0:za2 d=true∧(1≤(zap d).seq∧(zap d).seq≤2147483647)∧0≤(zap d).pos∧(zap d).pos≤23:=by
   have h:=hE;unfold scanE at h;split at h
   ·rename_i h1;exact absurd h h1
   ·rename_i h1;split at h
    ·cases h
    ·rename_i h2
     have h3:(zaq (zam d 0)).2=0:=by
      by_cases D:(zaq (zam d 0)).2=0
      ·exact D
      ·exact absurd (.inl D) h2
     have h4:=zkz h3
     have h5:readE d 0=0:=by
      by_cases D:readE d 0=0
      ·exact D
      ·exact absurd D h1
     refine⟨?_,?_⟩
     ·unfold readE at h5;split at h5
      ·rename_i D;exact(Bool.and_eq_true_iff.1 D).1
      ·cases h5
     ·unfold goodM at h4;split at h4
      ·cases h4
      ·split at h4
       ·cases h4
       ·rename_i D;show(1≤(zaq (zam d 0)).1.seq∧_)∧_;unfold zap;omega
  obtain⟨hg,⟨G1,G0⟩,F4,E9⟩:=F0;have HL:Hid (zbw d=scanP (logOf d (zap d).pos) 0 (zap d).seq []):=rfl;obtain⟨C,hp⟩:∃C:Nat,(zap d).pos=(C:Int):=⟨(zap d).pos.toNat,by omega⟩;have C2:Hid ((zap d).pos.toNat=C):=by rw[Hid,hp];rfl
  rw[hp] at HL⊢;have F6:C<24:=by omega
  have F8:=zab hp;generalize hsq0:(zap d).seq=u at *;have C8:=zab hsq0;clear hE B9 hp F4 E9 hsq0;obtain⟨⟨i,Z⟩,l⟩:=zgk K0.o;go_wp2;clear i Z l;obtain⟨W0,A9⟩:∃W0,W0=((A.alloc (.cells #[.int .i64 k,.int .i64 u,.int .i64 (C:Int),.slice a2 n2 c2,.slice a3 n3 c3] 119)).alloc (.cells #[.slice none 0 0,.int .i64 u,.int .i64 (C:Int)] 90)).alloc (.cells #[.slice a d.safe.length c,.slice a' d.wr.length c',.int .i64 (C:Int),.int .i64 24] 170):=⟨_,rfl⟩;have C0:Below A.heap.size A W0:=by rw[A9];exact zae (zae (zaa _ _) (zaa _ _)) (zaa _ _)
  have N:W0.heap[A.heap.size+1]?=some (.cells #[.slice none 0 0,.int .i64 u,.int .i64 (C:Int)] 90 (0,0))∧W0.heap[A.heap.size+1+1]?=some (.cells #[.slice a d.safe.length c,.slice a' d.wr.length c',.int .i64 (C:Int),.int .i64 24] 170 (0,0))∧A.heap.size+1+1<W0.heap.size:=by
   rw[A9];obtain⟨_,K2,K3,hs⟩:=zjz (Below.refl _ _);exact⟨K2,K3,hs⟩
  rw[←A9];clear A9;have C5:=zab N.1;have D7:(C+0)%24=C:=by omega
  have D1:Hid (Rd W0 (A.heap.size+1+1) a c a' c' d C 0):=by rw[Hid,Rd,D7];exact N.2.1
  have D8:=N.2.2;have D3:=zab (zad C0 F3 KB.o);have D9:=zab (zae B1.o C0);have O:Hid (scanP (logOf d C) 0 (u+(([]:List RX).length:Int)) (([]:List RX).map (·.t))=zbw d):=by rw[Hid,HL.o];simp
  clear N C0 KB B1 K0 HL
  go_loopw [9] (fun _ wr=>∃(pos:Nat) (B:Int) (q:List RX) (U:Option Addr) (X:Nat),pos≤24∧B=u+(q.length:Int)∧q.length≤pos∧Hid (scanP (logOf d C) pos B (q.map (·.t))=zbw d)∧Hid (Rd wr (A.heap.size+1+1) a c a' c' d C pos)∧Hid (Below w.heap.size w wr)∧A.heap.size+1+1<wr.heap.size∧Hid (wr.heap[w.heap.size+1]?=some (.cells #[.slice none 0 0,.int .i64 0,.int .i64 0] 90 (0,0)))∧
    Hid (wr.heap[A.heap.size+1]?=some (.cells #[.slice U q.length X,.int .i64 B,.int .i64 (((C+pos)%24:Nat):Int)] 90 (0,0)))∧Hid (wr.ownsRow (A.heap.size+3) 40 10 (.slice U q.length X) q.length (cellsX q))∧Hid (∀x∈q,OwnR wr (A.heap.size+3) x))
   (fun _ wr=>zyu wr (A.heap.size+1+1))
  case atStart=>exact⟨0,u+(([]:List RX).length:Int),[],none,0,Nat.zero_le _,rfl,Nat.zero_le _,O,D1,D9,D8,D3,by rw[D7];simpa using C5,World.ownsRow_nil _ _ _ _,fun x D=>(by cases D)⟩
  case round=>
   clear C5 D1 D8 D3 D9 O;obtain⟨pos,B,q,U,X,E2,D2,G3,O,B3,HB,G4,KB,KF,HO,HX⟩:=hrel;rw[B3.o.left];have A2:=zab D2;clear D2;have C7:w.heap.size≤A.heap.size+1+1:=by omega
   by_cases hlt:B<2147483647
   ·obtain⟨⟨i,Z,x2⟩,l⟩:=zyt KF.o;go_wp2_with fail;refine(zv1 (A.heap.size+1+1) a c a' c' d C pos B wr w B3.o E2 HD.o hg HB.o C7).mono ?_;rintro e K ⟨v,b,rfl,I,hT⟩;have G8:=I.size;have j:Hid (K.heap[w.heap.size+1]?=_):=(I.block _ (by omega) (by omega)).trans KB.o;have R:Hid (K.heap[A.heap.size+1]?=_):=(I.block _ (by omega) (by omega)).trans KF.o;have A6:Hid (Below w.heap.size w K):=I.below HB.o HB.o.size C7;have L:=zab (zee HO.o I (by omega));have A1:Hid (∀x∈q,OwnR K (A.heap.size+3) x):=fun x D=>(HX.o x D).but I (by omega);clear i Z x2 l KB KF HB HO HX B3
    cases hrun:ze8 (logOf d C) B pos (zcu B) with
    |none=>
     rw[zp7,hrun] at hT;obtain⟨rfl,rfl⟩:=hT;have m:Hid (zbw d=(q.map (·.t),pos)):=by rw[Hid,←O.o,scanP,dif_pos hlt,hrun]
     clear hrun O I;have B0:w.heap.size+1<K.heap.size:=by omega
     have B7:A.heap.size+1<K.heap.size:=by omega
     obtain⟨M,J⟩:∃M:Nat,M=(C+pos)%24:=⟨_,rfl⟩;rw[←J] at R;have A3:=zab J;clear J;obtain⟨⟨z0,z1,z2⟩,zf⟩:=zyt j.o;obtain⟨⟨i,Z,x2⟩,l⟩:=zyt R.o;go_wp2;clear i Z x2 l;obtain⟨W,Q⟩:∃W,W=((((K.setCell ⟨w.heap.size+1,0,none⟩ (.slice U q.length X)).setCell ⟨w.heap.size+1,1,none⟩ (.int .i64 B)).setCell ⟨w.heap.size+1,2,none⟩ (.int .i64 (M:Int))).alloc (.cells #[.int .i64 0,.slice none 0 0,.slice none 0 0,.slice none 0 0,.bool false,.int .i64 0,.bool false,.int .i64 0,.bool false,.int .i64 0] 40)):=⟨_,rfl⟩;have F:=zuq j.o (.slice U q.length X) (.int .i64 B) (.int .i64 (M:Int)) (.cells #[.int .i64 0,.slice none 0 0,.slice none 0 0,.slice none 0 0,.bool false,.int .i64 0,.bool false,.int .i64 0,.bool false,.int .i64 0] 40);rw[←Q] at F;obtain⟨⟨y0,y1,y2⟩,_⟩:=zyt F;have HW:=zab Q;rw[←Q];clear Q F z0 z1 z2 zf;refine bodyPost_ret (v:=.tuple #[.agg #[.slice U q.length X,.int .i64 B,.int .i64 (M:Int)],.int .i64 0]) (by simp[results,results76,go_sem,y0,y1,y2]) rfl ?_;rw[ScPost,D5.o];refine⟨_,rfl,?_,fun h=>absurd rfl h,fun _=>⟨q,U,X,?_,?_,?_,?_⟩⟩
     ·rw[HW.o];exact(((A6.o.setCell (p:=⟨w.heap.size+1,0,none⟩) (by simp) _).setCell (p:=⟨w.heap.size+1,1,none⟩) (by simp) _).setCell (p:=⟨w.heap.size+1,2,none⟩) (by simp) _).alloc (by simp[World.setCell];omega) _
     ·rw[C2.o,m.o,C8.o,←A2.o,A3.o]
     ·rw[m.o]
     ·rw[HW.o];refine za9 (zah (zfp L.o ?_) (zaa _ _)) (show w.heap.size≤A.heap.size+3 by omega);intro k r;have:=(L.o.lt k r).1;omega
     ·intro x D;rw[HW.o];exact OwnR.base (OwnR.below (OwnR.set3 (A1.o x D) (by omega)) (zaa _ _)) (by omega)
    |some nt=>
     obtain⟨n,t⟩:=nt;rw[zp7,hrun] at hT;obtain⟨rfl,E1,tm,tr,rfl,C9,ht⟩:=hT;have hn:=zdi (logOf d C) B 24 pos (zcu B) n t (by rw[za4];omega) hrun;rw[za4] at hn;have C1:Hid (scanP (logOf d C) n (B+1) (q.map (·.t)++[t])=zbw d):=by rw[Hid,←O.o,scanP.eq_def (logOf d C) pos,dif_pos hlt,hrun]
     have A7:Hid (OwnR K (A.heap.size+3) ⟨tm,.slice none 0 0,tr,t⟩):=C9.base (by omega);obtain⟨z,s,F1⟩:∃z s,t=txW B z s:=⟨_,_,ht⟩;subst F1;obtain⟨ma,mc,_,_,ra,rc,e1,_,e3,_⟩:=A7.o.tx;simp only at e1 e3;subst e1 e3;have D4:=zab E1;clear hrun O I C9 ht E1;have B0:w.heap.size+1<K.heap.size:=by omega
     have B7:A.heap.size+1<K.heap.size:=by omega
     have F5:q.length≤24:=by omega
     obtain⟨⟨i,Z,x2⟩,l⟩:=zyt R.o;go_wp2_with (at_builtin;refine zsl rfl _ _ rfl (A.heap.size+3) _ q rfl (zah L.o (zae (zaa _ _) (zaa _ _))) (K.heap.size+1) ⟨.slice ma (txW B z s).info.length mc,.slice none 0 0,.slice ra (txW B z s).rev.length rc,txW B z s⟩ rfl (z5d (by simp[go_sem,txW]) (by simp[go_sem,txW]) (by simp[go_sem,txW]) (by simp[go_sem,txW]) (by simp[go_sem,txW]) (by simp[go_sem,txW]) (by simp[go_sem,txW]) (by simp[go_sem,txW]) (by simp[go_sem,txW]) (by simp[go_sem,txW])) A7.o.one (by omega) (by simp;omega) ?_);intro v3 w3 C4 Y;obtain⟨y,A0⟩:∃y,y=q++[(⟨.slice ma (txW B z s).info.length mc,.slice none 0 0,.slice ra (txW B z s).rev.length rc,txW B z s⟩:RX)]:=⟨_,rfl⟩;have B5:y.length=q.length+1:=by rw[A0];simp
     have A8:=zyq C4 (show _=y.length by simp[A0]);rw[←A0] at A8;have S:Below K.heap.size K _:=zae (zaa K (.cells #[.int .i64 B,.slice ma z.length mc,.slice none 0 0,.slice ra s.length rc,.bool false,.int .i64 0,.bool false,.int .i64 0,.bool false,.int .i64 0] 40 (0,0))) (zaa _ (.cells #[.int .i64 B,.slice ma z.length mc,.slice none 0 0,.slice ra s.length rc,.bool false,.int .i64 0,.bool false,.int .i64 0,.bool false,.int .i64 0] 40 (0,0)));have A5:∀k,(Value.slice U q.length X).ownBlock=some k→A.heap.size+3≤k:=fun k r=>(L.o.lt k r).1;have G5:K.heap.size+2≤w3.heap.size:=by have:=Y.size;simpa using this
     have E5:Hid (∀x∈y,OwnR w3 (A.heap.size+3) x):=by
      intro x D;rw[A0] at D
      have E4:OwnR K (A.heap.size+3) x:=by
       rcases List.mem_append.1 D with h|h
       ·exact A1.o x h
       ·rw[List.mem_singleton.1 h];exact A7.o
      exact(E4.below S).grown (zah L.o S) Y
     have E3:Hid (scanP (logOf d C) n (B+1) (y.map (·.t))=zbw d):=by rw[Hid,A0,List.map_append];exact C1.o
     have D6:Hid (B+1=u+(y.length:Int)):=by rw[Hid,B5,A2.o];omega
     have E6:Hid (w3.heap[w.heap.size+1]?=_):=(Y.block _ (by simp;omega) (fun e=>by have:=A5 _ e.symm;omega)).trans (zad S B0 j.o);have E0:Hid (w3.heap[A.heap.size+1]?=_):=(Y.block _ (by simp;omega) (fun e=>by have:=A5 _ e.symm;omega)).trans (zad S B7 R.o);have B4:Hid (Rd w3 (A.heap.size+1+1) a c a' c' d C n):=(D4.o.below S).grown Y (fun k r=>by have:=A5 k r;omega);have F2:Hid (Below w.heap.size w w3):=(zae A6.o S).grown Y (zae A6.o S).size (fun k r=>by have:=A5 k r;omega);have C6:=zab A8
     obtain⟨B8,B6,E8⟩:∃B8 B6,v3=.slice B8 y.length B6:=by
      rcases A8.2 with⟨e,h0⟩|⟨g,cap,cur,e,_⟩
      ·exact absurd h0 (by omega)
      ·exact⟨_,_,e⟩
     subst E8;obtain⟨M,J⟩:∃M:Nat,M=(C+n)%24:=⟨_,rfl⟩;have A3:=zab J;have B2:=B4.o;rw[Rd,←J] at B2;obtain⟨⟨r0,r1,r2,r3⟩,rf⟩:=z3q B2;have G7:IntKind.i64.wrap (B+1)=B+1:=by rw[IntKind.wrap_i64];have:=A2.o;omega
     clear i Z x2 l A0 C4 A8 S A5 Y A1 A7 C1 j R D4 A6 L J B2 B5;obtain⟨⟨i,Z,x2⟩,l⟩:=zyt E0.o;have G6:A.heap.size+1<w3.heap.size:=by omega
     have F9:A.heap.size+1+1<w3.heap.size:=by omega
     have C3:y.length≤n:=by have h1:=D6.o;have h2:=A2.o;omega
     go_wp2;clear i Z x2 l r0 r1 r2 r3 rf;refine⟨⟨_,_,_,_,_,_,_,_,_,_,_,_,_,_,_,_,_,_,_,_,_,_,_,_,_,_,_,_,_,?rel,rfl⟩,?measure⟩
     case rel=>exact⟨n,B+1,y,B8,B6,hn.2,D6.o,C3,E3,((B4.o.setNe (p:=⟨A.heap.size+1,0,none⟩) (by simp) _).setNe (p:=⟨A.heap.size+1,1,none⟩) (by simp) _).setNe (p:=⟨A.heap.size+1,2,none⟩) (by simp) _,((F2.o.setCell (p:=⟨A.heap.size+1,0,none⟩) (by simp;omega) _).setCell (p:=⟨A.heap.size+1,1,none⟩) (by simp;omega) _).setCell (p:=⟨A.heap.size+1,2,none⟩) (by simp;omega) _,by simp[World.setCell];omega,(zgt (p:=⟨A.heap.size+1,2,none⟩) (by simp;omega) _).trans ((zgt (p:=⟨A.heap.size+1,1,none⟩) (by simp;omega) _).trans ((zgt (p:=⟨A.heap.size+1,0,none⟩) (by simp;omega) _).trans E6.o)),by rw[←A3.o];exact zf9 E0.o _ _ _,zfp C6.o (fun k r=>by have:=(C6.o.lt k r).1;omega),fun x D=>(E5.o x D).set3 (by omega)⟩
     case measure=>
      rw[(((B4.o.setNe (p:=⟨A.heap.size+1,0,none⟩) (by simp) _).setNe (p:=⟨A.heap.size+1,1,none⟩) (by simp) _).setNe (p:=⟨A.heap.size+1,2,none⟩) (by simp) _).left];omega
   ·have m:Hid (zbw d=(q.map (·.t),pos)):=by rw[Hid,←O.o,scanP,dif_neg hlt]
    have j:=KB;have R:=KF;have L:=HO;have A1:=HX;clear KB KF HO HX O;have B0:w.heap.size+1<wr.heap.size:=by omega
    have B7:A.heap.size+1<wr.heap.size:=by omega
    obtain⟨M,J⟩:∃M:Nat,M=(C+pos)%24:=⟨_,rfl⟩;rw[←J] at R;have A3:=zab J;clear J;obtain⟨⟨z0,z1,z2⟩,zf⟩:=zyt j.o;obtain⟨⟨i,Z,x2⟩,l⟩:=zyt R.o;go_wp2;clear i Z x2 l;obtain⟨W,Q⟩:∃W,W=(((wr.setCell ⟨w.heap.size+1,0,none⟩ (.slice U q.length X)).setCell ⟨w.heap.size+1,1,none⟩ (.int .i64 B)).setCell ⟨w.heap.size+1,2,none⟩ (.int .i64 (M:Int))):=⟨_,rfl⟩;have F:=zf9 j.o (.slice U q.length X) (.int .i64 B) (.int .i64 (M:Int));rw[←Q] at F;obtain⟨⟨y0,y1,y2⟩,_⟩:=zyt F;have HW:=zab Q;rw[←Q];clear Q F z0 z1 z2 zf;refine bodyPost_ret (v:=.tuple #[.agg #[.slice U q.length X,.int .i64 B,.int .i64 (M:Int)],.int .i64 0]) (by simp[results,results76,go_sem,y0,y1,y2]) rfl ?_;rw[ScPost,D5.o];refine⟨_,rfl,?_,fun h=>absurd rfl h,fun _=>⟨q,U,X,?_,?_,?_,?_⟩⟩
    ·rw[HW.o];exact((HB.o.setCell (p:=⟨w.heap.size+1,0,none⟩) (by simp) _).setCell (p:=⟨w.heap.size+1,1,none⟩) (by simp) _).setCell (p:=⟨w.heap.size+1,2,none⟩) (by simp) _
    ·rw[C2.o,m.o,C8.o,←A2.o,A3.o]
    ·rw[m.o]
    ·rw[HW.o];refine za9 (zfp L.o ?_) (show w.heap.size≤A.heap.size+3 by omega);intro k r;have:=(L.o.lt k r).1;omega
    ·intro x D;rw[HW.o];exact OwnR.base (OwnR.set3 (A1.o x D) (by omega)) (by omega)
 ·have G2:(scanE d !=0)=true:=by simpa using hE
  have HE:=zab hE;clear B9 hE;generalize hEE:scanE d=E at *;have E7:=zab hEE;clear hEE;obtain⟨⟨z0,z1,z2⟩,zf⟩:=zyt KB.o;go_wp2;obtain⟨W,Q⟩:∃W,W=((((A.setCell ⟨w.heap.size+1,0,none⟩ (.slice none 0 0)).setCell ⟨w.heap.size+1,1,none⟩ (.int .i64 0)).setCell ⟨w.heap.size+1,2,none⟩ (.int .i64 0)).alloc (.cells #[.int .i64 k,.int .i64 u,.int .i64 p,.slice a2 n2 c2,.slice a3 n3 c3] 119)):=⟨_,rfl⟩;have F:=zuq KB.o (.slice none 0 0) (.int .i64 0) (.int .i64 0) (.cells #[.int .i64 k,.int .i64 u,.int .i64 p,.slice a2 n2 c2,.slice a3 n3 c3] 119);rw[←Q] at F;obtain⟨⟨y0,y1,y2⟩,_⟩:=zyt F;have HW:=zab Q;rw[←Q];clear Q F z0 z1 z2 zf;refine bodyPost_ret (v:=.tuple #[.agg #[.slice none 0 0,.int .i64 0,.int .i64 0],.int .i64 E]) (by simp[results,results76,go_sem,y0,y1,y2]) rfl ?_;rw[ScPost,E7.o];refine⟨_,rfl,?_,fun _=>rfl,fun h=>absurd h HE.o⟩;rw[HW.o];exact(((B1.o.setCell (p:=⟨w.heap.size+1,0,none⟩) (by simp) _).setCell (p:=⟨w.heap.size+1,1,none⟩) (by simp) _).setCell (p:=⟨w.heap.size+1,2,none⟩) (by simp) _).alloc (by simp[World.setCell];omega) _
end Go.Proofs.YtjnpndfpajjihacGreat


namespace Go.Proofs.YtjnpndfpajjihacGreat
open Go.RowKit
theorem zyw (log:List ByteArray):∀(f pos:Nat) (seq:Int) (acc:List Tx),log.length - pos≤f→(scanP log pos seq acc).1.length≤acc.length+f:=by
 intro f
 induction f with
 |zero=>
  intro pos seq acc A;rw[scanP];split
  ·rw[ze8,dif_neg (by omega)];exact Nat.le_refl _
  ·exact Nat.le_refl _
 |succ f ih=>
  intro pos seq acc A;rw[scanP];split
  ·split
   ·exact Nat.le_add_right _ _
   ·rename_i n t B;have hb:=zdi log seq _ pos _ n t (Nat.le_refl _) B;have:=ih n (seq+1) (acc++[t]) (by omega);rw[List.length_append,List.length_singleton] at this;omega
  ·exact Nat.le_add_right _ _
def fndL (d:Dk):List Tx:=if scanE d=0 then(zbw d).1 else[]
def fndN (d:Dk):Int:=if scanE d=0 then(zap d).seq+((zbw d).1.length:Int) else 0
def fndP (d:Dk):Int:=if scanE d=0 then((((zap d).pos.toNat+(zbw d).2)%24:Nat):Int) else 0
theorem zom (d:Dk):(fndL d).length≤24:=by
 unfold fndL;split
 ·have:=zyw (logOf d (zap d).pos) 24 0 (zap d).seq [] (by rw[za4];omega)
  simpa[zbw] using this
 ·exact Nat.zero_le _
theorem ScPost.found {w w':World}{d:Dk}{e:Ending}(h:ScPost w w' d e):∃va vc,e=.returned (.tuple #[.agg #[.slice va (fndL d).length vc,.int .i64 (fndN d),.int .i64 (fndP d)],.int .i64 (scanE d)])∧SegTx w' va (fndL d)∧Below w.heap.size w w':=by
 obtain⟨v,rfl,hb,I,E⟩:=h;by_cases hE:scanE d=0
 ·obtain⟨q,va,vc,rfl,D,J,K⟩:=E hE;obtain⟨a,c,C,F,_⟩:=SegTx.of_owns J K;simp only[Value.slice.injEq] at C;obtain⟨rfl,_,rfl⟩:=C;have B:fndL d=q.map (·.t):=by rw[fndL,if_pos hE,D]
  have A:q.length=(zbw d).1.length:=by rw[←D,List.length_map]
  refine⟨va,vc,?_,by rw[B];exact F,hb⟩;rw[B,fndN,fndP,if_pos hE,if_pos hE,List.length_map,A]
 ·rw[I hE];refine⟨none,0,?_,.inl (by rw[fndL,if_neg hE]),hb⟩;rw[fndL,fndN,fndP,if_neg hE,if_neg hE,if_neg hE];rfl
end Go.Proofs.YtjnpndfpajjihacGreat

