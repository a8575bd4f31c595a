/-
  
-/
import Derived.Test.YtjnpndfpajjihacGreatXScanC
import Derived.Test.YtjnpndfpajjihacGreatGrTopMemory19
set_option maxRecDepth 100000
set_option maxHeartbeats 40000000
namespace Go.Proofs.YtjnpndfpajjihacGreat
open Go.RowKit
theorem zpl (w:World)(base:Nat){ops:Array Oper}{rest:List Oper}{o:Oper}{a:Act}{Q:Exit→Act→World→Prop}(hgd:o.guard=none)(s x:Operand)
  (ho:o.op=.call {callee:=.builtin .append,args:=#[s,x],argTypes:=#[35,35]})
  (v:Value) (q:List Int) (hs:a.eval s=v) (hown:w.ownsRow base 3 1 v q.length (cellsI q)) (ao:Option Addr) (c:Nat) (l:List Int) (hx:a.eval x=.slice ao l.length c) (hS:SegI w ao l)
  (hn:q.length+l.length≤1000) (hbase:base≤w.heap.size)
  (h:∀v' w',Hid (w'.ownsRow base 3 1 v' (q++l).length (cellsI (q++l)))→w.grownBy w' v.ownBlock→wpList Tryz.prog ops Q rest (a.put o.dst v') w'):wpList Tryz.prog ops Q (o::rest) a w:=by
 obtain⟨i0,hi,hz0,hz1,hz2⟩:=info_parts zrs
 cases ao with
 |none=>
  have h0:l=[]:=by rcases hS with h|⟨b,off,he,_⟩;exact h;cases he
  subst h0;refine Lib.wpList_append_run w hgd s x _ _ ho _ _ hs hx v w (zgj w base o.type v q.length c (cellsI q) hown) (h v w ?_ ⟨rfl,rfl,rfl,Nat.le_refl _,fun _ _ _=>rfl⟩);rw[List.append_nil];exact hown
 |some ad=>
  refine wpList_append_own w hgd s x 35 ho base 3 i0 (.int .i64 0) 1 8 Tryz.underlying35 hi hz0 hz1 hz2 rfl (by decide) v q.length (cellsI q) hs hown ad l.length c (cellsI l) hx (zdi l) ?_ zje (by unfold maxLen;omega) (by omega) hbase ?_
  ·intro j u hj
   rcases hS with h|⟨b,off,he,hlt,hc⟩
   ·rw[h] at hj;simp[cellsI] at hj
   ·cases he
    rw[Addr.add_lit];exact SegI.news hc j u hj
  ·intro v' w' k1 k2 _
   refine h v' w' ?_ k2;rw[Hid,zfm,List.length_append];exact k1
theorem zpm (w:World)(base:Nat){ops:Array Oper}{rest:List Oper}{o:Oper}{a:Act}{Q:Exit→Act→World→Prop}(hgd:o.guard=none)(s x:Operand)
  (ho:o.op=.call {callee:=.builtin .append,args:=#[s,x],argTypes:=#[34,34]})
  (v:Value) (q:List (Int×ByteArray)) (hs:a.eval s=v) (hown:w.ownsRow base 84 2 v q.length (cellsC q)) (ao:Option Addr) (c:Nat) (l:List (Int×ByteArray)) (hx:a.eval x=.slice ao l.length c) (hS:SegW w ao l)
  (hn:q.length+l.length≤1000) (hbase:base≤w.heap.size)
  (h:∀v' w',Hid (w'.ownsRow base 84 2 v' (q++l).length (cellsC (q++l)))→w.grownBy w' v.ownBlock→wpList Tryz.prog ops Q rest (a.put o.dst v') w'):wpList Tryz.prog ops Q (o::rest) a w:=by
 obtain⟨i0,hi,hz0,hz1,hz2⟩:=info_parts zuv
 cases ao with
 |none=>
  have h0:l=[]:=by rcases hS with h|⟨b,off,he,_⟩;exact h;cases he
  subst h0;refine Lib.wpList_append_run w hgd s x _ _ ho _ _ hs hx v w (zgi w base o.type v q.length c (cellsC q) hown) (h v w ?_ ⟨rfl,rfl,rfl,Nat.le_refl _,fun _ _ _=>rfl⟩);rw[List.append_nil];exact hown
 |some ad=>
  refine wpList_append_own w hgd s x 34 ho base 84 i0 (.agg #[.int .i64 0,.string ⟨#[]⟩]) 2 24 Tryz.underlying34 hi hz0 hz1 hz2 rfl (by decide) v q.length (cellsC q) hs hown ad l.length c (cellsC l) hx (zdj l) ?_ (zg4 l) (by unfold maxLen;omega) (by omega) hbase ?_
  ·intro j u hj
   rcases hS with h|⟨b,off,he,hlt,hc⟩
   ·rw[h] at hj;simp[cellsC] at hj
   ·cases he
    rw[Addr.add_lit];exact SegC.news hc j u hj
  ·intro v' w' k1 k2 _
   refine h v' w' ?_ k2;rw[Hid,zdk,List.length_append];exact k1
theorem zt6 {w:World}{B:Nat}{u0 u1 u2 u3 u4 u5 u6 u7 u8 u9:Value}{t:TypeId}(h:w.heap[B]?=some (.cells #[u0,u1,u2,u3,u4,u5,u6,u7,u8,u9] t (0,0)))(v0 v1 v2 v3 v4 v5 v6 v7 v8 v9:Value):
  (((((((((((w.setCell ⟨B,0,none⟩ v0).setCell ⟨B,1,none⟩ v1).setCell ⟨B,2,none⟩ v2).setCell ⟨B,3,none⟩ v3).setCell ⟨B,4,none⟩ v4).setCell ⟨B,5,none⟩ v5).setCell ⟨B,6,none⟩ v6).setCell ⟨B,7,none⟩ v7).setCell ⟨B,8,none⟩ v8).setCell ⟨B,9,none⟩ v9)).heap[B]?=some (.cells #[v0,v1,v2,v3,v4,v5,v6,v7,v8,v9] t (0,0)):=by
 have h0:(w.setCell ⟨B,0,none⟩ v0).heap[B]?=some (.cells #[v0,u1,u2,u3,u4,u5,u6,u7,u8,u9] t (0,0)):=heap_setCell_same _ B 0 _ _ v0 h;have h1:((w.setCell ⟨B,0,none⟩ v0).setCell ⟨B,1,none⟩ v1).heap[B]?=some (.cells #[v0,v1,u2,u3,u4,u5,u6,u7,u8,u9] t (0,0)):=heap_setCell_same _ B 1 _ _ v1 h0;have h2:(((w.setCell ⟨B,0,none⟩ v0).setCell ⟨B,1,none⟩ v1).setCell ⟨B,2,none⟩ v2).heap[B]?=some (.cells #[v0,v1,v2,u3,u4,u5,u6,u7,u8,u9] t (0,0)):=heap_setCell_same _ B 2 _ _ v2 h1;have h3:((((w.setCell ⟨B,0,none⟩ v0).setCell ⟨B,1,none⟩ v1).setCell ⟨B,2,none⟩ v2).setCell ⟨B,3,none⟩ v3).heap[B]?=some (.cells #[v0,v1,v2,v3,u4,u5,u6,u7,u8,u9] t (0,0)):=heap_setCell_same _ B 3 _ _ v3 h2;have h4:(((((w.setCell ⟨B,0,none⟩ v0).setCell ⟨B,1,none⟩ v1).setCell ⟨B,2,none⟩ v2).setCell ⟨B,3,none⟩ v3).setCell ⟨B,4,none⟩ v4).heap[B]?=some (.cells #[v0,v1,v2,v3,v4,u5,u6,u7,u8,u9] t (0,0)):=heap_setCell_same _ B 4 _ _ v4 h3;have h5:((((((w.setCell ⟨B,0,none⟩ v0).setCell ⟨B,1,none⟩ v1).setCell ⟨B,2,none⟩ v2).setCell ⟨B,3,none⟩ v3).setCell ⟨B,4,none⟩ v4).setCell ⟨B,5,none⟩ v5).heap[B]?=some (.cells #[v0,v1,v2,v3,v4,v5,u6,u7,u8,u9] t (0,0)):=heap_setCell_same _ B 5 _ _ v5 h4;have h6:(((((((w.setCell ⟨B,0,none⟩ v0).setCell ⟨B,1,none⟩ v1).setCell ⟨B,2,none⟩ v2).setCell ⟨B,3,none⟩ v3).setCell ⟨B,4,none⟩ v4).setCell ⟨B,5,none⟩ v5).setCell ⟨B,6,none⟩ v6).heap[B]?=some (.cells #[v0,v1,v2,v3,v4,v5,v6,u7,u8,u9] t (0,0)):=heap_setCell_same _ B 6 _ _ v6 h5;have h7:((((((((w.setCell ⟨B,0,none⟩ v0).setCell ⟨B,1,none⟩ v1).setCell ⟨B,2,none⟩ v2).setCell ⟨B,3,none⟩ v3).setCell ⟨B,4,none⟩ v4).setCell ⟨B,5,none⟩ v5).setCell ⟨B,6,none⟩ v6).setCell ⟨B,7,none⟩ v7).heap[B]?=some (.cells #[v0,v1,v2,v3,v4,v5,v6,v7,u8,u9] t (0,0)):=heap_setCell_same _ B 7 _ _ v7 h6;have h8:(((((((((w.setCell ⟨B,0,none⟩ v0).setCell ⟨B,1,none⟩ v1).setCell ⟨B,2,none⟩ v2).setCell ⟨B,3,none⟩ v3).setCell ⟨B,4,none⟩ v4).setCell ⟨B,5,none⟩ v5).setCell ⟨B,6,none⟩ v6).setCell ⟨B,7,none⟩ v7).setCell ⟨B,8,none⟩ v8).heap[B]?=some (.cells #[v0,v1,v2,v3,v4,v5,v6,v7,v8,u9] t (0,0)):=heap_setCell_same _ B 8 _ _ v8 h7
 have h9:((((((((((w.setCell ⟨B,0,none⟩ v0).setCell ⟨B,1,none⟩ v1).setCell ⟨B,2,none⟩ v2).setCell ⟨B,3,none⟩ v3).setCell ⟨B,4,none⟩ v4).setCell ⟨B,5,none⟩ v5).setCell ⟨B,6,none⟩ v6).setCell ⟨B,7,none⟩ v7).setCell ⟨B,8,none⟩ v8).setCell ⟨B,9,none⟩ v9).heap[B]?=some (.cells #[v0,v1,v2,v3,v4,v5,v6,v7,v8,v9] t (0,0)):=heap_setCell_same _ B 9 _ _ v9 h8;exact h9
theorem ziq {w:World}{B:Nat}{u0 u1 u2 u3 u4 u5 u6 u7 u8 u9:Value}{t:TypeId}(h:w.heap[B]?=some (.cells #[u0,u1,u2,u3,u4,u5,u6,u7,u8,u9] t (0,0)))(v0 v1 v2 v3 v4 v5 v6 v7 v8 v9:Value)(o:Obj):
  (((((((((((w.setCell ⟨B,0,none⟩ v0).setCell ⟨B,1,none⟩ v1).setCell ⟨B,2,none⟩ v2).setCell ⟨B,3,none⟩ v3).setCell ⟨B,4,none⟩ v4).setCell ⟨B,5,none⟩ v5).setCell ⟨B,6,none⟩ v6).setCell ⟨B,7,none⟩ v7).setCell ⟨B,8,none⟩ v8).setCell ⟨B,9,none⟩ v9).alloc o).heap[B]?=some (.cells #[v0,v1,v2,v3,v4,v5,v6,v7,v8,v9] t (0,0)):=by
 have h9:=zt6 h v0 v1 v2 v3 v4 v5 v6 v7 v8 v9;exact zad (zab _ o) (Array.getElem?_eq_some_iff.1 h9).1 h9
theorem zx1 {w:World}{base:Nat}{e:TypeId}{size:Nat}{v:Value}{n m:Nat}{xs:List Value}(h:w.ownsRow base e size v n xs)(hn:n=m):w.ownsRow base e size v m xs:=hn▸h
theorem zgk {w:World}{B:Nat}{p:Addr}(h:B≠p.block)(u:Value):(w.setCell p u).heap[B]?=w.heap[B]?:=by
 rw[World.setCell];simp only[Array.getElem?_modify];rw[if_neg (fun x=>h x.symm)]
theorem zx2 {log:List ByteArray}{j:Nat}(h:j<log.length)(seq:Int)(t:Tx){mk:Mk}{er:Int}(hM:(mk,er)=zaq (log.getD j ByteArray.empty)):
  zex log seq j t=if er≠0∨mk.seq≠seq∨mk.kind=1 then none else if mk.kind=4 then some (j+1,t) else if j+1+mk.tags.length≤log.length then zex log seq (j+1+mk.tags.length) (more log j t mk) else none:=by
 rw[zex,dif_pos h,←hM]
def txW (seq:Int)(info:List (Int×ByteArray))(rev:List Int):Tx:=⟨seq,info,[],rev,⟨false,0⟩,⟨false,0⟩,⟨false,0⟩⟩
theorem zt7 (log:List ByteArray)(i:Nat)(seq:Int)(info:List (Int×ByteArray))(rev:List Int)(m:Mk):more log i (txW seq info rev) m=txW seq (info++copiesAt log (i+1) m.tags) (rev++m.blocks):=rfl
theorem zkr {s:ByteArray}(h:(zaq s).2=0):goodM (zaq s).1=0:=by
 unfold zaq at h⊢;split at h
 ·rename_i hc
  rw[if_pos hc];exact hc.2.1
 ·cases h
theorem zx3 {m:Mk}(h:goodM m=0):(m.kind=1∨m.kind=2∨m.kind=3∨m.kind=4)∧(m.kind≠2→m.tags=[])∧(m.kind≠3→m.blocks=[])∧(m.kind=2→m.tags.length≤10)∧(m.kind=3→m.blocks.length≤20):=by
 unfold goodM at h;split at h
 ·cases h
 ·split at h
  ·cases h
  ·split at h
   ·cases h
   ·split at h
    ·cases h
    ·rename_i h1 _ h3 h4
     refine⟨by omega,fun hk=>?_,fun hk=>?_,fun hk=>?_,fun hk=>?_⟩
     ·by_cases ht:m.tags=[]
      ·exact ht
      ·exact absurd (.inr (.inl ⟨hk,ht⟩)) h3
     ·by_cases ht:m.blocks=[]
      ·exact ht
      ·exact absurd (.inr (.inr ⟨hk,ht⟩)) h3
     ·by_cases ht:m.tags.length≤10
      ·exact ht
      ·exact absurd (.inl ⟨hk,.inr (by omega)⟩) h4
     ·by_cases ht:m.blocks.length≤20
      ·exact ht
      ·exact absurd (.inr (.inl ⟨hk,.inr (by omega)⟩)) h4
def zpn (w w':World)(R:Nat)(a:Option Addr)(c:Nat)(a':Option Addr)(c':Nat)(d:Dk)(p0 i:Nat)(seq:Int)(v:Value)(b:Bool):Prop:=
 match zex (logOf d p0) seq i (zds seq) with
 |none=>b=false∧v=.agg #[.int .i64 0,.slice none 0 0,.slice none 0 0,.slice none 0 0,.bool false,.int .i64 0,.bool false,.int .i64 0,.bool false,.int .i64 0]
 |some (n,t)=>b=true∧Rd w' R a c a' c' d p0 n∧∃m r,v=.agg #[.int .i64 seq,m,.slice none 0 0,r,.bool false,.int .i64 0,.bool false,.int .i64 0,.bool false,.int .i64 0]∧OwnR w' w.heap.size ⟨m,.slice none 0 0,r,t⟩∧t=txW seq t.info t.rev
def z3q (w w':World)(R:Nat)(a:Option Addr)(c:Nat)(a':Option Addr)(c':Nat)(d:Dk)(p0 i:Nat)(seq:Int)(e:Ending):Prop:=∃v b,e=.returned (.tuple #[v,.bool b])∧But R w.heap.size w w'∧zpn w w' R a c a' c' d p0 i seq v b
theorem zve (R:Nat)(a:Option Addr)(c:Nat)(a':Option Addr)(c':Nat)(d:Dk)(p0 i:Nat)(seq:Int)(w w0:World)(hR:Rd w R a c a' c' d p0 i)(hi:i≤24)(hD:IsDk w0 (.agg #[.slice a d.safe.length c,.slice a' d.wr.length c']) d)(hg:za1 d=true)(hb:Below w0.heap.size w0 w)(hR0:w0.heap.size≤R):
  Calls Tryz.prog 114 #[.pointer (some ⟨R,0,none⟩),.int .i64 seq] w fun e w'=>z3q w w' R a c a' c' d p0 i seq e:=by
 have hRl:=hR.lt;have HD:=zaa hD;have HBW:=zaa hb;have HR:=zaa hR;clear hD hb hR;go_enter Tryz.func114,Tryz.ntmps114;go_wp2
 go_loopw [8] (fun _ wr=>∃(j:Nat) (info:List (Int×ByteArray)) (rev:List Int) (ma:Option Addr) (mc:Nat) (ra:Option Addr) (rc:Nat),i≤j∧j≤24∧info.length≤j∧rev.length≤20*j∧Hid (zex (logOf d p0) seq i (zds seq)=zex (logOf d p0) seq j (txW seq info rev))∧Hid (Rd wr R a c a' c' d p0 j)∧Hid (But R w.heap.size w wr)∧w.heap.size+1<wr.heap.size∧
   Hid (wr.heap[w.heap.size]?=some (.cells #[.int .i64 0,.slice none 0 0,.slice none 0 0,.slice none 0 0,.bool false,.int .i64 0,.bool false,.int .i64 0,.bool false,.int .i64 0] 40 (0,0)))∧Hid (wr.heap[w.heap.size+1]?=some (.cells #[.int .i64 seq,.slice ma info.length mc,.slice none 0 0,.slice ra rev.length rc,.bool false,.int .i64 0,.bool false,.int .i64 0,.bool false,.int .i64 0] 40 (0,0)))∧Hid (wr.ownsRow (w.heap.size+2) 84 2 (.slice ma info.length mc) info.length (cellsC info))∧Hid (wr.ownsRow (w.heap.size+2) 3 1 (.slice ra rev.length rc) rev.length (cellsI rev)))
  (fun _ wr=>match wr.cell? ⟨R,3,none⟩ with|some (.int _ n)=>n.toNat|_=>0)
 case atStart=>exact⟨i,[],[],none,0,none,0,Nat.le_refl _,hi,Nat.zero_le _,Nat.zero_le _,rfl,HR.o.below (zae (zab _ _) (zab _ _)),But.of_below (zae (zab _ _) (zab _ _)),by simp,zf9 (Below.refl _ _),zg3 (Below.refl _ _),World.ownsRow_nil _ _ _ _,World.ownsRow_nil _ _ _ _⟩
 case round=>
  obtain⟨j,info,rev,ma,mc,ra,rc,hij,hj,hil,hrl,HRUN,HRr,HB,hsz,KB,KT,HOM,HOR⟩:=hrel;have hMEAS:(match wr.cell? ⟨R,3,none⟩ with|some (.int _ n)=>n.toNat|_=>0)=24 - j:=by rw[(z2o HRr.o).1.2.2.2];simp
  rw[hMEAS];have HBW1:Hid (Below w0.heap.size w0 wr):=HB.o.below HBW.o HBW.o.size hR0;by_cases hend:j=24
  ·subst hend
   have HNO:Hid (zex (logOf d p0) seq i (zds seq)=none):=by rw[Hid,HRUN.o,zex,dif_neg (by rw[za6];omega)]
   clear hMEAS;go_wp2_with fail;refine(zxw R a c a' c' d p0 seq _ HRr.o).mono ?_;rintro e w1 ⟨rfl,hb1⟩;have HB1:Hid (But R w.heap.size w w1):=HB.o.trans (But.of_below hb1) HB.o.size;have KB1:=zaa (zad hb1 (by omega) KB.o);have hsz1:w.heap.size+1<w1.heap.size:=Nat.lt_of_lt_of_le hsz hb1.size;have hsz1':w.heap.size<w1.heap.size:=by omega
   clear hb1 HRr KB KT HOM HOR HB;obtain⟨⟨z0,z1,z2,z3,z4,z5,z6,z7,z8,z9⟩,zf⟩:=zai KB1.o;go_wp2;obtain⟨W,hW⟩:∃W,W=(((((((((((w1.setCell ⟨w.heap.size,0,none⟩ (.int .i64 0)).setCell ⟨w.heap.size,1,none⟩ (.slice none 0 0)).setCell ⟨w.heap.size,2,none⟩ (.slice none 0 0)).setCell ⟨w.heap.size,3,none⟩ (.slice none 0 0)).setCell ⟨w.heap.size,4,none⟩ (.bool false)).setCell ⟨w.heap.size,5,none⟩ (.int .i64 0)).setCell ⟨w.heap.size,6,none⟩ (.bool false)).setCell ⟨w.heap.size,7,none⟩ (.int .i64 0)).setCell ⟨w.heap.size,8,none⟩ (.bool false)).setCell ⟨w.heap.size,9,none⟩ (.int .i64 0)).alloc (.cells #[.int .i64 0,.int .i64 0,.int .i64 0,.slice none 0 0,.slice none 0 0] 119)):=⟨_,rfl⟩;have hbx:=ziq KB1.o (.int .i64 0) (.slice none 0 0) (.slice none 0 0) (.slice none 0 0) (.bool false) (.int .i64 0) (.bool false) (.int .i64 0) (.bool false) (.int .i64 0) (.cells #[.int .i64 0,.int .i64 0,.int .i64 0,.slice none 0 0,.slice none 0 0] 119);rw[←hW] at hbx;obtain⟨⟨y0,y1,y2,y3,y4,y5,y6,y7,y8,y9⟩,_⟩:=zai hbx;have HW:=zaa hW;rw[←hW];clear hW hbx z0 z1 z2 z3 z4 z5 z6 z7 z8 z9 zf;refine bodyPost_ret (v:=.tuple #[.agg #[.int .i64 0,.slice none 0 0,.slice none 0 0,.slice none 0 0,.bool false,.int .i64 0,.bool false,.int .i64 0,.bool false,.int .i64 0],.bool false]) (by simp[results,Tryz.results114,go_sem,y0,y1,y2,y3,y4,y5,y6,y7,y8,y9]) rfl ?_;unfold z3q;refine⟨_,false,rfl,?_,?_⟩
   ·rw[HW.o]
    exact(But.trans ((((((((((HB1.o.setNew (p:=⟨w.heap.size,0,none⟩) (Nat.le_refl _) _).setNew (p:=⟨w.heap.size,1,none⟩) (Nat.le_refl _) _).setNew (p:=⟨w.heap.size,2,none⟩) (Nat.le_refl _) _).setNew (p:=⟨w.heap.size,3,none⟩) (Nat.le_refl _) _).setNew (p:=⟨w.heap.size,4,none⟩) (Nat.le_refl _) _).setNew (p:=⟨w.heap.size,5,none⟩) (Nat.le_refl _) _).setNew (p:=⟨w.heap.size,6,none⟩) (Nat.le_refl _) _).setNew (p:=⟨w.heap.size,7,none⟩) (Nat.le_refl _) _).setNew (p:=⟨w.heap.size,8,none⟩) (Nat.le_refl _) _).setNew (p:=⟨w.heap.size,9,none⟩) (Nat.le_refl _) _) (But.of_below (zab _ _)) (by simp[World.setCell];omega))
   ·rw[zpn,HNO.o]
    exact⟨rfl,rfl⟩
  ·have hlt:j<24:=by omega
   clear hMEAS;go_wp2_with fail;refine(zvb R a c a' c' d p0 j seq _ w0 HRr.o hlt HD.o hg HBW1.o).mono ?_;rintro e w1 ⟨v2,rfl,hN,hR1,hb1⟩;obtain⟨M,hM⟩:∃M,M=zaq ((logOf d p0).getD j ByteArray.empty):=⟨_,rfl⟩;rw[←hM] at hN⊢;obtain⟨mk,er⟩:=M;have HSTEP:=zaa (zx2 (log:=logOf d p0) (j:=j) (by rw[za6];exact hlt) seq (txW seq info rev) hM)
   have hgm:er=0→goodM mk=0:=by
    intro he;have:=zkr (s:=(logOf d p0).getD j ByteArray.empty) (by rw[←hM];exact he);rw[←hM] at this;exact this
   have HGM:=zaa hgm;clear hM hgm;obtain⟨a2,c2,a3,c3,rfl,hT,hI,n1,n2,t1,t2⟩:=hN;have hs1:=hb1.size;have HR1:=zaa hR1;have HT:=zaa hT;have HI:=zaa hI;have HTR:Hid (∀b off,a2=some ⟨b,off,none⟩→b≠R):=fun b off e=>by have:=t1 b off e;omega
   have KB1:Hid (w1.heap[w.heap.size]?=_):=(hb1.block _ (by omega) (by omega)).trans KB.o;have KT1:Hid (w1.heap[w.heap.size+1]?=_):=(hb1.block _ (by omega) (by omega)).trans KT.o;have HB1:Hid (But R w.heap.size w w1):=HB.o.trans hb1 (by omega);have HM1:=zaa (zd7 HOM.o hb1 (by omega));have HV1:=zaa (zd7 HOR.o hb1 (by omega));have hsz1:w.heap.size+1<w1.heap.size:=by omega
   have hsz1':w.heap.size<w1.heap.size:=by omega
   clear hR1 hT hI t1 t2 hb1 KB KT HB HOM HOR HRr HBW1 n1 n2;by_cases hok:er=0∧mk.seq=seq
   ·obtain⟨rfl,hq⟩:=hok
    have hfl:(decide ((0:Int)=0)&&decide (mk.seq=seq))=true:=by simp[hq]
    dsimp only;rw[hfl];obtain⟨hkind,hk2,hk3,hk4,hk5⟩:=zx3 (HGM.o rfl);have HK2:=zaa hk2;have HK3:=zaa hk3;clear hfl hk2 hk3 HGM;rcases hkind with hk|hk|hk|hk
    ·have HNO:Hid (zex (logOf d p0) seq i (zds seq)=none):=by rw[Hid,HRUN.o,HSTEP.o,if_pos (.inr (.inr hk))]
     clear HSTEP HRUN;obtain⟨⟨z0,z1,z2,z3,z4,z5,z6,z7,z8,z9⟩,zf⟩:=zai KB1.o;go_wp2;obtain⟨W,hW⟩:∃W,W=(((((((((((w1.setCell ⟨w.heap.size,0,none⟩ (.int .i64 0)).setCell ⟨w.heap.size,1,none⟩ (.slice none 0 0)).setCell ⟨w.heap.size,2,none⟩ (.slice none 0 0)).setCell ⟨w.heap.size,3,none⟩ (.slice none 0 0)).setCell ⟨w.heap.size,4,none⟩ (.bool false)).setCell ⟨w.heap.size,5,none⟩ (.int .i64 0)).setCell ⟨w.heap.size,6,none⟩ (.bool false)).setCell ⟨w.heap.size,7,none⟩ (.int .i64 0)).setCell ⟨w.heap.size,8,none⟩ (.bool false)).setCell ⟨w.heap.size,9,none⟩ (.int .i64 0)).alloc (.cells #[.int .i64 1,.int .i64 seq,.int .i64 mk.pos,.slice a2 mk.tags.length c2,.slice a3 mk.blocks.length c3] 119)):=⟨_,rfl⟩;have hbx:=ziq KB1.o (.int .i64 0) (.slice none 0 0) (.slice none 0 0) (.slice none 0 0) (.bool false) (.int .i64 0) (.bool false) (.int .i64 0) (.bool false) (.int .i64 0) (.cells #[.int .i64 1,.int .i64 seq,.int .i64 mk.pos,.slice a2 mk.tags.length c2,.slice a3 mk.blocks.length c3] 119);rw[←hW] at hbx;obtain⟨⟨y0,y1,y2,y3,y4,y5,y6,y7,y8,y9⟩,_⟩:=zai hbx;have HW:=zaa hW;rw[←hW];clear hW hbx z0 z1 z2 z3 z4 z5 z6 z7 z8 z9 zf;refine bodyPost_ret (v:=.tuple #[.agg #[.int .i64 0,.slice none 0 0,.slice none 0 0,.slice none 0 0,.bool false,.int .i64 0,.bool false,.int .i64 0,.bool false,.int .i64 0],.bool false]) (by simp[results,Tryz.results114,go_sem,y0,y1,y2,y3,y4,y5,y6,y7,y8,y9]) rfl ?_;unfold z3q;refine⟨_,false,rfl,?_,?_⟩
     ·rw[HW.o]
      exact(But.trans ((((((((((HB1.o.setNew (p:=⟨w.heap.size,0,none⟩) (Nat.le_refl _) _).setNew (p:=⟨w.heap.size,1,none⟩) (Nat.le_refl _) _).setNew (p:=⟨w.heap.size,2,none⟩) (Nat.le_refl _) _).setNew (p:=⟨w.heap.size,3,none⟩) (Nat.le_refl _) _).setNew (p:=⟨w.heap.size,4,none⟩) (Nat.le_refl _) _).setNew (p:=⟨w.heap.size,5,none⟩) (Nat.le_refl _) _).setNew (p:=⟨w.heap.size,6,none⟩) (Nat.le_refl _) _).setNew (p:=⟨w.heap.size,7,none⟩) (Nat.le_refl _) _).setNew (p:=⟨w.heap.size,8,none⟩) (Nat.le_refl _) _).setNew (p:=⟨w.heap.size,9,none⟩) (Nat.le_refl _) _) (But.of_below (zab _ _)) (by simp[World.setCell];omega))
     ·rw[zpn,HNO.o]
      exact⟨rfl,rfl⟩
    ·have htl:=hk4 hk
     have hbl:mk.blocks=[]:=HK3.o (by omega)
     have HST:Hid (zex (logOf d p0) seq j (txW seq info rev)=if j+1+mk.tags.length≤24 then zex (logOf d p0) seq (j+1+mk.tags.length) (txW seq (info++copiesAt (logOf d p0) (j+1) mk.tags) rev) else none):=by
      rw[Hid,HSTEP.o,if_neg (by simp[hq,hk]),if_neg (by omega),zt7,hbl,List.append_nil,za6]
     clear HSTEP hbl;go_wp2_with fail;refine(zr6 R a c a' c' d p0 (j+1) a2 c2 mk.tags _ w0 (HR1.o.below (zab _ _)) (by omega) HD.o hg (zae (HB1.o.below HBW.o HBW.o.size hR0) (zab _ _)) hR0 (HT.o.below (zab _ _)) HTR.o).mono ?_;rintro e w2 ⟨v2,b2,rfl,hC⟩;have hs2:w1.heap.size+1≤w2.heap.size:=by have:=hC.1.size;simpa using this
     have KB2:Hid (w2.heap[w.heap.size]?=_):=(hC.1.block _ (by simp;omega) (by omega)).trans (zad (zab _ _) hsz1' KB1.o);have KT2:Hid (w2.heap[w.heap.size+1]?=_):=(hC.1.block _ (by simp;omega) (by omega)).trans (zad (zab _ _) hsz1 KT1.o);have HB2:Hid (But R w.heap.size w w2):=(HB1.o.trans (But.of_below (zab _ _)) (by omega)).trans hC.1 (by simp;omega);have HM2:=zaa (zd7 (zah HM1.o (zab _ _)) hC.1 (by omega));have HV2:=zaa (zd7 (zah HV1.o (zab _ _)) hC.1 (by omega));have hsz2:w.heap.size+1<w2.heap.size:=by omega
     have hsz2':w.heap.size<w2.heap.size:=by omega
     have HCP:=zaa hC.2;clear hC HT HI HTR HR1 HB1 KB1 KT1 HM1 HV1;by_cases hle:j+1+mk.tags.length≤24
     ·have hc:=HCP.o
      rw[if_pos hle] at hc;obtain⟨rfl,hown,hRd⟩:=hc;have HRUN2:Hid (zex (logOf d p0) seq i (zds seq)=zex (logOf d p0) seq (j+1+mk.tags.length) (txW seq (info++copiesAt (logOf d p0) (j+1) mk.tags) rev)):=by rw[Hid,HRUN.o,HST.o,if_pos hle]
      obtain⟨ca,cc,rfl,hS,_⟩:=SegC.of_owns hown;have HS:=zaa hS;have HR2:=zaa hRd;have hcl:=zdo (logOf d p0) (j+1) mk.tags;have HCL:=zaa hcl;clear hown hS hRd HCP HST HRUN;generalize copiesAt (logOf d p0) (j+1) mk.tags=cp at *;clear hcl;obtain⟨⟨z0,z1,z2,z3,z4,z5,z6,z7,z8,z9⟩,zf⟩:=zai KT2.o;go_wp2_with (at_builtin;refine zpm _ (w.heap.size+2) rfl _ _ rfl (.slice ma info.length mc) info rfl HM2.o ca cc cp rfl HS.o (by have:=HCL.o;omega) (by omega) ?_);intro v3 w3 HO3 hg3;obtain⟨nf,hnf⟩:∃nf,nf=info++cp:=⟨_,rfl⟩;have hnfl:nf.length≤j+1+mk.tags.length:=by have:=HCL.o;rw[hnf,List.length_append];omega
      replace HO3:=zaa (zx1 HO3.o (show _=nf.length by simp[hnf]))
      rw[←hnf] at HO3 HRUN2;clear hnf;obtain⟨ma3,mc3,hv3,_,_⟩:=SegC.of_owns HO3.o;subst hv3;have hob:∀k,(Value.slice ma info.length mc).ownBlock=some k→w.heap.size+2≤k:=fun k hk=>(HM2.o.lt k hk).1;have hob3:∀k,(Value.slice ma3 nf.length mc3).ownBlock=some k→w.heap.size+2≤k:=fun k hk=>(HO3.o.lt k hk).1;have hobv:∀k,(Value.slice ra rev.length rc).ownBlock=some k→w.heap.size+2≤k:=fun k hk=>(HV2.o.lt k hk).1;have hs3:=hg3.size;have KB3:Hid (w3.heap[w.heap.size]?=_):=(hg3.block _ hsz2' (fun e=>by have:=hob _ e.symm;omega)).trans KB2.o;have KT3:Hid (w3.heap[w.heap.size+1]?=_):=(hg3.block _ hsz2 (fun e=>by have:=hob _ e.symm;omega)).trans KT2.o;have HR3:Hid (Rd w3 R a c a' c' d p0 (j+1+mk.tags.length)):=HR2.o.grown hg3 (fun k hk=>by have:=hob k hk;omega);have HB3:Hid (But R w.heap.size w w3):=HB2.o.grown hg3 (fun k hk=>by have:=hob k hk;omega) (by omega);have HV3:=zaa (zfc HV2.o HM2.o (by decide) hg3);have HOB:=zaa (And.intro hob3 hobv);clear z0 z1 z2 z3 z4 z5 z6 z7 z8 z9 zf hob hob3 hobv hg3 KB2 KT2 HB2 HM2 HV2 HR2 HS;obtain⟨⟨z0,z1,z2,z3,z4,z5,z6,z7,z8,z9⟩,zf⟩:=zai KT3.o;have hRT:R≠w.heap.size+1:=by omega
      go_wp2;clear z0 z1 z2 z3 z4 z5 z6 z7 z8 z9 zf
      go_roundw
      case rel=>exact⟨j+1+mk.tags.length,nf,rev,ma3,mc3,ra,rc,by omega,hle,hnfl,by omega,HRUN2,HR3.o.setNe hRT _,HB3.o.setNew (p:=⟨w.heap.size+1,1,none⟩) (by simp) _,by simp[World.setCell];omega,(zgk (by simp) _).trans KB3.o,heap_setCell_same _ _ 1 _ _ (.slice ma3 nf.length mc3) KT3.o,zcx HO3.o (fun k hk=>by have:=HOB.o.1 k hk;simp;omega) _,zcx HV3.o (fun k hk=>by have:=HOB.o.2 k hk;simp;omega) _⟩
      case measure=>
       rw[(z2o (HR3.o.setNe (p:=⟨w.heap.size+1,1,none⟩) hRT _)).1.2.2.2];simp;omega
     ·have hc:=HCP.o
      rw[if_neg hle] at hc;obtain⟨rfl,rfl⟩:=hc;have HNO:Hid (zex (logOf d p0) seq i (zds seq)=none):=by rw[Hid,HRUN.o,HST.o,if_neg hle]
      clear HCP HST HRUN HM2 HV2 KT2;obtain⟨⟨z0,z1,z2,z3,z4,z5,z6,z7,z8,z9⟩,zf⟩:=zai KB2.o;go_wp2;obtain⟨W,hW⟩:∃W,W=((((((((((w2.setCell ⟨w.heap.size,0,none⟩ (.int .i64 0)).setCell ⟨w.heap.size,1,none⟩ (.slice none 0 0)).setCell ⟨w.heap.size,2,none⟩ (.slice none 0 0)).setCell ⟨w.heap.size,3,none⟩ (.slice none 0 0)).setCell ⟨w.heap.size,4,none⟩ (.bool false)).setCell ⟨w.heap.size,5,none⟩ (.int .i64 0)).setCell ⟨w.heap.size,6,none⟩ (.bool false)).setCell ⟨w.heap.size,7,none⟩ (.int .i64 0)).setCell ⟨w.heap.size,8,none⟩ (.bool false)).setCell ⟨w.heap.size,9,none⟩ (.int .i64 0)):=⟨_,rfl⟩;have hbx:=zt6 KB2.o (.int .i64 0) (.slice none 0 0) (.slice none 0 0) (.slice none 0 0) (.bool false) (.int .i64 0) (.bool false) (.int .i64 0) (.bool false) (.int .i64 0);rw[←hW] at hbx;obtain⟨⟨y0,y1,y2,y3,y4,y5,y6,y7,y8,y9⟩,_⟩:=zai hbx;have HW:=zaa hW;rw[←hW];clear hW hbx z0 z1 z2 z3 z4 z5 z6 z7 z8 z9 zf;refine bodyPost_ret (v:=.tuple #[.agg #[.int .i64 0,.slice none 0 0,.slice none 0 0,.slice none 0 0,.bool false,.int .i64 0,.bool false,.int .i64 0,.bool false,.int .i64 0],.bool false]) (by simp[results,Tryz.results114,go_sem,y0,y1,y2,y3,y4,y5,y6,y7,y8,y9]) rfl ?_;unfold z3q;refine⟨_,false,rfl,?_,?_⟩
      ·rw[HW.o]
       exact((((((((((HB2.o.setNew (p:=⟨w.heap.size,0,none⟩) (Nat.le_refl _) _).setNew (p:=⟨w.heap.size,1,none⟩) (Nat.le_refl _) _).setNew (p:=⟨w.heap.size,2,none⟩) (Nat.le_refl _) _).setNew (p:=⟨w.heap.size,3,none⟩) (Nat.le_refl _) _).setNew (p:=⟨w.heap.size,4,none⟩) (Nat.le_refl _) _).setNew (p:=⟨w.heap.size,5,none⟩) (Nat.le_refl _) _).setNew (p:=⟨w.heap.size,6,none⟩) (Nat.le_refl _) _).setNew (p:=⟨w.heap.size,7,none⟩) (Nat.le_refl _) _).setNew (p:=⟨w.heap.size,8,none⟩) (Nat.le_refl _) _).setNew (p:=⟨w.heap.size,9,none⟩) (Nat.le_refl _) _)
      ·rw[zpn,HNO.o]
       exact⟨rfl,rfl⟩
    ·have hbl2:=hk5 hk
     have htg:mk.tags=[]:=HK2.o (by omega)
     have HRUN2:Hid (zex (logOf d p0) seq i (zds seq)=zex (logOf d p0) seq (j+1) (txW seq info (rev++mk.blocks))):=by
      rw[Hid,HRUN.o,HSTEP.o,if_neg (by simp[hq,hk]),if_neg (by omega),zt7,htg,if_pos (by rw[za6];simp;omega)];simp[copiesAt]
     clear HSTEP HRUN htg;obtain⟨⟨z0,z1,z2,z3,z4,z5,z6,z7,z8,z9⟩,zf⟩:=zai KT1.o;go_wp2_with (at_builtin;refine zpl _ (w.heap.size+2) rfl _ _ rfl (.slice ra rev.length rc) rev rfl (zah HV1.o (zab _ _)) a3 c3 mk.blocks rfl (HI.o.below (zab _ _)) (by omega) (by simp;omega) ?_);intro v3 w3 HO3 hg3;obtain⟨rv,hrv⟩:∃rv,rv=rev++mk.blocks:=⟨_,rfl⟩;have hrvl:rv.length≤20*(j+1):=by rw[hrv,List.length_append];omega
     replace HO3:=zaa (zx1 HO3.o (show _=rv.length by simp[hrv]))
     rw[←hrv] at HO3 HRUN2;clear hrv;obtain⟨ra3,rc3,hv3,_,_⟩:=SegI.of_owns HO3.o;subst hv3;have hB2:Below w1.heap.size w1 (w1.alloc (.cells #[.int .i64 3,.int .i64 seq,.int .i64 mk.pos,.slice a2 mk.tags.length c2,.slice a3 mk.blocks.length c3] 119)):=zab _ _;have hob:∀k,(Value.slice ra rev.length rc).ownBlock=some k→w.heap.size+2≤k:=fun k hk=>(HV1.o.lt k hk).1;have hob3:∀k,(Value.slice ra3 rv.length rc3).ownBlock=some k→w.heap.size+2≤k:=fun k hk=>(HO3.o.lt k hk).1;have hobm:∀k,(Value.slice ma info.length mc).ownBlock=some k→w.heap.size+2≤k:=fun k hk=>(HM1.o.lt k hk).1;have hs3:w1.heap.size+1≤w3.heap.size:=by have:=hg3.size;simpa using this
     have KB3:Hid (w3.heap[w.heap.size]?=_):=(hg3.block _ (by simp;omega) (fun e=>by have:=hob _ e.symm;omega)).trans (zad hB2 hsz1' KB1.o);have KT3:Hid (w3.heap[w.heap.size+1]?=_):=(hg3.block _ (by simp;omega) (fun e=>by have:=hob _ e.symm;omega)).trans (zad hB2 hsz1 KT1.o);have HR3:Hid (Rd w3 R a c a' c' d p0 (j+1)):=(HR1.o.below hB2).grown hg3 (fun k hk=>by have:=hob k hk;omega);have HB3:Hid (But R w.heap.size w w3):=(HB1.o.trans (But.of_below hB2) (by omega)).grown hg3 (fun k hk=>by have:=hob k hk;omega) (by simp;omega);have HM3:=zaa (zfc (zah HM1.o hB2) (zah HV1.o hB2) (by decide) hg3);have HOB:=zaa (And.intro hob3 hobm);clear z0 z1 z2 z3 z4 z5 z6 z7 z8 z9 zf hob hob3 hobm hg3 KB1 KT1 HB1 HM1 HV1 HR1 HT HI HTR hB2;obtain⟨⟨z0,z1,z2,z3,z4,z5,z6,z7,z8,z9⟩,zf⟩:=zai KT3.o;have hRT:R≠w.heap.size+1:=by omega
     have hsz3:w.heap.size+1<w3.heap.size:=by omega
     go_wp2;clear z0 z1 z2 z3 z4 z5 z6 z7 z8 z9 zf
     go_roundw
     case rel=>exact⟨j+1,info,rv,ma,mc,ra3,rc3,by omega,by omega,by omega,hrvl,HRUN2,HR3.o.setNe hRT _,HB3.o.setNew (p:=⟨w.heap.size+1,3,none⟩) (by simp) _,by simp[World.setCell];omega,(zgk (by simp) _).trans KB3.o,heap_setCell_same _ _ 3 _ _ (.slice ra3 rv.length rc3) KT3.o,zcx HM3.o (fun k hk=>by have:=HOB.o.2 k hk;simp;omega) _,zcx HO3.o (fun k hk=>by have:=HOB.o.1 k hk;simp;omega) _⟩
     case measure=>
      rw[(z2o (HR3.o.setNe (p:=⟨w.heap.size+1,3,none⟩) hRT _)).1.2.2.2];simp;omega
    ·have HYES:Hid (zex (logOf d p0) seq i (zds seq)=some (j+1,txW seq info rev)):=by rw[Hid,HRUN.o,HSTEP.o,if_neg (by simp[hq,hk]),if_pos hk]
     have hobv:∀k,(Value.slice ra rev.length rc).ownBlock=some k→w.heap.size+2≤k:=fun k hk=>(HV1.o.lt k hk).1;have hobm:∀k,(Value.slice ma info.length mc).ownBlock=some k→w.heap.size+2≤k:=fun k hk=>(HM1.o.lt k hk).1;have HOB:=zaa (And.intro hobm hobv);clear HSTEP HRUN hobv hobm HT HI HTR;obtain⟨⟨z0,z1,z2,z3,z4,z5,z6,z7,z8,z9⟩,zf⟩:=zai KB1.o;obtain⟨⟨y0,y1,y2,y3,y4,y5,y6,y7,y8,y9⟩,yf⟩:=zai KT1.o;go_wp2;clear y0 y1 y2 y3 y4 y5 y6 y7 y8 y9 yf;obtain⟨W,hW⟩:∃W,W=(((((((((((w1.setCell ⟨w.heap.size,0,none⟩ (.int .i64 seq)).setCell ⟨w.heap.size,1,none⟩ (.slice ma info.length mc)).setCell ⟨w.heap.size,2,none⟩ (.slice none 0 0)).setCell ⟨w.heap.size,3,none⟩ (.slice ra rev.length rc)).setCell ⟨w.heap.size,4,none⟩ (.bool false)).setCell ⟨w.heap.size,5,none⟩ (.int .i64 0)).setCell ⟨w.heap.size,6,none⟩ (.bool false)).setCell ⟨w.heap.size,7,none⟩ (.int .i64 0)).setCell ⟨w.heap.size,8,none⟩ (.bool false)).setCell ⟨w.heap.size,9,none⟩ (.int .i64 0)).alloc (.cells #[.int .i64 4,.int .i64 seq,.int .i64 mk.pos,.slice a2 mk.tags.length c2,.slice a3 mk.blocks.length c3] 119)):=⟨_,rfl⟩;have hbx:=ziq KB1.o (.int .i64 seq) (.slice ma info.length mc) (.slice none 0 0) (.slice ra rev.length rc) (.bool false) (.int .i64 0) (.bool false) (.int .i64 0) (.bool false) (.int .i64 0) (.cells #[.int .i64 4,.int .i64 seq,.int .i64 mk.pos,.slice a2 mk.tags.length c2,.slice a3 mk.blocks.length c3] 119);rw[←hW] at hbx;obtain⟨⟨y0,y1,y2,y3,y4,y5,y6,y7,y8,y9⟩,_⟩:=zai hbx;have HW:=zaa hW;rw[←hW];clear hW hbx z0 z1 z2 z3 z4 z5 z6 z7 z8 z9 zf;refine bodyPost_ret (v:=.tuple #[.agg #[.int .i64 seq,.slice ma info.length mc,.slice none 0 0,.slice ra rev.length rc,.bool false,.int .i64 0,.bool false,.int .i64 0,.bool false,.int .i64 0],.bool true]) (by simp[results,Tryz.results114,go_sem,y0,y1,y2,y3,y4,y5,y6,y7,y8,y9]) rfl ?_;unfold z3q;refine⟨_,true,rfl,?_,?_⟩
     ·rw[HW.o]
      exact(But.trans ((((((((((HB1.o.setNew (p:=⟨w.heap.size,0,none⟩) (Nat.le_refl _) _).setNew (p:=⟨w.heap.size,1,none⟩) (Nat.le_refl _) _).setNew (p:=⟨w.heap.size,2,none⟩) (Nat.le_refl _) _).setNew (p:=⟨w.heap.size,3,none⟩) (Nat.le_refl _) _).setNew (p:=⟨w.heap.size,4,none⟩) (Nat.le_refl _) _).setNew (p:=⟨w.heap.size,5,none⟩) (Nat.le_refl _) _).setNew (p:=⟨w.heap.size,6,none⟩) (Nat.le_refl _) _).setNew (p:=⟨w.heap.size,7,none⟩) (Nat.le_refl _) _).setNew (p:=⟨w.heap.size,8,none⟩) (Nat.le_refl _) _).setNew (p:=⟨w.heap.size,9,none⟩) (Nat.le_refl _) _) (But.of_below (zab _ _)) (by simp[World.setCell];omega))
     ·rw[zpn,HYES.o]
      refine⟨rfl,?_,_,_,rfl,⟨?_,?_,?_⟩,rfl⟩
      ·rw[HW.o]
       refine Rd.below ?_ (zab _ _)
       repeat refine Rd.setNe ?_ (show R≠w.heap.size by omega) _
       exact HR1.o
      ·rw[HW.o]
       refine za5 (zah ?_ (zab _ _)) (show w.heap.size≤w.heap.size+2 by omega)
       repeat refine zcx ?_ (fun k e=>by have:=HOB.o.1 k e;simp;omega) _
       exact HM1.o
      ·exact World.ownsRow_nil _ _ _ _
      ·rw[HW.o]
       refine za5 (zah ?_ (zab _ _)) (show w.heap.size≤w.heap.size+2 by omega)
       repeat refine zcx ?_ (fun k e=>by have:=HOB.o.2 k e;simp;omega) _
       exact HV1.o
   ·have hfl:(decide (er=0)&&decide (mk.seq=seq))=false:=by
     rw[Bool.and_eq_false_iff];by_cases he:er=0
     ·right;exact decide_eq_false fun hq=>hok ⟨he,hq⟩
     ·left;exact decide_eq_false he
    have HNO:Hid (zex (logOf d p0) seq i (zds seq)=none):=by
     rw[Hid,HRUN.o,HSTEP.o,if_pos];by_cases he:er=0
     ·exact .inr (.inl fun hq=>hok ⟨he,hq⟩)
     ·exact .inl he
    dsimp only;rw[hfl];clear HSTEP HRUN hok hfl HGM;obtain⟨⟨z0,z1,z2,z3,z4,z5,z6,z7,z8,z9⟩,zf⟩:=zai KB1.o;go_wp2;obtain⟨W,hW⟩:∃W,W=(((((((((((w1.setCell ⟨w.heap.size,0,none⟩ (.int .i64 0)).setCell ⟨w.heap.size,1,none⟩ (.slice none 0 0)).setCell ⟨w.heap.size,2,none⟩ (.slice none 0 0)).setCell ⟨w.heap.size,3,none⟩ (.slice none 0 0)).setCell ⟨w.heap.size,4,none⟩ (.bool false)).setCell ⟨w.heap.size,5,none⟩ (.int .i64 0)).setCell ⟨w.heap.size,6,none⟩ (.bool false)).setCell ⟨w.heap.size,7,none⟩ (.int .i64 0)).setCell ⟨w.heap.size,8,none⟩ (.bool false)).setCell ⟨w.heap.size,9,none⟩ (.int .i64 0)).alloc (.cells #[.int .i64 mk.kind,.int .i64 mk.seq,.int .i64 mk.pos,.slice a2 mk.tags.length c2,.slice a3 mk.blocks.length c3] 119)):=⟨_,rfl⟩;have hbx:=ziq KB1.o (.int .i64 0) (.slice none 0 0) (.slice none 0 0) (.slice none 0 0) (.bool false) (.int .i64 0) (.bool false) (.int .i64 0) (.bool false) (.int .i64 0) (.cells #[.int .i64 mk.kind,.int .i64 mk.seq,.int .i64 mk.pos,.slice a2 mk.tags.length c2,.slice a3 mk.blocks.length c3] 119);rw[←hW] at hbx;obtain⟨⟨y0,y1,y2,y3,y4,y5,y6,y7,y8,y9⟩,_⟩:=zai hbx;have HW:=zaa hW;rw[←hW];clear hW hbx z0 z1 z2 z3 z4 z5 z6 z7 z8 z9 zf;refine bodyPost_ret (v:=.tuple #[.agg #[.int .i64 0,.slice none 0 0,.slice none 0 0,.slice none 0 0,.bool false,.int .i64 0,.bool false,.int .i64 0,.bool false,.int .i64 0],.bool false]) (by simp[results,Tryz.results114,go_sem,y0,y1,y2,y3,y4,y5,y6,y7,y8,y9]) rfl ?_;unfold z3q;refine⟨_,false,rfl,?_,?_⟩
    ·rw[HW.o]
     exact(But.trans ((((((((((HB1.o.setNew (p:=⟨w.heap.size,0,none⟩) (Nat.le_refl _) _).setNew (p:=⟨w.heap.size,1,none⟩) (Nat.le_refl _) _).setNew (p:=⟨w.heap.size,2,none⟩) (Nat.le_refl _) _).setNew (p:=⟨w.heap.size,3,none⟩) (Nat.le_refl _) _).setNew (p:=⟨w.heap.size,4,none⟩) (Nat.le_refl _) _).setNew (p:=⟨w.heap.size,5,none⟩) (Nat.le_refl _) _).setNew (p:=⟨w.heap.size,6,none⟩) (Nat.le_refl _) _).setNew (p:=⟨w.heap.size,7,none⟩) (Nat.le_refl _) _).setNew (p:=⟨w.heap.size,8,none⟩) (Nat.le_refl _) _).setNew (p:=⟨w.heap.size,9,none⟩) (Nat.le_refl _) _) (But.of_below (zab _ _)) (by simp[World.setCell];omega))
    ·rw[zpn,HNO.o]
     exact⟨rfl,rfl⟩
theorem zt8 {w:World}{B:Nat}{z0 z1 z2 z3 z4:Value}{t:TypeId}(h:w.heap[B]?=some (.cells #[z0,z1,z2,z3,z4] t (0,0)))(v0 v1 v2 v3 v4:Value):
  (((((w.setCell ⟨B,0,none⟩ v0).setCell ⟨B,1,none⟩ v1).setCell ⟨B,2,none⟩ v2).setCell ⟨B,3,none⟩ v3).setCell ⟨B,4,none⟩ v4).heap[B]?=some (.cells #[v0,v1,v2,v3,v4] t (0,0)):=by
 have h0:=heap_setCell_same w B 0 _ _ v0 h;have h1:=heap_setCell_same _ B 1 _ _ v1 h0;have h2:=heap_setCell_same _ B 2 _ _ v2 h1;have h3:=heap_setCell_same _ B 3 _ _ v3 h2;exact heap_setCell_same _ B 4 _ _ v4 h3
theorem zn9 {w:World}{B:Nat}{z0 z1 z2 z3 z4:Value}{t:TypeId}(h:w.heap[B]?=some (.cells #[z0,z1,z2,z3,z4] t (0,0)))(v0 v1 v2 v3 v4:Value)(o:Obj):
  ((((((w.setCell ⟨B,0,none⟩ v0).setCell ⟨B,1,none⟩ v1).setCell ⟨B,2,none⟩ v2).setCell ⟨B,3,none⟩ v3).setCell ⟨B,4,none⟩ v4).alloc o).heap[B]?=some (.cells #[v0,v1,v2,v3,v4] t (0,0)):=by
 have h4:=zt8 h v0 v1 v2 v3 v4;exact zad (zab _ o) (Array.getElem?_eq_some_iff.1 h4).1 h4
def zld (w w':World)(d:Dk)(e:Ending):Prop:=
 ∃(k q p:Int) (a2:Option Addr) (n2 c2:Nat) (a3:Option Addr) (n3 c3:Nat),e=.returned (.tuple #[.agg #[.int .i64 k,.int .i64 q,.int .i64 p,.slice a2 n2 c2,.slice a3 n3 c3],.int .i64 (scanE d)])∧True∧(scanE d=0→q=(zao d).seq∧p=(zao d).pos)∧Below w.heap.size w w'
theorem zoa (a:Option Addr)(c:Nat)(a':Option Addr)(c':Nat)(d:Dk)(w:World)(hD:IsDk w (.agg #[.slice a d.safe.length c,.slice a' d.wr.length c']) d):
  Calls Tryz.prog 113 #[.agg #[.slice a d.safe.length c,.slice a' d.wr.length c']] w fun e w'=>zld w w' d e:=by
 have HD:=zaa hD;clear hD;go_enter Tryz.func113,Tryz.ntmps113;go_wp2_with fail;refine(znw _ d 0 _ (HD.o.below (zae (zab _ _) (zab _ _)))).mono ?_;rintro e w1 ⟨rfl,hb1⟩;have KB1:=zaa (zg3 hb1);have hs1:w.heap.size+1<w1.heap.size:=by have:=hb1.size;simp at this;omega
 have HB1:=zaa (zae (zae (zab _ _) (zab _ _)) hb1);clear hb1 HD;by_cases hE:readE d 0=0
 ·rw[hE]
  have HE:=zaa hE;clear hE;go_wp2_with fail;refine(zlb (zal d 0) _).mono ?_;rintro e w2 ⟨v2,rfl,hN,hb2⟩;obtain⟨a2,c2,a3,c3,rfl,_,_,_,_⟩:=hN;obtain⟨M,hM⟩:∃M,M=zaq (zal d 0):=⟨_,rfl⟩;rw[←hM];obtain⟨mk,er⟩:=M;have HSE:Hid (scanE d=if er≠0∨mk.kind≠1 then 1 else 0):=by rw[Hid,scanE,zao,←hM,HE.o];simp
  have HSU:Hid (zao d=mk):=by rw[Hid,zao,←hM]
  clear hM;have KB2:=zaa (zad hb2 hs1 KB1.o);have hs2:w.heap.size+1<w2.heap.size:=Nat.lt_of_lt_of_le hs1 hb2.size;have HB2:=zaa (zae HB1.o hb2);clear hb2 KB1 HB1;dsimp only;by_cases he:er=0
  ·subst he
   by_cases hk:mk.kind=1
   ·have HS0:Hid (scanE d=0):=by rw[Hid,HSE.o,if_neg (by simp[hk])]
    clear HSE;obtain⟨⟨z0,z1,z2,z3,z4⟩,zf0,zf1,zf2,zf3,zf4⟩:=zie KB2.o;go_wp2;obtain⟨W,hW⟩:∃W,W=((((((w2.setCell ⟨w.heap.size+1,0,none⟩ (.int .i64 1)).setCell ⟨w.heap.size+1,1,none⟩ (.int .i64 mk.seq)).setCell ⟨w.heap.size+1,2,none⟩ (.int .i64 mk.pos)).setCell ⟨w.heap.size+1,3,none⟩ (.slice a2 mk.tags.length c2)).setCell ⟨w.heap.size+1,4,none⟩ (.slice a3 mk.blocks.length c3)).alloc (.cells #[.int .i64 1,.int .i64 mk.seq,.int .i64 mk.pos,.slice a2 mk.tags.length c2,.slice a3 mk.blocks.length c3] 119)):=⟨_,rfl⟩;have hbx:=zn9 KB2.o (.int .i64 1) (.int .i64 mk.seq) (.int .i64 mk.pos) (.slice a2 mk.tags.length c2) (.slice a3 mk.blocks.length c3) (.cells #[.int .i64 1,.int .i64 mk.seq,.int .i64 mk.pos,.slice a2 mk.tags.length c2,.slice a3 mk.blocks.length c3] 119);rw[←hW] at hbx;obtain⟨⟨y0,y1,y2,y3,y4⟩,_⟩:=zie hbx;have HW:=zaa hW;rw[←hW];clear hW hbx z0 z1 z2 z3 z4 zf0 zf1 zf2 zf3 zf4;refine bodyPost_ret (v:=.tuple #[.agg #[.int .i64 1,.int .i64 mk.seq,.int .i64 mk.pos,.slice a2 mk.tags.length c2,.slice a3 mk.blocks.length c3],.int .i64 0]) (by simp[results,Tryz.results113,go_sem,y0,y1,y2,y3,y4]) rfl ?_;rw[zld,HS0.o];refine⟨_,_,_,_,_,_,_,_,_,rfl,?_,?_,?_⟩
    ·exact trivial
    ·intro h0
     exact⟨by rw[HSU.o],by rw[HSU.o]⟩
    ·rw[HW.o]
     exact((((((HB2.o.setCell (p:=⟨w.heap.size+1,0,none⟩) (by simp) _).setCell (p:=⟨w.heap.size+1,1,none⟩) (by simp) _).setCell (p:=⟨w.heap.size+1,2,none⟩) (by simp) _).setCell (p:=⟨w.heap.size+1,3,none⟩) (by simp) _).setCell (p:=⟨w.heap.size+1,4,none⟩) (by simp) _).alloc (by simp[World.setCell];omega) _)
   ·have HS1:Hid (scanE d=1):=by rw[Hid,HSE.o,if_pos (.inr hk)]
    have hk':(mk.kind !=1)=true:=by simpa using hk
    clear HSE;obtain⟨⟨z0,z1,z2,z3,z4⟩,zf0,zf1,zf2,zf3,zf4⟩:=zie KB2.o;go_wp2;obtain⟨W,hW⟩:∃W,W=((((((w2.setCell ⟨w.heap.size+1,0,none⟩ (.int .i64 0)).setCell ⟨w.heap.size+1,1,none⟩ (.int .i64 0)).setCell ⟨w.heap.size+1,2,none⟩ (.int .i64 0)).setCell ⟨w.heap.size+1,3,none⟩ (.slice none 0 0)).setCell ⟨w.heap.size+1,4,none⟩ (.slice none 0 0)).alloc (.cells #[.int .i64 mk.kind,.int .i64 mk.seq,.int .i64 mk.pos,.slice a2 mk.tags.length c2,.slice a3 mk.blocks.length c3] 119)):=⟨_,rfl⟩;have hbx:=zn9 KB2.o (.int .i64 0) (.int .i64 0) (.int .i64 0) (.slice none 0 0) (.slice none 0 0) (.cells #[.int .i64 mk.kind,.int .i64 mk.seq,.int .i64 mk.pos,.slice a2 mk.tags.length c2,.slice a3 mk.blocks.length c3] 119);rw[←hW] at hbx;obtain⟨⟨y0,y1,y2,y3,y4⟩,_⟩:=zie hbx;have HW:=zaa hW;rw[←hW];clear hW hbx z0 z1 z2 z3 z4 zf0 zf1 zf2 zf3 zf4;refine bodyPost_ret (v:=.tuple #[.agg #[.int .i64 0,.int .i64 0,.int .i64 0,.slice none 0 0,.slice none 0 0],.int .i64 (1)]) (by simp[results,Tryz.results113,go_sem,y0,y1,y2,y3,y4]) rfl ?_;rw[zld,HS1.o];refine⟨_,_,_,_,_,_,_,_,_,rfl,?_,?_,?_⟩
    ·exact trivial
    ·intro h0
     cases h0
    ·rw[HW.o]
     exact((((((HB2.o.setCell (p:=⟨w.heap.size+1,0,none⟩) (by simp) _).setCell (p:=⟨w.heap.size+1,1,none⟩) (by simp) _).setCell (p:=⟨w.heap.size+1,2,none⟩) (by simp) _).setCell (p:=⟨w.heap.size+1,3,none⟩) (by simp) _).setCell (p:=⟨w.heap.size+1,4,none⟩) (by simp) _).alloc (by simp[World.setCell];omega) _)
  ·have HS1:Hid (scanE d=1):=by rw[Hid,HSE.o,if_pos (.inl he)]
   have he':(er !=0)=true:=by simpa using he
   clear HSE;obtain⟨⟨z0,z1,z2,z3,z4⟩,zf0,zf1,zf2,zf3,zf4⟩:=zie KB2.o;go_wp2;obtain⟨W,hW⟩:∃W,W=((((((w2.setCell ⟨w.heap.size+1,0,none⟩ (.int .i64 0)).setCell ⟨w.heap.size+1,1,none⟩ (.int .i64 0)).setCell ⟨w.heap.size+1,2,none⟩ (.int .i64 0)).setCell ⟨w.heap.size+1,3,none⟩ (.slice none 0 0)).setCell ⟨w.heap.size+1,4,none⟩ (.slice none 0 0)).alloc (.cells #[.int .i64 mk.kind,.int .i64 mk.seq,.int .i64 mk.pos,.slice a2 mk.tags.length c2,.slice a3 mk.blocks.length c3] 119)):=⟨_,rfl⟩;have hbx:=zn9 KB2.o (.int .i64 0) (.int .i64 0) (.int .i64 0) (.slice none 0 0) (.slice none 0 0) (.cells #[.int .i64 mk.kind,.int .i64 mk.seq,.int .i64 mk.pos,.slice a2 mk.tags.length c2,.slice a3 mk.blocks.length c3] 119);rw[←hW] at hbx;obtain⟨⟨y0,y1,y2,y3,y4⟩,_⟩:=zie hbx;have HW:=zaa hW;rw[←hW];clear hW hbx z0 z1 z2 z3 z4 zf0 zf1 zf2 zf3 zf4;refine bodyPost_ret (v:=.tuple #[.agg #[.int .i64 0,.int .i64 0,.int .i64 0,.slice none 0 0,.slice none 0 0],.int .i64 (1)]) (by simp[results,Tryz.results113,go_sem,y0,y1,y2,y3,y4]) rfl ?_;rw[zld,HS1.o];refine⟨_,_,_,_,_,_,_,_,_,rfl,?_,?_,?_⟩
   ·exact trivial
   ·intro h0
    cases h0
   ·rw[HW.o]
    exact((((((HB2.o.setCell (p:=⟨w.heap.size+1,0,none⟩) (by simp) _).setCell (p:=⟨w.heap.size+1,1,none⟩) (by simp) _).setCell (p:=⟨w.heap.size+1,2,none⟩) (by simp) _).setCell (p:=⟨w.heap.size+1,3,none⟩) (by simp) _).setCell (p:=⟨w.heap.size+1,4,none⟩) (by simp) _).alloc (by simp[World.setCell];omega) _)
 ·have HS1:Hid (scanE d=readE d 0):=by rw[Hid,scanE,if_pos hE]
  have hE':(readE d 0 !=0)=true:=by simpa using hE
  have HE:=zaa hE;generalize readE d 0=E at *;clear hE;obtain⟨⟨z0,z1,z2,z3,z4⟩,zf0,zf1,zf2,zf3,zf4⟩:=zie KB1.o;go_wp2;obtain⟨W,hW⟩:∃W,W=(((((w1.setCell ⟨w.heap.size+1,0,none⟩ (.int .i64 0)).setCell ⟨w.heap.size+1,1,none⟩ (.int .i64 0)).setCell ⟨w.heap.size+1,2,none⟩ (.int .i64 0)).setCell ⟨w.heap.size+1,3,none⟩ (.slice none 0 0)).setCell ⟨w.heap.size+1,4,none⟩ (.slice none 0 0)):=⟨_,rfl⟩;have hbx:=zt8 KB1.o (.int .i64 0) (.int .i64 0) (.int .i64 0) (.slice none 0 0) (.slice none 0 0);rw[←hW] at hbx;obtain⟨⟨y0,y1,y2,y3,y4⟩,_⟩:=zie hbx;have HW:=zaa hW;rw[←hW];clear hW hbx z0 z1 z2 z3 z4 zf0 zf1 zf2 zf3 zf4;refine bodyPost_ret (v:=.tuple #[.agg #[.int .i64 0,.int .i64 0,.int .i64 0,.slice none 0 0,.slice none 0 0],.int .i64 (E)]) (by simp[results,Tryz.results113,go_sem,y0,y1,y2,y3,y4]) rfl ?_;rw[zld,HS1.o];refine⟨_,_,_,_,_,_,_,_,_,rfl,?_,?_,?_⟩
  ·exact trivial
  ·intro h0
   exact absurd h0 HE.o
  ·rw[HW.o]
   exact(((((HB1.o.setCell (p:=⟨w.heap.size+1,0,none⟩) (by simp) _).setCell (p:=⟨w.heap.size+1,1,none⟩) (by simp) _).setCell (p:=⟨w.heap.size+1,2,none⟩) (by simp) _).setCell (p:=⟨w.heap.size+1,3,none⟩) (by simp) _).setCell (p:=⟨w.heap.size+1,4,none⟩) (by simp) _)
theorem zx4 {w:World}{B:Nat}{v0 v1 v2:Value}{t:TypeId}(h:w.heap[B]?=some (.cells #[v0,v1,v2] t (0,0))):
  (w.cell? ⟨B,0,none⟩=some v0∧w.cell? ⟨B,1,none⟩=some v1∧w.cell? ⟨B,2,none⟩=some v2)∧∀k,w.frozen? ⟨B,k,none⟩=false:=by
 refine⟨⟨?_,?_,?_⟩,fun k=>frozen_of_row w _ _ _ _ h⟩<;>(rw[cell_of_row w _ _ _ _ _ h];rfl)
theorem zfs {w:World}{B:Nat}{z0 z1 z2:Value}{t:TypeId}(h:w.heap[B]?=some (.cells #[z0,z1,z2] t (0,0)))(v0 v1 v2:Value):
  (((w.setCell ⟨B,0,none⟩ v0).setCell ⟨B,1,none⟩ v1).setCell ⟨B,2,none⟩ v2).heap[B]?=some (.cells #[v0,v1,v2] t (0,0)):=by
 have h0:=heap_setCell_same w B 0 _ _ v0 h;have h1:=heap_setCell_same _ B 1 _ _ v1 h0;exact heap_setCell_same _ B 2 _ _ v2 h1
theorem zt9 {w:World}{B:Nat}{z0 z1 z2:Value}{t:TypeId}(h:w.heap[B]?=some (.cells #[z0,z1,z2] t (0,0)))(v0 v1 v2:Value)(o:Obj):
  ((((w.setCell ⟨B,0,none⟩ v0).setCell ⟨B,1,none⟩ v1).setCell ⟨B,2,none⟩ v2).alloc o).heap[B]?=some (.cells #[v0,v1,v2] t (0,0)):=by
 have h4:=zfs h v0 v1 v2;exact zad (zab _ o) (Array.getElem?_eq_some_iff.1 h4).1 h4
theorem zfd {w:World}{base:Nat}{e:TypeId}{size:Nat}{v:Value}{n:Nat}{xs:List Value}{B:Nat}{v0 v1 v2:Value}(h:w.ownsRow base e size v n xs)(hb:∀k,v.ownBlock=some k→k≠B):(((w.setCell ⟨B,0,none⟩ v0).setCell ⟨B,1,none⟩ v1).setCell ⟨B,2,none⟩ v2).ownsRow base e size v n xs:=
 zcx (zcx (zcx h (p:=⟨B,0,none⟩) hb v0) (p:=⟨B,1,none⟩) hb v1) (p:=⟨B,2,none⟩) hb v2
theorem OwnR.ne {w:World}{base:Nat}{x:RX}(h:OwnR w base x){B:Nat}(hB:B<base):(∀k,x.m.ownBlock=some k→k≠B)∧(∀k,x.d.ownBlock=some k→k≠B)∧∀k,x.r.ownBlock=some k→k≠B:=
 ⟨fun k hk=>by have:=(h.1.lt k hk).1;omega,fun k hk=>by have:=(h.2.1.lt k hk).1;omega,fun k hk=>by have:=(h.2.2.lt k hk).1;omega⟩
theorem OwnR.set3 {w:World}{base B:Nat}{x:RX}{v0 v1 v2:Value}(h:OwnR w base x)(hB:B<base):OwnR (((w.setCell ⟨B,0,none⟩ v0).setCell ⟨B,1,none⟩ v1).setCell ⟨B,2,none⟩ v2) base x:=
 ⟨zfd h.1 (h.ne hB).1,zfd h.2.1 (h.ne hB).2.1,zfd h.2.2 (h.ne hB).2.2⟩
theorem OwnR.base {w:World}{b b':Nat}{x:RX}(h:OwnR w b x)(hb:b'≤b):OwnR w b' x:=⟨za5 h.1 hb,za5 h.2.1 hb,za5 h.2.2 hb⟩
theorem OwnR.but {R base:Nat}{w w':World}{x:RX}(h:OwnR w base x)(hb:But R w.heap.size w w')(hR:R<base):OwnR w' base x:=⟨zd7 h.1 hb hR,zd7 h.2.1 hb hR,zd7 h.2.2 hb hR⟩
def zx5 (w:World)(R:Nat):Nat:=match w.cell? ⟨R,3,none⟩ with|some (.int _ n)=>n.toNat|_=>0
theorem Rd.left {w:World}{R:Nat}{a:Option Addr}{c:Nat}{a':Option Addr}{c':Nat}{d:Dk}{p0 i:Nat}(h:Rd w R a c a' c' d p0 i):zx5 w R=24 - i:=by
 rw[zx5,(z2o h).1.2.2.2];simp
def ScPost (w w':World)(d:Dk)(e:Ending):Prop:=
 ∃v,e=.returned (.tuple #[v,.int .i64 (scanE d)])∧Below w.heap.size w w'∧(scanE d≠0→v=.agg #[.slice none 0 0,.int .i64 0,.int .i64 0])∧
  (scanE d=0→∃(q:List RX) (va:Option Addr) (vc:Nat),v=.agg #[.slice va q.length vc,.int .i64 ((zao d).seq+(q.length:Int)),.int .i64 ((((zao d).pos.toNat+(zbv d).2)%24:Nat):Int)]∧q.map (·.t)=(zbv d).1∧w'.ownsRow w.heap.size 40 10 (.slice va q.length vc) q.length (cellsX q)∧∀x∈q,OwnR w' w.heap.size x)
theorem z09 (a:Option Addr)(c:Nat)(a':Option Addr)(c':Nat)(d:Dk)(w:World)(hD:IsDk w (.agg #[.slice a d.safe.length c,.slice a' d.wr.length c']) d):
  Calls Tryz.prog 76 #[.agg #[.slice a d.safe.length c,.slice a' d.wr.length c']] w fun e w'=>ScPost w w' d e:=by
 have HD:=zaa hD;clear hD;go_enter Tryz.func76,Tryz.ntmps76;go_wp2_with fail;refine(zoa a c a' c' d _ (HD.o.below (zae (zab _ _) (zab _ _)))).mono ?_;rintro e w1 ⟨k,q0,p,a2,n2,c2,a3,n3,c3,rfl,_,hsu,hb1⟩;have K0:=zaa (zf9 hb1);have KB:=zaa (zg3 hb1);have hs1:w.heap.size+1<w1.heap.size:=by have:=hb1.size;simp at this;omega
 have hs1':w.heap.size<w1.heap.size:=by omega
 have HB1:=zaa (zae (zae (zab _ _) (zab _ _)) hb1);clear hb1;by_cases hE:scanE d=0
 ·obtain⟨rfl,rfl⟩:=hsu hE
  rw[hE];have HS0:=zaa hE
  have hgd:za1 d=true∧(1≤(zao d).seq∧(zao d).seq≤2147483647)∧0≤(zao d).pos∧(zao d).pos≤23:=by
   have h:=hE;unfold scanE at h;split at h
   ·rename_i h1;exact absurd h h1
   ·rename_i h1
    split at h
    ·cases h
    ·rename_i h2
     have h3:(zaq (zal d 0)).2=0:=by
      by_cases hx:(zaq (zal d 0)).2=0
      ·exact hx
      ·exact absurd (.inl hx) h2
     have h4:=zkr h3
     have h5:readE d 0=0:=by
      by_cases hx:readE d 0=0
      ·exact hx
      ·exact absurd hx h1
     refine⟨?_,?_⟩
     ·unfold readE at h5
      split at h5
      ·rename_i hx;exact(Bool.and_eq_true_iff.1 hx).1
      ·cases h5
     ·unfold goodM at h4
      split at h4
      ·cases h4
      ·split at h4
       ·cases h4
       ·rename_i hx
        show(1≤(zaq (zal d 0)).1.seq∧_)∧_;unfold zao;omega
  obtain⟨hg,⟨hq0,hq1⟩,hp0,hp1⟩:=hgd;have HL:Hid (zbv d=scanP (logOf d (zao d).pos) 0 (zao d).seq []):=rfl;obtain⟨p0,hp⟩:∃p0:Nat,(zao d).pos=(p0:Int):=⟨(zao d).pos.toNat,by omega⟩;have HPOS:Hid ((zao d).pos.toNat=p0):=by rw[Hid,hp];rfl
  rw[hp] at HL⊢;have hp24:p0<24:=by omega
  have HP0:=zaa hp;generalize hsq0:(zao d).seq=q0 at *;have HSQ:=zaa hsq0;clear hE hsu hp hp0 hp1 hsq0;obtain⟨⟨x0,x1⟩,xf⟩:=zfl K0.o;go_wp2;clear x0 x1 xf;obtain⟨W0,hW0⟩:∃W0,W0=((w1.alloc (.cells #[.int .i64 k,.int .i64 q0,.int .i64 (p0:Int),.slice a2 n2 c2,.slice a3 n3 c3] 119)).alloc (.cells #[.slice none 0 0,.int .i64 q0,.int .i64 (p0:Int)] 90)).alloc (.cells #[.slice a d.safe.length c,.slice a' d.wr.length c',.int .i64 (p0:Int),.int .i64 24] 170):=⟨_,rfl⟩;have hb0:Below w1.heap.size w1 W0:=by rw[hW0];exact zae (zae (zab _ _) (zab _ _)) (zab _ _)
  have hthree:W0.heap[w1.heap.size+1]?=some (.cells #[.slice none 0 0,.int .i64 q0,.int .i64 (p0:Int)] 90 (0,0))∧W0.heap[w1.heap.size+1+1]?=some (.cells #[.slice a d.safe.length c,.slice a' d.wr.length c',.int .i64 (p0:Int),.int .i64 24] 170 (0,0))∧w1.heap.size+1+1<W0.heap.size:=by
   rw[hW0];obtain⟨_,K2,K3,hs⟩:=zjt (Below.refl _ _);exact⟨K2,K3,hs⟩
  rw[←hW0];clear hW0;have KF0:=zaa hthree.1;have hm0:(p0+0)%24=p0:=by omega
  have HR0:Hid (Rd W0 (w1.heap.size+1+1) a c a' c' d p0 0):=by rw[Hid,Rd,hm0];exact hthree.2.1
  have hsW:=hthree.2.2;have KB0:=zaa (zad hb0 hs1 KB.o);have HB0:=zaa (zae HB1.o hb0);have HLP:Hid (scanP (logOf d p0) 0 (q0+(([]:List RX).length:Int)) (([]:List RX).map (·.t))=zbv d):=by rw[Hid,HL.o];simp
  clear hthree hb0 KB HB1 K0 HL
  go_loopw [9] (fun _ wr=>∃(pos:Nat) (sq:Int) (q:List RX) (va:Option Addr) (vc:Nat),pos≤24∧sq=q0+(q.length:Int)∧q.length≤pos∧Hid (scanP (logOf d p0) pos sq (q.map (·.t))=zbv d)∧Hid (Rd wr (w1.heap.size+1+1) a c a' c' d p0 pos)∧Hid (Below w.heap.size w wr)∧w1.heap.size+1+1<wr.heap.size∧Hid (wr.heap[w.heap.size+1]?=some (.cells #[.slice none 0 0,.int .i64 0,.int .i64 0] 90 (0,0)))∧
    Hid (wr.heap[w1.heap.size+1]?=some (.cells #[.slice va q.length vc,.int .i64 sq,.int .i64 (((p0+pos)%24:Nat):Int)] 90 (0,0)))∧Hid (wr.ownsRow (w1.heap.size+3) 40 10 (.slice va q.length vc) q.length (cellsX q))∧Hid (∀x∈q,OwnR wr (w1.heap.size+3) x))
   (fun _ wr=>zx5 wr (w1.heap.size+1+1))
  case atStart=>exact⟨0,q0+(([]:List RX).length:Int),[],none,0,Nat.zero_le _,rfl,Nat.zero_le _,HLP,HR0,HB0,hsW,KB0,by rw[hm0];simpa using KF0,World.ownsRow_nil _ _ _ _,fun x hx=>(by cases hx)⟩
  case round=>
   clear KF0 HR0 hsW KB0 HB0 HLP;obtain⟨pos,sq,q,va,vc,hpos,hsq,hql,HLP,HRr,HB,hsz,KB,KF,HO,HX⟩:=hrel;rw[HRr.o.left];have HQS:=zaa hsq;clear hsq;have hRR:w.heap.size≤w1.heap.size+1+1:=by omega
   by_cases hlt:sq<2147483647
   ·obtain⟨⟨x0,x1,x2⟩,xf⟩:=zx4 KF.o
    go_wp2_with fail;refine(zve (w1.heap.size+1+1) a c a' c' d p0 pos sq wr w HRr.o hpos HD.o hg HB.o hRR).mono ?_;rintro e w2 ⟨v,b,rfl,hBut,hT⟩;have hs2:=hBut.size;have KB3:Hid (w2.heap[w.heap.size+1]?=_):=(hBut.block _ (by omega) (by omega)).trans KB.o;have KF3:Hid (w2.heap[w1.heap.size+1]?=_):=(hBut.block _ (by omega) (by omega)).trans KF.o;have HB2:Hid (Below w.heap.size w w2):=hBut.below HB.o HB.o.size hRR;have HO3:=zaa (zd7 HO.o hBut (by omega));have HX3:Hid (∀x∈q,OwnR w2 (w1.heap.size+3) x):=fun x hx=>(HX.o x hx).but hBut (by omega);clear x0 x1 x2 xf KB KF HB HO HX HRr
    cases hrun:zex (logOf d p0) sq pos (zds sq) with
    |none=>
     rw[zpn,hrun] at hT;obtain⟨rfl,rfl⟩:=hT;have HEND:Hid (zbv d=(q.map (·.t),pos)):=by rw[Hid,←HLP.o,scanP,dif_pos hlt,hrun]
     clear hrun HLP hBut;have hz2:w.heap.size+1<w2.heap.size:=by omega
     have hz3:w1.heap.size+1<w2.heap.size:=by omega
     obtain⟨m3,hm3⟩:∃m3:Nat,m3=(p0+pos)%24:=⟨_,rfl⟩;rw[←hm3] at KF3;have HM3:=zaa hm3;clear hm3;obtain⟨⟨z0,z1,z2⟩,zf⟩:=zx4 KB3.o;obtain⟨⟨x0,x1,x2⟩,xf⟩:=zx4 KF3.o;go_wp2;clear x0 x1 x2 xf;obtain⟨W,hW⟩:∃W,W=((((w2.setCell ⟨w.heap.size+1,0,none⟩ (.slice va q.length vc)).setCell ⟨w.heap.size+1,1,none⟩ (.int .i64 sq)).setCell ⟨w.heap.size+1,2,none⟩ (.int .i64 (m3:Int))).alloc (.cells #[.int .i64 0,.slice none 0 0,.slice none 0 0,.slice none 0 0,.bool false,.int .i64 0,.bool false,.int .i64 0,.bool false,.int .i64 0] 40)):=⟨_,rfl⟩;have hbx:=zt9 KB3.o (.slice va q.length vc) (.int .i64 sq) (.int .i64 (m3:Int)) (.cells #[.int .i64 0,.slice none 0 0,.slice none 0 0,.slice none 0 0,.bool false,.int .i64 0,.bool false,.int .i64 0,.bool false,.int .i64 0] 40);rw[←hW] at hbx;obtain⟨⟨y0,y1,y2⟩,_⟩:=zx4 hbx;have HW:=zaa hW;rw[←hW];clear hW hbx z0 z1 z2 zf;refine bodyPost_ret (v:=.tuple #[.agg #[.slice va q.length vc,.int .i64 sq,.int .i64 (m3:Int)],.int .i64 0]) (by simp[results,Tryz.results76,go_sem,y0,y1,y2]) rfl ?_;rw[ScPost,HS0.o];refine⟨_,rfl,?_,fun h=>absurd rfl h,fun _=>⟨q,va,vc,?_,?_,?_,?_⟩⟩
     ·rw[HW.o]
      exact(((HB2.o.setCell (p:=⟨w.heap.size+1,0,none⟩) (by simp) _).setCell (p:=⟨w.heap.size+1,1,none⟩) (by simp) _).setCell (p:=⟨w.heap.size+1,2,none⟩) (by simp) _).alloc (by simp[World.setCell];omega) _
     ·rw[HPOS.o,HEND.o,HSQ.o,←HQS.o,HM3.o]
     ·rw[HEND.o]
     ·rw[HW.o]
      refine za5 (zah (zfd HO3.o ?_) (zab _ _)) (show w.heap.size≤w1.heap.size+3 by omega);intro k hk;have:=(HO3.o.lt k hk).1;omega
     ·intro x hx
      rw[HW.o];exact OwnR.base (OwnR.below (OwnR.set3 (HX3.o x hx) (by omega)) (zab _ _)) (by omega)
    |some nt=>
     obtain⟨n,t⟩:=nt;rw[zpn,hrun] at hT;obtain⟨rfl,hR2,tm,tr,rfl,hOt,ht⟩:=hT;have hn:=zde (logOf d p0) sq 24 pos (zds sq) n t (by rw[za6];omega) hrun;rw[za6] at hn;have HLP2:Hid (scanP (logOf d p0) n (sq+1) (q.map (·.t)++[t])=zbv d):=by rw[Hid,←HLP.o,scanP.eq_def (logOf d p0) pos,dif_pos hlt,hrun]
     have HOT:Hid (OwnR w2 (w1.heap.size+3) ⟨tm,.slice none 0 0,tr,t⟩):=hOt.base (by omega);obtain⟨ti,tv,ht2⟩:∃ti tv,t=txW sq ti tv:=⟨_,_,ht⟩;subst ht2;obtain⟨ma,mc,_,_,ra,rc,e1,_,e3,_⟩:=HOT.o.tx;simp only at e1 e3;subst e1 e3;have HR2:=zaa hR2;clear hrun HLP hBut hOt ht hR2;have hz2:w.heap.size+1<w2.heap.size:=by omega
     have hz3:w1.heap.size+1<w2.heap.size:=by omega
     have hql2:q.length≤24:=by omega
     obtain⟨⟨x0,x1,x2⟩,xf⟩:=zx4 KF3.o;go_wp2_with (at_builtin;refine zr8 rfl _ _ rfl (w1.heap.size+3) _ q rfl (zah HO3.o (zae (zab _ _) (zab _ _))) (w2.heap.size+1) ⟨.slice ma (txW sq ti tv).info.length mc,.slice none 0 0,.slice ra (txW sq ti tv).rev.length rc,txW sq ti tv⟩ rfl (z33 (by simp[go_sem,txW]) (by simp[go_sem,txW]) (by simp[go_sem,txW]) (by simp[go_sem,txW]) (by simp[go_sem,txW]) (by simp[go_sem,txW]) (by simp[go_sem,txW]) (by simp[go_sem,txW]) (by simp[go_sem,txW]) (by simp[go_sem,txW])) HOT.o.one (by omega) (by simp;omega) ?_);intro v3 w3 hO4 hg4;obtain⟨qn,hqn⟩:∃qn,qn=q++[(⟨.slice ma (txW sq ti tv).info.length mc,.slice none 0 0,.slice ra (txW sq ti tv).rev.length rc,txW sq ti tv⟩:RX)]:=⟨_,rfl⟩;have hqnl:qn.length=q.length+1:=by rw[hqn];simp
     have hO5:=zx1 hO4 (show _=qn.length by simp[hqn]);rw[←hqn] at hO5;have hB2:Below w2.heap.size w2 _:=zae (zab w2 (.cells #[.int .i64 sq,.slice ma ti.length mc,.slice none 0 0,.slice ra tv.length rc,.bool false,.int .i64 0,.bool false,.int .i64 0,.bool false,.int .i64 0] 40 (0,0))) (zab _ (.cells #[.int .i64 sq,.slice ma ti.length mc,.slice none 0 0,.slice ra tv.length rc,.bool false,.int .i64 0,.bool false,.int .i64 0,.bool false,.int .i64 0] 40 (0,0)));have hob:∀k,(Value.slice va q.length vc).ownBlock=some k→w1.heap.size+3≤k:=fun k hk=>(HO3.o.lt k hk).1;have hs3:w2.heap.size+2≤w3.heap.size:=by have:=hg4.size;simpa using this
     have HX4:Hid (∀x∈qn,OwnR w3 (w1.heap.size+3) x):=by
      intro x hx;rw[hqn] at hx
      have hx2:OwnR w2 (w1.heap.size+3) x:=by
       rcases List.mem_append.1 hx with h|h
       ·exact HX3.o x h
       ·rw[List.mem_singleton.1 h];exact HOT.o
      exact(hx2.below hB2).grown (zah HO3.o hB2) hg4
     have HLP4:Hid (scanP (logOf d p0) n (sq+1) (qn.map (·.t))=zbv d):=by rw[Hid,hqn,List.map_append];exact HLP2.o
     have HQ4:Hid (sq+1=q0+(qn.length:Int)):=by rw[Hid,hqnl,HQS.o];omega
     have KB4:Hid (w3.heap[w.heap.size+1]?=_):=(hg4.block _ (by simp;omega) (fun e=>by have:=hob _ e.symm;omega)).trans (zad hB2 hz2 KB3.o);have KF4:Hid (w3.heap[w1.heap.size+1]?=_):=(hg4.block _ (by simp;omega) (fun e=>by have:=hob _ e.symm;omega)).trans (zad hB2 hz3 KF3.o);have HR4:Hid (Rd w3 (w1.heap.size+1+1) a c a' c' d p0 n):=(HR2.o.below hB2).grown hg4 (fun k hk=>by have:=hob k hk;omega);have HB4:Hid (Below w.heap.size w w3):=(zae HB2.o hB2).grown hg4 (zae HB2.o hB2).size (fun k hk=>by have:=hob k hk;omega);have HO5:=zaa hO5
     obtain⟨va3,vc3,hv3⟩:∃va3 vc3,v3=.slice va3 qn.length vc3:=by
      rcases hO5.2 with⟨e,h0⟩|⟨g,cap,cur,e,_⟩
      ·exact absurd h0 (by omega)
      ·exact⟨_,_,e⟩
     subst hv3;obtain⟨m3,hm3⟩:∃m3:Nat,m3=(p0+n)%24:=⟨_,rfl⟩;have HM3:=zaa hm3;have hR5:=HR4.o;rw[Rd,←hm3] at hR5;obtain⟨⟨r0,r1,r2,r3⟩,rf⟩:=z2o hR5;have hsw:IntKind.i64.wrap (sq+1)=sq+1:=by rw[IntKind.wrap_i64];have:=HQS.o;omega
     clear x0 x1 x2 xf hqn hO4 hO5 hB2 hob hg4 HX3 HOT HLP2 KB3 KF3 HR2 HB2 HO3 hm3 hR5 hqnl;obtain⟨⟨x0,x1,x2⟩,xf⟩:=zx4 KF4.o;have hz4:w1.heap.size+1<w3.heap.size:=by omega
     have hz5:w1.heap.size+1+1<w3.heap.size:=by omega
     have hqn24:qn.length≤n:=by have h1:=HQ4.o;have h2:=HQS.o;omega
     go_wp2;clear x0 x1 x2 xf r0 r1 r2 r3 rf;refine⟨⟨_,_,_,_,_,_,_,_,_,_,_,_,_,_,_,_,_,_,_,_,_,_,_,_,_,_,_,_,_,?rel,rfl⟩,?measure⟩
     case rel=>exact⟨n,sq+1,qn,va3,vc3,hn.2,HQ4.o,hqn24,HLP4,((HR4.o.setNe (p:=⟨w1.heap.size+1,0,none⟩) (by simp) _).setNe (p:=⟨w1.heap.size+1,1,none⟩) (by simp) _).setNe (p:=⟨w1.heap.size+1,2,none⟩) (by simp) _,((HB4.o.setCell (p:=⟨w1.heap.size+1,0,none⟩) (by simp;omega) _).setCell (p:=⟨w1.heap.size+1,1,none⟩) (by simp;omega) _).setCell (p:=⟨w1.heap.size+1,2,none⟩) (by simp;omega) _,by simp[World.setCell];omega,(zgk (p:=⟨w1.heap.size+1,2,none⟩) (by simp;omega) _).trans ((zgk (p:=⟨w1.heap.size+1,1,none⟩) (by simp;omega) _).trans ((zgk (p:=⟨w1.heap.size+1,0,none⟩) (by simp;omega) _).trans KB4.o)),by rw[←HM3.o];exact zfs KF4.o _ _ _,zfd HO5.o (fun k hk=>by have:=(HO5.o.lt k hk).1;omega),fun x hx=>(HX4.o x hx).set3 (by omega)⟩
     case measure=>
      rw[(((HR4.o.setNe (p:=⟨w1.heap.size+1,0,none⟩) (by simp) _).setNe (p:=⟨w1.heap.size+1,1,none⟩) (by simp) _).setNe (p:=⟨w1.heap.size+1,2,none⟩) (by simp) _).left];omega
   ·have HEND:Hid (zbv d=(q.map (·.t),pos)):=by rw[Hid,←HLP.o,scanP,dif_neg hlt]
    have KB3:=KB;have KF3:=KF;have HO3:=HO;have HX3:=HX;clear KB KF HO HX HLP;have hz2:w.heap.size+1<wr.heap.size:=by omega
    have hz3:w1.heap.size+1<wr.heap.size:=by omega
    obtain⟨m3,hm3⟩:∃m3:Nat,m3=(p0+pos)%24:=⟨_,rfl⟩;rw[←hm3] at KF3;have HM3:=zaa hm3;clear hm3;obtain⟨⟨z0,z1,z2⟩,zf⟩:=zx4 KB3.o;obtain⟨⟨x0,x1,x2⟩,xf⟩:=zx4 KF3.o;go_wp2;clear x0 x1 x2 xf;obtain⟨W,hW⟩:∃W,W=(((wr.setCell ⟨w.heap.size+1,0,none⟩ (.slice va q.length vc)).setCell ⟨w.heap.size+1,1,none⟩ (.int .i64 sq)).setCell ⟨w.heap.size+1,2,none⟩ (.int .i64 (m3:Int))):=⟨_,rfl⟩;have hbx:=zfs KB3.o (.slice va q.length vc) (.int .i64 sq) (.int .i64 (m3:Int));rw[←hW] at hbx;obtain⟨⟨y0,y1,y2⟩,_⟩:=zx4 hbx;have HW:=zaa hW;rw[←hW];clear hW hbx z0 z1 z2 zf;refine bodyPost_ret (v:=.tuple #[.agg #[.slice va q.length vc,.int .i64 sq,.int .i64 (m3:Int)],.int .i64 0]) (by simp[results,Tryz.results76,go_sem,y0,y1,y2]) rfl ?_;rw[ScPost,HS0.o];refine⟨_,rfl,?_,fun h=>absurd rfl h,fun _=>⟨q,va,vc,?_,?_,?_,?_⟩⟩
    ·rw[HW.o]
     exact((HB.o.setCell (p:=⟨w.heap.size+1,0,none⟩) (by simp) _).setCell (p:=⟨w.heap.size+1,1,none⟩) (by simp) _).setCell (p:=⟨w.heap.size+1,2,none⟩) (by simp) _
    ·rw[HPOS.o,HEND.o,HSQ.o,←HQS.o,HM3.o]
    ·rw[HEND.o]
    ·rw[HW.o]
     refine za5 (zfd HO3.o ?_) (show w.heap.size≤w1.heap.size+3 by omega);intro k hk;have:=(HO3.o.lt k hk).1;omega
    ·intro x hx
     rw[HW.o];exact OwnR.base (OwnR.set3 (HX3.o x hx) (by omega)) (by omega)
 ·have hE':(scanE d !=0)=true:=by simpa using hE
  have HE:=zaa hE;clear hsu hE;generalize hEE:scanE d=E at *;have HEE:=zaa hEE;clear hEE;obtain⟨⟨z0,z1,z2⟩,zf⟩:=zx4 KB.o;go_wp2;obtain⟨W,hW⟩:∃W,W=((((w1.setCell ⟨w.heap.size+1,0,none⟩ (.slice none 0 0)).setCell ⟨w.heap.size+1,1,none⟩ (.int .i64 0)).setCell ⟨w.heap.size+1,2,none⟩ (.int .i64 0)).alloc (.cells #[.int .i64 k,.int .i64 q0,.int .i64 p,.slice a2 n2 c2,.slice a3 n3 c3] 119)):=⟨_,rfl⟩;have hbx:=zt9 KB.o (.slice none 0 0) (.int .i64 0) (.int .i64 0) (.cells #[.int .i64 k,.int .i64 q0,.int .i64 p,.slice a2 n2 c2,.slice a3 n3 c3] 119);rw[←hW] at hbx;obtain⟨⟨y0,y1,y2⟩,_⟩:=zx4 hbx;have HW:=zaa hW;rw[←hW];clear hW hbx z0 z1 z2 zf;refine bodyPost_ret (v:=.tuple #[.agg #[.slice none 0 0,.int .i64 0,.int .i64 0],.int .i64 E]) (by simp[results,Tryz.results76,go_sem,y0,y1,y2]) rfl ?_;rw[ScPost,HEE.o];refine⟨_,rfl,?_,fun _=>rfl,fun h=>absurd h HE.o⟩;rw[HW.o];exact(((HB1.o.setCell (p:=⟨w.heap.size+1,0,none⟩) (by simp) _).setCell (p:=⟨w.heap.size+1,1,none⟩) (by simp) _).setCell (p:=⟨w.heap.size+1,2,none⟩) (by simp) _).alloc (by simp[World.setCell];omega) _
theorem zx7 (log:List ByteArray):∀(f pos:Nat) (seq:Int) (acc:List Tx),log.length - pos≤f→(scanP log pos seq acc).1.length≤acc.length+f:=by
 intro f
 induction f with
 |zero=>
  intro pos seq acc hf;rw[scanP];split
  ·rw[zex,dif_neg (by omega)]
   exact Nat.le_refl _
  ·exact Nat.le_refl _
 |succ f ih=>
  intro pos seq acc hf;rw[scanP];split
  ·split
   ·exact Nat.le_add_right _ _
   ·rename_i n t hr
    have hb:=zde log seq _ pos _ n t (Nat.le_refl _) hr;have:=ih n (seq+1) (acc++[t]) (by omega);rw[List.length_append,List.length_singleton] at this;omega
  ·exact Nat.le_add_right _ _
def fndL (d:Dk):List Tx:=if scanE d=0 then(zbv d).1 else[]
def fndN (d:Dk):Int:=if scanE d=0 then(zao d).seq+((zbv d).1.length:Int) else 0
def fndP (d:Dk):Int:=if scanE d=0 then((((zao d).pos.toNat+(zbv d).2)%24:Nat):Int) else 0
theorem zob (d:Dk):(fndL d).length≤24:=by
 unfold fndL;split
 ·have:=zx7 (logOf d (zao d).pos) 24 0 (zao d).seq [] (by rw[za6];omega)
  simpa[zbv] using this
 ·exact Nat.zero_le _
theorem ScPost.found {w w':World}{d:Dk}{e:Ending}(h:ScPost w w' d e):∃va vc,e=.returned (.tuple #[.agg #[.slice va (fndL d).length vc,.int .i64 (fndN d),.int .i64 (fndP d)],.int .i64 (scanE d)])∧SegTx w' va (fndL d)∧Below w.heap.size w w':=by
 obtain⟨v,rfl,hb,h1,h2⟩:=h;by_cases hE:scanE d=0
 ·obtain⟨q,va,vc,rfl,hq,hO,hX⟩:=h2 hE
  obtain⟨a,c,hv,hS,_⟩:=SegTx.of_owns hO hX;simp only[Value.slice.injEq] at hv;obtain⟨rfl,_,rfl⟩:=hv;have hl:fndL d=q.map (·.t):=by rw[fndL,if_pos hE,hq]
  have hlen:q.length=(zbv d).1.length:=by rw[←hq,List.length_map]
  refine⟨va,vc,?_,by rw[hl];exact hS,hb⟩;rw[hl,fndN,fndP,if_pos hE,if_pos hE,List.length_map,hlen]
 ·rw[h1 hE]
  refine⟨none,0,?_,.inl (by rw[fndL,if_neg hE]),hb⟩;rw[fndL,fndN,fndP,if_neg hE,if_neg hE,if_neg hE];rfl
end Go.Proofs.YtjnpndfpajjihacGreat

