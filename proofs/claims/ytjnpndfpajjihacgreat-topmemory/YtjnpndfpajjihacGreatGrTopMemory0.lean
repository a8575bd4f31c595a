/-
  
-/
import Derived.Test.YtjnpndfpajjihacGreatProg
import Derived.WalkKit
import Derived.WalkSpells
import Derived.WalkLawsBesides
set_option maxRecDepth 100000
set_option maxHeartbeats 40000000
namespace Go.Proofs.YtjnpndfpajjihacGreat
open Go.RowKit
theorem _root_.Go.RowKit.Hid.o{p:Prop}(h:Hid p):p:=h
theorem zaa {p:Prop}(h:p):Hid p:=h
theorem zac {w w':World}(hb:Below w.heap.size w w'){b o:Nat}{v:Value}(hlt:b<w.heap.size)(hc:w.cell? ⟨b,o,none⟩=some v):w'.cell? ⟨b,o,none⟩=some v:=
 (hb.cell (p:=⟨b,o,none⟩) hlt).trans hc
theorem za3 {w w':World}(hb:Below w.heap.size w w'){b o:Nat}{v:Bool}(hlt:b<w.heap.size)(hc:w.frozen? ⟨b,o,none⟩=v):w'.frozen? ⟨b,o,none⟩=v:=
 (hb.frozen (p:=⟨b,o,none⟩) hlt).trans hc
theorem zo9 {W w1:World}(hb:Below W.heap.size W w1):(∀b o,b<W.heap.size→w1.cell? ⟨b,o,none⟩=W.cell? ⟨b,o,none⟩)∧(∀b o,b<W.heap.size→w1.frozen? ⟨b,o,none⟩=W.frozen? ⟨b,o,none⟩):=
 ⟨fun b o h=>hb.cell (p:=⟨b,o,none⟩) h,fun b o h=>hb.frozen (p:=⟨b,o,none⟩) h⟩
theorem zab (w:World)(o:Obj):Below w.heap.size w (w.alloc o):=(Below.refl _ _).alloc (Nat.le_refl _) _
theorem zae {a b c:World}(h:Below a.heap.size a b)(k:Below b.heap.size b c):Below a.heap.size a c:=h.trans (k.mono h.size)
theorem zah {w w':World}{base:Nat}{e:TypeId}{size:Nat}{v:Value}{n:Nat}{xs:List Value}(h:w.ownsRow base e size v n xs)(hb:Below w.heap.size w w'):w'.ownsRow base e size v n xs:=by
 refine⟨h.1,?_⟩;rcases h.2 with h0|⟨g,cap,cur,hv,hg,hh,r⟩
 ·exact .inl h0
 ·exact .inr ⟨g,cap,cur,hv,hg,by rw[hb.block g (Array.getElem?_eq_some_iff.1 hh).1];exact hh,r⟩
theorem za5 {w:World}{b b':Nat}{e:TypeId}{size:Nat}{v:Value}{n:Nat}{xs:List Value}(h:w.ownsRow b e size v n xs)(hb:b'≤b):w.ownsRow b' e size v n xs:=by
 refine⟨h.1,?_⟩;rcases h.2 with h0|⟨g,cap,cur,hv,hg,r⟩
 ·exact .inl h0
 ·exact .inr ⟨g,cap,cur,hv,by omega,r⟩
theorem ze4 {w:World}{b o:Nat}{v:Value}{p:Addr}{u:Value}(h:w.cell? ⟨b,o,none⟩=some v)(hne:b≠p.block):(w.setCell p u).cell? ⟨b,o,none⟩=some v:=
 (World.cell?_of_block (w:=w) (a:=⟨b,o,none⟩) (Below.heap_setCell _ _ _ _ hne)).trans h
structure Dk where
 safe:List ByteArray
 wr:List (Int×ByteArray)
def SegS (w:World)(a:Option Addr)(ss:List ByteArray):Prop:=
 ss=[]∨∃b off,a=some ⟨b,off,none⟩∧b<w.heap.size∧∀i,i<ss.length→w.cell? ⟨b,off+i,none⟩=some (.string (ss.getD i ByteArray.empty))
def SegW (w:World)(a:Option Addr)(ws:List (Int×ByteArray)):Prop:=
 ws=[]∨∃b off,a=some ⟨b,off,none⟩∧b<w.heap.size∧∀i,i<ws.length→
  w.cell? ⟨b,off+i*2,none⟩=some (.int .i64 (ws.getD i (0,ByteArray.empty)).1)∧w.cell? ⟨b,off+i*2+1,none⟩=some (.string (ws.getD i (0,ByteArray.empty)).2)
def IsDk (w:World)(v:Value)(d:Dk):Prop:=
 ∃a c a' c',v=.agg #[.slice a d.safe.length c,.slice a' d.wr.length c']∧SegS w a d.safe∧SegW w a' d.wr∧d.safe.length≤maxLen∧d.wr.length≤maxLen
def DkFrom (n:Nat)(v:Value):Prop:=
 ∃a l c a' l' c',v=.agg #[.slice a l c,.slice a' l' c']∧(∀b off,a=some ⟨b,off,none⟩→n≤b)∧∀b off,a'=some ⟨b,off,none⟩→n≤b
theorem SegS.below {w w':World}{a:Option Addr}{ss:List ByteArray}(h:SegS w a ss)(hb:Below w.heap.size w w'):SegS w' a ss:=by
 rcases h with h|⟨b,off,rfl,hlt,hc⟩
 ·exact .inl h
 ·exact .inr ⟨b,off,rfl,Nat.lt_of_lt_of_le hlt hb.size,fun i hi=>(hb.cell (p:=⟨b,off+i,none⟩) hlt).trans (hc i hi)⟩
theorem SegW.below {w w':World}{a:Option Addr}{ws:List (Int×ByteArray)}(h:SegW w a ws)(hb:Below w.heap.size w w'):SegW w' a ws:=by
 rcases h with h|⟨b,off,rfl,hlt,hc⟩
 ·exact .inl h
 ·exact .inr ⟨b,off,rfl,Nat.lt_of_lt_of_le hlt hb.size,fun i hi=>
   ⟨(hb.cell (p:=⟨b,off+i*2,none⟩) hlt).trans (hc i hi).1,(hb.cell (p:=⟨b,off+i*2+1,none⟩) hlt).trans (hc i hi).2⟩⟩
theorem SegS.setCell {w:World}{a:Option Addr}{ss:List ByteArray}{base:Nat}(h:SegS w a ss)(hb:∀b off,a=some ⟨b,off,none⟩→base≤b){p:Addr}(hp:p.block<base)(u:Value):SegS (w.setCell p u) a ss:=by
 rcases h with h|⟨b,off,rfl,hlt,hc⟩
 ·exact .inl h
 ·have:=hb b off rfl
  exact .inr ⟨b,off,rfl,by simpa[World.setCell] using hlt,fun i hi=>(World.cell?_of_block (w:=w) (a:=⟨b,off+i,none⟩) (Below.heap_setCell _ _ _ _ (by simp;omega))).trans (hc i hi)⟩
theorem SegW.setCell {w:World}{a:Option Addr}{ws:List (Int×ByteArray)}{base:Nat}(h:SegW w a ws)(hb:∀b off,a=some ⟨b,off,none⟩→base≤b){p:Addr}(hp:p.block<base)(u:Value):SegW (w.setCell p u) a ws:=by
 rcases h with h|⟨b,off,rfl,hlt,hc⟩
 ·exact .inl h
 ·have:=hb b off rfl
  exact .inr ⟨b,off,rfl,by simpa[World.setCell] using hlt,fun i hi=>
   ⟨(World.cell?_of_block (w:=w) (a:=⟨b,off+i*2,none⟩) (Below.heap_setCell _ _ _ _ (by simp;omega))).trans (hc i hi).1,
     (World.cell?_of_block (w:=w) (a:=⟨b,off+i*2+1,none⟩) (Below.heap_setCell _ _ _ _ (by simp;omega))).trans (hc i hi).2⟩⟩
theorem IsDk.below {w w':World}{v:Value}{d:Dk}(h:IsDk w v d)(hb:Below w.heap.size w w'):IsDk w' v d:=by
 obtain⟨a,c,a',c',rfl,hs,hw,h1,h2⟩:=h;exact⟨a,c,a',c',rfl,hs.below hb,hw.below hb,h1,h2⟩
def zbx (n:Int):Bool:=decide (0≤n)&&decide (n<37)
def za9 (s:ByteArray):Bool:=(s.size:Int)==32
def wrB (x:Int×ByteArray):Bool:=zbx x.1&&za9 x.2
def za1 (d:Dk):Bool:=decide (d.safe.length=37)&&decide (d.wr.length≤200)&&d.safe.all za9&&d.wr.all wrB
def zd4 (n:Int)(dflt:ByteArray):List (Int×ByteArray)→ByteArray
 |[]=>dflt
 |x::r=>zd4 n (if x.1=n then x.2 else dflt) r
def zce (d:Dk)(n:Int):ByteArray:=zd4 n (d.safe.getD n.toNat ByteArray.empty) d.wr
structure Mk where
 kind:Int
 seq:Int
 pos:Int
 tags:List (Int×Bool)
 blocks:List Int
def SegI (w:World)(a:Option Addr)(l:List Int):Prop:=
 l=[]∨∃b off,a=some ⟨b,off,none⟩∧b<w.heap.size∧∀i,i<l.length→w.cell? ⟨b,off+i,none⟩=some (.int .i64 (l.getD i 0))
def SegT (w:World)(a:Option Addr)(l:List (Int×Bool)):Prop:=
 l=[]∨∃b off,a=some ⟨b,off,none⟩∧b<w.heap.size∧∀i,i<l.length→
  w.cell? ⟨b,off+i*2,none⟩=some (.int .i64 (l.getD i (0,false)).1)∧w.cell? ⟨b,off+i*2+1,none⟩=some (.bool (l.getD i (0,false)).2)
def IsMk (w:World)(v:Value)(m:Mk):Prop:=
 ∃a c a' c',v=.agg #[.int .i64 m.kind,.int .i64 m.seq,.int .i64 m.pos,.slice a m.tags.length c,.slice a' m.blocks.length c']∧SegT w a m.tags∧SegI w a' m.blocks∧m.tags.length≤maxLen∧m.blocks.length≤maxLen
theorem SegI.below {w w':World}{a:Option Addr}{l:List Int}(h:SegI w a l)(hb:Below w.heap.size w w'):SegI w' a l:=by
 rcases h with h|⟨b,off,rfl,hlt,hc⟩
 ·exact .inl h
 ·exact .inr ⟨b,off,rfl,Nat.lt_of_lt_of_le hlt hb.size,fun i hi=>zac hb hlt (hc i hi)⟩
theorem SegT.below {w w':World}{a:Option Addr}{l:List (Int×Bool)}(h:SegT w a l)(hb:Below w.heap.size w w'):SegT w' a l:=by
 rcases h with h|⟨b,off,rfl,hlt,hc⟩
 ·exact .inl h
 ·exact .inr ⟨b,off,rfl,Nat.lt_of_lt_of_le hlt hb.size,fun i hi=>⟨zac hb hlt (hc i hi).1,zac hb hlt (hc i hi).2⟩⟩
theorem IsMk.below {w w':World}{v:Value}{m:Mk}(h:IsMk w v m)(hb:Below w.heap.size w w'):IsMk w' v m:=by
 obtain⟨a,c,a',c',rfl,hs,hw,h1,h2⟩:=h;exact⟨a,c,a',c',rfl,hs.below hb,hw.below hb,h1,h2⟩
theorem zcb {α:Type}(l:List α)(k:Nat)(z:α)(h:k<l.length):l[k]?=some (l.getD k z):=by
 rw[List.getElem?_eq_getElem h,List.getD,List.getElem?_eq_getElem h];rfl
def zaz:Int→List Int→Bool
 |_,[]=>true
 |q,b::r=>if b≤q∨11<b then false else zaz b r
def zbg (l:List Int):Bool:=zaz (-1) l
def zdu (q:Int):List Int→Int
 |[]=>q
 |b::r=>zdu b r
theorem zf8 (q:Int)(l:List Int)(b:Int):zdu q (l++[b])=b:=by
 induction l generalizing q with
 |nil=>rfl
 |cons x r ih=>exact ih x
theorem zg2 (q:Int)(l:List Int)(b:Int):zaz q (l++[b])=(zaz q l&& !decide (b≤zdu q l∨11<b)):=by
 induction l generalizing q with
 |nil=>by_cases h:b≤q∨11<b<;>simp[zaz,zdu,h]
 |cons x r ih=>
  by_cases h:x≤q∨11<x
  ·simp[zaz,h]
  ·simp only[List.cons_append,zaz,if_neg h,zdu]
   exact ih x
theorem zt0 (q:Int)(l:List Int)(k:Nat)(h:zaz q (l.take k)=false):zaz q l=false:=by
 induction l generalizing q k with
 |nil=>simp at h;exact h
 |cons x r ih=>
  cases k with
  |zero=>simp[zaz] at h
  |succ k=>
   rw[List.take_succ_cons] at h;by_cases e:x≤q∨11<x
   ·simp[zaz,e]
   ·simp only[zaz,if_neg e] at h⊢
    exact ih x k h
def goodM (m:Mk):Int:=
 if m.kind<1∨4<m.kind then 3
 else if m.seq<1∨2147483647<m.seq∨m.pos<0∨23<m.pos then 2
 else if(m.kind≠1∧m.pos≠0)∨(m.kind≠2∧m.tags≠[])∨(m.kind≠3∧m.blocks≠[]) then 1
 else if(m.kind=2∧(m.tags.length<1∨10<m.tags.length))∨(m.kind=3∧(m.blocks.length<1∨20<m.blocks.length))∨zbg (m.tags.map (·.1))=false∨zbg m.blocks=false then 2
 else 0
theorem zfl {w:World}{B:Nat}{v0 v1:Value}{t:TypeId}(h:w.heap[B]?=some (.cells #[v0,v1] t (0,0))):
  (w.cell? ⟨B,0,none⟩=some v0∧w.cell? ⟨B,1,none⟩=some v1)∧(w.frozen? ⟨B,0,none⟩=false∧w.frozen? ⟨B,1,none⟩=false):=by
 refine⟨⟨?_,?_⟩,frozen_of_row w _ _ _ _ h,frozen_of_row w _ _ _ _ h⟩<;>(rw[cell_of_row w _ _ _ _ _ h];rfl)
theorem z2j {w w':World}{o:Obj}(hb:Below (w.alloc o).heap.size (w.alloc o) w'):w'.heap[w.heap.size]?=some o:=
 (hb.block _ (by simp)).trans (heap_alloc_new w o)
theorem zf9 {w w':World}{o o2:Obj}(hb:Below ((w.alloc o).alloc o2).heap.size ((w.alloc o).alloc o2) w'):w'.heap[w.heap.size]?=some o:=
 (hb.block _ (by simp;omega)).trans ((Below.heap_alloc _ _ _ (by simp)).trans (heap_alloc_new w o))
theorem zg3 {w w':World}{o o2:Obj}(hb:Below ((w.alloc o).alloc o2).heap.size ((w.alloc o).alloc o2) w'):w'.heap[w.heap.size+1]?=some o2:=by
 have:=heap_alloc_new (w.alloc o) o2;simp at this;exact(hb.block _ (by simp)).trans (by simpa using this)
theorem zjd {w:World}{B:Nat}{u0 u1:Value}{t:TypeId}(h:w.heap[B]?=some (.cells #[u0,u1] t (0,0)))(v0 v1:Value):
  ((w.setCell ⟨B,0,none⟩ v0).setCell ⟨B,1,none⟩ v1).heap[B]?=some (.cells #[v0,v1] t (0,0)):=by
 have h1:=heap_setCell_same w B 0 _ _ v0 h;rw[heap_setCell_same _ B 1 _ _ v1 h1];rfl
theorem zad {w w':World}(hb:Below w.heap.size w w'){B:Nat}(hlt:B<w.heap.size){o:Obj}(h:w.heap[B]?=some o):w'.heap[B]?=some o:=
 (hb.block _ hlt).trans h
theorem zie {w:World}{B:Nat}{v0 v1 v2 v3 v4:Value}{t:TypeId}(h:w.heap[B]?=some (.cells #[v0,v1,v2,v3,v4] t (0,0))):
  (w.cell? ⟨B,0,none⟩=some v0∧w.cell? ⟨B,1,none⟩=some v1∧w.cell? ⟨B,2,none⟩=some v2∧w.cell? ⟨B,3,none⟩=some v3∧w.cell? ⟨B,4,none⟩=some v4)∧
  (w.frozen? ⟨B,0,none⟩=false∧w.frozen? ⟨B,1,none⟩=false∧w.frozen? ⟨B,2,none⟩=false∧w.frozen? ⟨B,3,none⟩=false∧w.frozen? ⟨B,4,none⟩=false):=by
 refine⟨⟨?_,?_,?_,?_,?_⟩,frozen_of_row w _ _ _ _ h,frozen_of_row w _ _ _ _ h,frozen_of_row w _ _ _ _ h,frozen_of_row w _ _ _ _ h,frozen_of_row w _ _ _ _ h⟩<;>(rw[cell_of_row w _ _ _ _ _ h];rfl)
theorem zjt {w w':World}{o o2 o3:Obj}(hb:Below (((w.alloc o).alloc o2).alloc o3).heap.size (((w.alloc o).alloc o2).alloc o3) w'):w'.heap[w.heap.size]?=some o∧w'.heap[w.heap.size+1]?=some o2∧w'.heap[w.heap.size+1+1]?=some o3∧w.heap.size+1+1<w'.heap.size:=by
 have hz:=hb.size;simp at hz;have e1:=heap_alloc_new (w.alloc o) o2;have e2:=heap_alloc_new ((w.alloc o).alloc o2) o3;simp only[World.size_alloc] at e1 e2;refine⟨?_,?_,?_,by omega⟩
 ·exact(hb.block _ (by simp;omega)).trans ((Below.heap_alloc _ _ _ (by simp;omega)).trans ((Below.heap_alloc _ _ _ (by simp)).trans (heap_alloc_new w o)))
 ·exact(hb.block _ (by simp)).trans ((Below.heap_alloc _ _ _ (by simp)).trans e1)
 ·exact(hb.block _ (by simp)).trans e2
theorem zrs:(Tryz.prog.info? 3).map (fun i=>(i.zero,i.size,i.bytes))=some (some (.int .i64 0),1,8):=by kernel_rfl
def cellsI (l:List Int):List Value:=l.map (Value.int .i64)
theorem zdi (l:List Int):(cellsI l).length=l.length*1:=by simp[cellsI]
theorem zfm (l r:List Int):cellsI (l++r)=cellsI l++cellsI r:=by simp[cellsI]
theorem zga (l:List Int)(i:Nat)(h:i<l.length):(cellsI l)[i]?=some (.int .i64 (l.getD i 0)):=by
 rw[cellsI,List.getElem?_map,zcb l i 0 h];rfl
theorem zje {l:List Int}:∀u∈cellsI l,u.oneCell'=true:=by
 intro u hu;obtain⟨s,_,rfl⟩:=List.mem_map.1 hu;rfl
theorem SegI.of_owns {w:World}{base n:Nat}{v:Value}{l:List Int}(h:w.ownsRow base 3 1 v n (cellsI l)):∃a c,v=.slice a l.length c∧SegI w a l∧∀b off,a=some ⟨b,off,none⟩→base≤b:=by
 have hn:l.length=n:=by have:=h.1;rw[zdi] at this;omega
 subst hn;rcases h.2 with⟨rfl,h0⟩|⟨g,cap,cur,rfl,hb,hg,rest⟩
 ·exact⟨none,0,by rw[h0],.inl (List.eq_nil_of_length_eq_zero h0),fun _ _ h=>by cases h⟩
 ·refine⟨_,cap,rfl,.inr ⟨g,0,rfl,(Array.getElem?_eq_some_iff.1 hg).1,fun i hi=>?_⟩,fun _ _ h=>by cases h;exact hb⟩
  rw[Nat.zero_add,h.cellAt i (by omega),zga l i hi]
theorem zcp (n:Int)(w:World):
  Calls Tryz.prog 95 #[.int .i64 n] w fun e w'=>e=.returned (.bool (zbx n))∧w=w':=by
 by_cases h0:0≤n<;>by_cases h1:n<37
 all_goals
  go_enter Tryz.func95,Tryz.ntmps95;go_wp2;go_ret;exact⟨by simp[zbx,h0,h1],rfl⟩
theorem zfo (s:ByteArray)(w:World):
  Calls Tryz.prog 133 #[.string s] w fun e w'=>e=.returned (.bool (za9 s))∧w=w':=by
 go_enter Tryz.func133,Tryz.ntmps133;go_wp2;go_ret;exact⟨rfl,rfl⟩
theorem z0t (a:Option Addr)(n c:Nat)(a':Option Addr)(m c':Nat)(w:World)(hn:n≤maxLen)(hm:m≤maxLen)(h:¬n=37∨200<m):
  Calls Tryz.prog 94 #[.agg #[.slice a n c,.slice a' m c']] w fun e w'=>e=.returned (.bool false)∧Below w.heap.size w w':=by
 unfold maxLen at hn hm;by_cases h1:n=37
 ·have h2:(200:Int)<(m:Int):=by omega
  subst h1;go_enter Tryz.func94,Tryz.ntmps94;go_wp2;go_ret;exact⟨rfl,(Below.refl _ _).alloc (Nat.le_refl _) _⟩
 ·have h2:((n:Int)==37)=false:=by simp;omega
  go_enter Tryz.func94,Tryz.ntmps94;go_wp2;go_ret;exact⟨rfl,(Below.refl _ _).alloc (Nat.le_refl _) _⟩
theorem zt3 {α:Type}(f:α→Bool)(l:List α)(k:Nat)(x:α)(h:l[k]?=some x)(hk:(l.take k).all f=true)(hx:f x=true):(l.take (k+1)).all f=true:=by
 rw[List.take_add_one,h,List.all_append,hk];simp[hx]
theorem z2k {α:Type}(f:α→Bool)(l:List α)(k:Nat)(x:α)(h:l[k]?=some x)(hx:f x=false):l.all f=false:=by
 have:=List.mem_of_getElem? h
 cases hh:l.all f with
 |false=>rfl
 |true=>rw[List.all_eq_true] at hh;rw[hh x this] at hx;cases hx
theorem zeg {α:Type}(l:List α)(k:Nat)(z:α)(h:k<l.length):l[k]?=some (l.getD k z):=by
 rw[List.getElem?_eq_getElem h,List.getD,List.getElem?_eq_getElem h];rfl
theorem zxg (b off c:Nat)(a':Option Addr)(c':Nat)(d:Dk)(w:World)(hn:d.safe.length=37)(hm:d.wr.length≤200)(hb:b<w.heap.size)
  (hc:∀i,i<d.safe.length→w.cell? ⟨b,off+i,none⟩=some (.string (d.safe.getD i ByteArray.empty))) (hw:SegW w a' d.wr):
  Calls Tryz.prog 94 #[.agg #[.slice (some ⟨b,off,none⟩) 37 c,.slice a' d.wr.length c']] w fun e w'=>e=.returned (.bool (d.safe.all za9&&d.wr.all wrB))∧Below w.heap.size w w':=by
 have h200:¬(200:Int)<(d.wr.length:Int):=by omega
 have HN:Hid (d.safe.length=37):=hn;have HW:Hid (SegW w a' d.wr):=hw;have HC:Hid (∀i,i<d.safe.length→w.cell? ⟨b,off+i,none⟩=some (.string (d.safe.getD i ByteArray.empty))):=hc;clear hn hw hc;go_enter Tryz.func94,Tryz.ntmps94;go_wp2
 go_loop [20] (fun i=>∃k:Nat,k≤37∧i=.int .i64 k∧Hid ((d.safe.take k).all za9=true)) (fun i=>37 - (intOf i).toNat)
 case atStart=>exact⟨0,Nat.zero_le _,rfl,by simp[Hid]⟩
 case round=>
  obtain⟨k,hk,rfl,hall⟩:=hrel;by_cases hlt:k<37
  ·obtain⟨s,hs⟩:∃s,s=d.safe.getD k ByteArray.empty:=⟨_,rfl⟩
   have hck:=HC.o k (by rw[HN.o];exact hlt);have HS:Hid (d.safe[k]?=some s):=by rw[hs];exact zeg _ _ _ (by rw[HN.o];exact hlt)
   rw[←hs] at hck;clear hs;by_cases hf:za9 s=true
   ·go_wp2_with (go_at_call 133;refine(zfo _ _).mono ?_;rintro e w' ⟨rfl,rfl⟩)
    go_round
    case rel=>exact⟨k+1,by omega,by go_num,zt3 _ _ _ _ HS.o hall hf⟩
    case measure=>simp[intOf];omega
   ·have hf':za9 s=false:=by simpa using hf
    clear hf;go_wp2_with (go_at_call 133;refine(zfo _ _).mono ?_;rintro e w' ⟨rfl,rfl⟩);go_ret;exact⟨by rw[z2k _ _ _ _ HS.o hf'];rfl,(Below.refl _ _).alloc (Nat.le_refl _) _⟩
  ·have HA:Hid (d.safe.all za9=true):=by have e:k=37:=by omega
                                         have:=hall.o;rw[e,←HN.o,List.take_length] at this;exact this
   clear hall HC;go_wp2
   go_loopw [31] (fun i wr=>∃k:Nat,k≤d.wr.length∧i=.int .i64 k∧Hid ((d.wr.take k).all wrB=true)∧Below w.heap.size w wr) (fun i _=>d.wr.length - (intOf i).toNat)
   case atStart=>exact⟨0,Nat.zero_le _,rfl,by simp[Hid],(Below.refl _ _).alloc (Nat.le_refl _) _⟩
   case round=>
    obtain⟨j,hj,rfl,hall,hbel⟩:=hrel;by_cases hlj:j<d.wr.length
    ·obtain⟨b',off',rfl,hb',hcw⟩:=HW.o.resolve_left (by intro e;rw[e] at hlj;simp at hlj)
     obtain⟨x,hx⟩:∃x,x=d.wr.getD j (0,ByteArray.empty):=⟨_,rfl⟩;obtain⟨hc1,hc2⟩:=hcw j hlj;rw[←hx] at hc1 hc2;have HX:Hid (d.wr[j]?=some x):=by rw[hx];exact zeg _ _ _ hlj
     clear hx hcw;have g1:=zac hbel hb' hc1;have g2:=zac hbel hb' hc2;have hsz:=hbel.size;clear hc1 hc2;obtain⟨n,s⟩:=x;by_cases hp:zbx n=true<;>by_cases hf:za9 s=true
     ·go_wp2_with (first|(go_at_call 95;refine(zcp _ _).mono ?_;rintro e w' ⟨rfl,rfl⟩)|(go_at_call 133;refine(zfo _ _).mono ?_;rintro e w' ⟨rfl,rfl⟩))
      go_roundw
      case rel=>exact⟨j+1,by omega,by go_num,zt3 _ _ _ _ HX.o hall (by simp[wrB,hp,hf]),hbel.alloc hsz _⟩
      case measure=>simp[intOf];omega
     all_goals
      have hno:wrB (n,s)=false:=by simp[wrB, *]
      have hp':=hp;have hf':=hf
      try (rw[Bool.not_eq_true] at hp')
      try (rw[Bool.not_eq_true] at hf')
      clear hp hf;go_wp2_with (first|(go_at_call 95;refine(zcp _ _).mono ?_;rintro e w' ⟨rfl,rfl⟩)|(go_at_call 133;refine(zfo _ _).mono ?_;rintro e w' ⟨rfl,rfl⟩));go_ret;exact⟨by rw[z2k _ _ _ _ HX.o hno,Bool.and_false];rfl,hbel.alloc hsz _⟩
    ·have HB:Hid (d.wr.all wrB=true):=by have e:j=d.wr.length:=by omega
                                         have:=hall.o;rw[e,List.take_length] at this;exact this
     clear hall;go_wp2;go_ret;exact⟨by rw[HA.o,HB.o];rfl,hbel⟩
theorem zcw (v:Value)(d:Dk)(w:World)(h:IsDk w v d):
  Calls Tryz.prog 94 #[v] w fun e w'=>e=.returned (.bool (za1 d))∧Below w.heap.size w w':=by
 obtain⟨a,c,a',c',rfl,hs,hw,h1,h2⟩:=h;by_cases hno:¬d.safe.length=37∨200<d.wr.length
 ·have e:za1 d=false:=by
   rcases hno with h|h
   ·simp[za1,h]
   ·simp[za1,Nat.not_le.2 h]
  rw[e];exact z0t a _ c a' _ c' w h1 h2 hno
 ·have hn:d.safe.length=37:=by omega
  have hm:d.wr.length≤200:=by omega
  obtain⟨b,off,rfl,hb,hc⟩:=hs.resolve_left (by intro e;rw[e] at hn;simp at hn);have e:za1 d=(d.safe.all za9&&d.wr.all wrB):=by simp[za1,hn,hm]
  rw[e];have:=zxg b off c a' c' d w hn hm hb hc hw;rw[←hn] at this;exact this
theorem zhz (n:Int)(z:ByteArray)(l:List (Int×ByteArray))(x:Int×ByteArray):zd4 n z (l++[x])=if x.1=n then x.2 else zd4 n z l:=by
 induction l generalizing z with
 |nil=>rfl
 |cons y r ih=>exact ih _
theorem zux (n:Int)(z:ByteArray)(l:List (Int×ByteArray))(j:Nat)(x:Int×ByteArray)(h:l[j]?=some x)(hx:x.1=n):zd4 n z (l.take (j+1))=x.2:=by
 rw[List.take_add_one,h];simp only[Option.toList_some];rw[zhz,if_pos hx]
theorem zrw (n:Int)(z:ByteArray)(l:List (Int×ByteArray))(j:Nat)(x:Int×ByteArray)(h:l[j]?=some x)(hx:¬x.1=n):zd4 n z (l.take (j+1))=zd4 n z (l.take j):=by
 rw[List.take_add_one,h];simp only[Option.toList_some];rw[zhz,if_neg hx]
theorem zuy (b off c:Nat)(a':Option Addr)(c':Nat)(d:Dk)(n:Nat)(w:World)(hn:d.safe.length=37)(hp:n<37)(hm:d.wr.length≤200)(hb:b<w.heap.size)
  (hc:∀i,i<d.safe.length→w.cell? ⟨b,off+i,none⟩=some (.string (d.safe.getD i ByteArray.empty))) (hw:SegW w a' d.wr):
  Calls Tryz.prog 96 #[.agg #[.slice (some ⟨b,off,none⟩) 37 c,.slice a' d.wr.length c'],.int .i64 n] w fun e w'=>e=.returned (.string (zce d n))∧Below w.heap.size w w':=by
 have HW:Hid (SegW w a' d.wr):=hw;obtain⟨z,hz⟩:∃z,z=d.safe.getD n ByteArray.empty:=⟨_,rfl⟩;have hcn:=hc n (by omega);rw[←hz] at hcn;have HL:Hid (zce d n=zd4 n z d.wr):=by rw[hz];rfl
 clear hn hw hc hz;go_enter Tryz.func96,Tryz.ntmps96;go_wp2
 go_loop [5] (fun i=>∃k:Nat,k≤d.wr.length∧((k=0∧i=.int .i64 (-1))∨∃j:Nat,k=j+1∧i=.int .i64 j)∧Hid (zd4 n z d.wr=zd4 n z (d.wr.take k))) (fun i=>(intOf i+1).toNat)
 case atStart=>
  refine⟨d.wr.length,Nat.le_refl _,?_,by simp[Hid]⟩;by_cases h0:d.wr.length=0
  ·left;rw[h0];exact⟨rfl,rfl⟩
  ·right;exact⟨d.wr.length - 1,by omega,by congr 1;omega⟩
 case round=>
  obtain⟨k,hk,hi,hl⟩:=hrel;rcases hi with⟨rfl,rfl⟩|⟨j,rfl,rfl⟩
  ·clear hk
   have HF:Hid (zce d n=z):=by rw[Hid,HL.o,hl.o];rfl
   clear hl HL;go_wp2;go_ret;exact⟨by rw[HF.o];rfl,(Below.refl _ _).alloc (Nat.le_refl _) _⟩
  ·obtain⟨b',off',rfl,hb',hcw⟩:=HW.o.resolve_left (by intro e;rw[e] at hk;simp at hk)
   obtain⟨x,hx⟩:∃x,x=d.wr.getD j (0,ByteArray.empty):=⟨_,rfl⟩;obtain⟨hc1,hc2⟩:=hcw j (by omega);rw[←hx] at hc1 hc2;have HX:Hid (d.wr[j]?=some x):=by rw[hx];exact zeg _ _ _ (by omega)
   clear hx hcw;have hj:(j:Int)<(d.wr.length:Int):=by omega
   by_cases he:x.1=n
   ·have he':(x.1==(n:Int))=true:=by rw[he];simp
    have HF:Hid (zce d n=x.2):=by rw[Hid,HL.o,hl.o];exact zux _ _ _ _ _ HX.o he
    clear he;go_wp2;go_ret;exact⟨by rw[HF.o];rfl,(Below.refl _ _).alloc (Nat.le_refl _) _⟩
   ·have he':(x.1==(n:Int))=false:=by simpa using he
    have HE:Hid (¬x.1=n):=he;clear he;go_wp2
    go_round
    case rel=>
     refine⟨j,by omega,?_,by rw[Hid,hl.o];exact zrw _ _ _ _ _ HX.o HE.o⟩;by_cases h0:j=0
     ·left;subst h0;exact⟨rfl,rfl⟩
     ·right;exact⟨j - 1,by omega,by congr 1;omega⟩
    case measure=>simp[intOf]
theorem zt4 (v:Value)(d:Dk)(n:Nat)(w:World)(h:IsDk w v d)(hn:d.safe.length=37)(hp:n<37)(hm:d.wr.length≤200):
  Calls Tryz.prog 96 #[v,.int .i64 n] w fun e w'=>e=.returned (.string (zce d n))∧Below w.heap.size w w':=by
 obtain⟨a,c,a',c',rfl,hs,hw,h1,h2⟩:=h;obtain⟨b,off,rfl,hb,hc⟩:=hs.resolve_left (by intro e;rw[e] at hn;simp at hn);have:=zuy b off c a' c' d n w hn hp hm hb hc hw;rw[←hn] at this;exact this
def zal (d:Dk)(n:Int):ByteArray:=if(za1 d&&zbx n)=true then zce d n else ByteArray.empty
def readE (d:Dk)(n:Int):Int:=if(za1 d&&zbx n)=true then 0 else 2
theorem zea {d:Dk}(h:za1 d=true):d.safe.length=37∧d.wr.length≤200:=by
 simp only[za1,Bool.and_eq_true,decide_eq_true_eq] at h;exact⟨h.1.1.1,h.1.1.2⟩
theorem zxh {n:Int}(h:zbx n=true):∃k:Nat,n=k∧k<37:=by
 simp only[zbx,Bool.and_eq_true,decide_eq_true_eq] at h;obtain⟨k,rfl⟩:=Int.eq_ofNat_of_zero_le h.1;exact⟨k,rfl,by omega⟩
theorem znw (v:Value)(d:Dk)(n:Int)(w:World)(h:IsDk w v d):
  Calls Tryz.prog 55 #[v,.int .i64 n] w fun e w'=>e=.returned (.tuple #[.string (zal d n),.int .i64 (readE d n)])∧Below w.heap.size w w':=by
 have HI:Hid (IsDk w v d):=h;obtain⟨a,c,a',c',rfl,_,_,_,_⟩:=h;by_cases hg:za1 d=true
 ·by_cases hp:zbx n=true
  ·have HT:Hid (zal d n=zce d n∧readE d n=0):=by simp[Hid,zal,readE,hg,hp]
   obtain⟨k,rfl,hk⟩:=zxh hp;go_enter Tryz.func55,Tryz.ntmps55;go_wp2_with fail;refine(zcw _ d _ (HI.o.below (zab _ _))).mono ?_;rintro e w1 ⟨rfl,hb1⟩;obtain⟨hc1,hf1⟩:=zo9 hb1;have hs1:w.heap.size<w1.heap.size:=by have:=hb1.size;simp at this;omega
   go_wp2_with fail;refine(zcp _ _).mono ?_;rintro e w2 ⟨rfl,rfl⟩;go_wp2_with fail;have hb2:=zae (zab _ _) hb1;refine(zt4 _ d k _ (HI.o.below hb2) (zea hg).1 hk (zea hg).2).mono ?_;rintro e w3 ⟨rfl,hb3⟩;have HB:Hid (Below w.heap.size w w3):=zae hb2 hb3;clear hb1 hb2 hb3 hc1 hf1;go_wp2
   go_ret2
   exact⟨by rw[HT.o.1,HT.o.2];rfl,HB.o⟩
  ·have HT:Hid (zal d n=ByteArray.empty∧readE d n=2):=by simp[Hid,zal,readE,hp]
   have hp':zbx n=false:=by simpa using hp
   clear hp;go_enter Tryz.func55,Tryz.ntmps55;go_wp2_with fail;refine(zcw _ d _ (HI.o.below (zab _ _))).mono ?_;rintro e w1 ⟨rfl,hb1⟩;go_wp2_with fail;refine(zcp _ _).mono ?_;rintro e w2 ⟨rfl,rfl⟩;have HB:Hid (Below w.heap.size w w1):=zae (zab _ _) hb1;clear hb1;go_wp2
   go_ret2
   exact⟨by rw[HT.o.1,HT.o.2];rfl,HB.o⟩
 ·have HT:Hid (zal d n=ByteArray.empty∧readE d n=2):=by simp[Hid,zal,readE,hg]
  have hg':za1 d=false:=by simpa using hg
  clear hg;go_enter Tryz.func55,Tryz.ntmps55;go_wp2_with fail;refine(zcw _ d _ (HI.o.below (zab _ _))).mono ?_;rintro e w1 ⟨rfl,hb1⟩;have HB:Hid (Below w.heap.size w w1):=zae (zab _ _) hb1;clear hb1;go_wp2
  go_ret2
  exact⟨by rw[HT.o.1,HT.o.2];rfl,HB.o⟩
end Go.Proofs.YtjnpndfpajjihacGreat


namespace Go.Proofs.YtjnpndfpajjihacGreat
def z3w (s:ByteArray):List UInt8:=s.data.toList.take 32++List.replicate (32 - s.size) 0
def fitT (s:ByteArray):ByteArray:=⟨(z3w s).toArray⟩
end Go.Proofs.YtjnpndfpajjihacGreat


namespace Go.Proofs.YtjnpndfpajjihacGreat
open Go.RowKit
def Up {α:Type}(key:α→Int)(l:List α):Prop:=l.Pairwise fun x y=>key x<key y
theorem zny (q:Int)(l:List Int):zaz q l=true↔(∀x∈l,q<x∧x≤11)∧Up id l:=by
 induction l generalizing q with
 |nil=>simp[zaz,Up]
 |cons b r ih=>
  by_cases h:b≤q∨11<b
  ·simp only[zaz,if_pos h]
   constructor
   ·intro e;cases e
   ·rintro⟨e,_⟩
    have:=e b (by simp);omega
  ·simp only[zaz,if_neg h,ih b]
   simp only[Up,List.pairwise_cons,List.mem_cons,id];constructor
   ·rintro⟨e1,e2⟩
    refine⟨?_,fun x hx=>(e1 x hx).1,e2⟩;rintro x (rfl|hx)
    ·omega
    ·have:=e1 x hx;omega
   ·rintro⟨e1,e2,e3⟩
    exact⟨fun x hx=>⟨e2 x hx,(e1 x (.inr hx)).2⟩,e3⟩
theorem za8 (l:List Int):zbg l=true↔(∀x∈l,0≤x∧x≤11)∧Up id l:=by
 rw[zbg,zny];constructor
 ·rintro⟨a,b⟩;exact⟨fun x hx=>by have:=a x hx;omega,b⟩
 ·rintro⟨a,b⟩;exact⟨fun x hx=>by have:=a x hx;omega,b⟩
theorem zgc {α:Type}(key:α→Int)(l:List α):Up id (l.map key)↔Up key l:=by
 simp[Up,List.pairwise_map]
theorem Up.filter {α:Type}{key:α→Int}{l:List α}(h:Up key l)(p:α→Bool):Up key (l.filter p):=List.Pairwise.filter _ h
theorem zxm {α:Type}{key:α→Int}{l:List α}(h:Up key l)(b:Int):
  l.take (l.countP fun x=>decide (key x<b))=l.filter (fun x=>decide (key x<b))∧l.drop (l.countP fun x=>decide (key x<b))=l.filter (fun x=>decide (b≤key x)):=by
 induction l with
 |nil=>simp
 |cons x r ih=>
  have hr:=List.pairwise_cons.1 h;by_cases hx:key x<b
  ·have:=ih hr.2
   have hx':¬b≤key x:=by omega
   simp[hx,hx',this]
  ·have hx':b≤key x:=by omega
   have hall:∀y∈r,¬key y<b:=fun y hy=>by have:=hr.1 y hy;omega
   have h0:r.countP (fun x=>decide (key x<b))=0:=by rw[List.countP_eq_zero];intro y hy;simp only[decide_eq_true_eq];exact hall y hy
   have h1:r.filter (fun x=>decide (key x<b))=[]:=by rw[List.filter_eq_nil_iff];intro y hy;simp only[decide_eq_true_eq];exact hall y hy
   have h2:r.filter (fun x=>decide (b≤key x))=r:=by rw[List.filter_eq_self];intro y hy;simp only[decide_eq_true_eq];have:=hall y hy;omega
   simp[hx,hx',h0,h1,h2]
theorem z2m {α:Type}{key:α→Int}{l:List α}(h:Up key l)(b:Int)(x:α)(hx:l[l.countP fun x=>decide (key x<b)]?=some x)(hk:key x=b):
  l.drop ((l.countP fun x=>decide (key x<b))+1)=l.filter (fun x=>decide (b<key x)):=by
 induction l with
 |nil=>simp at hx
 |cons y r ih=>
  have hr:=List.pairwise_cons.1 h;by_cases hy:key y<b
  ·have hy':¬b<key y:=by omega
   have hc:(y::r).countP (fun x=>decide (key x<b))=r.countP (fun x=>decide (key x<b))+1:=by simp[hy]
   rw[hc] at hx⊢;rw[List.drop_succ_cons,List.filter_cons,if_neg (by simpa using hy')];exact ih hr.2 (by simpa using hx)
  ·have h0:r.countP (fun x=>decide (key x<b))=0:=by rw[List.countP_eq_zero];intro z hz;simp only[decide_eq_true_eq];have:=hr.1 z hz;omega
   have hc:(y::r).countP (fun x=>decide (key x<b))=0:=by simp[hy,h0]
   rw[hc] at hx⊢;simp at hx;subst hx;have h2:r.filter (fun x=>decide (b<key x))=r:=by rw[List.filter_eq_self];intro z hz;simp only[decide_eq_true_eq];have:=hr.1 z hz;omega
   simp[hk,h2]
theorem zxn {α:Type}{key:α→Int}{l:List α}(h:Up key l)(b:Int)(hx:∀x,l[l.countP fun x=>decide (key x<b)]?=some x→key x≠b):
  l.filter (fun x=>decide (b≤key x))=l.filter (fun x=>decide (b<key x)):=by
 induction l with
 |nil=>rfl
 |cons y r ih=>
  have hr:=List.pairwise_cons.1 h;by_cases hy:key y<b
  ·have hc:(y::r).countP (fun x=>decide (key x<b))=r.countP (fun x=>decide (key x<b))+1:=by simp[hy]
   rw[hc] at hx;rw[List.filter_cons,List.filter_cons,if_neg (by simp;omega),if_neg (by simp;omega)];exact ih hr.2 (fun x hx'=>hx x (by simpa using hx'))
  ·have h0:r.countP (fun x=>decide (key x<b))=0:=by rw[List.countP_eq_zero];intro z hz;simp only[decide_eq_true_eq];have:=hr.1 z hz;omega
   have hc:(y::r).countP (fun x=>decide (key x<b))=0:=by simp[hy,h0]
   rw[hc] at hx;have:=hx y (by simp);have hy2:b<key y:=by omega
   apply List.filter_congr;intro z hz;rcases List.mem_cons.1 hz with rfl|hz
   ·simp;omega
   ·have:=hr.1 z hz
    simp;omega
theorem zdw {α:Type}{key:α→Int}{l:List α}(h:Up key l)(b:Int):
  (l.any fun x=>key x==b)=true↔∃x,l[l.countP fun x=>decide (key x<b)]?=some x∧key x=b:=by
 constructor
 ·intro e
  obtain⟨x,hx,hk⟩:=List.any_eq_true.1 e;have hk:key x=b:=by simpa using hk
  induction l with
  |nil=>simp at hx
  |cons y r ih=>
   have hr:=List.pairwise_cons.1 h;by_cases hy:key y<b
   ·have hxr:x∈r:=by
     rcases List.mem_cons.1 hx with rfl|hx
     ·omega
     ·exact hx
    obtain⟨z,hz,hz2⟩:=ih hr.2 (List.any_eq_true.2 ⟨x,hxr,by simpa using hk⟩) hxr;refine⟨z,?_,hz2⟩;have hc:(y::r).countP (fun x=>decide (key x<b))=r.countP (fun x=>decide (key x<b))+1:=by simp[hy]
    rw[hc]
    simpa using hz
   ·have h0:r.countP (fun x=>decide (key x<b))=0:=by rw[List.countP_eq_zero];intro z hz;simp only[decide_eq_true_eq];have:=hr.1 z hz;omega
    have hc:(y::r).countP (fun x=>decide (key x<b))=0:=by simp[hy,h0]
    refine⟨y,by rw[hc];rfl,?_⟩;rcases List.mem_cons.1 hx with rfl|hx
    ·exact hk
    ·have:=hr.1 x hx;omega
 ·rintro⟨x,hx,hk⟩
  exact List.any_eq_true.2 ⟨x,List.mem_of_getElem? hx,by simpa using hk⟩
def zkf (m r:Int):Int:=if m<0∨12<m∨r<0∨12<r then 2 else 0
def needN (m r:Int):Int:=if zkf m r=0 then 1+m+(if 0<r then 1 else 0)+(if 0<m then 1 else 0)+(if 10<m then 1 else 0) else 0
def clampN (n:Int):Int:=if n<0 then 0 else if 24<n then 24 else n
def zes (n:Int):Int:=clampN n+1+(if 0<clampN n then 1 else 0)+(if 10<clampN n then 1 else 0)+(if 20<clampN n then 1 else 0)+(if 0<clampN n then 1 else 0)+(if 20<clampN n then 1 else 0)
def zam (n l m:Int):Bool:=decide (l≤n)&&decide (n≤m)
theorem zbd {n l m:Int}:zam n l m=true↔l≤n∧n≤m:=by simp[zam]
def IsMkN (w:World)(base:Nat)(v:Value)(m:Mk):Prop:=
 ∃a c a' c',v=.agg #[.int .i64 m.kind,.int .i64 m.seq,.int .i64 m.pos,.slice a m.tags.length c,.slice a' m.blocks.length c']∧SegT w a m.tags∧SegI w a' m.blocks∧m.tags.length≤maxLen∧m.blocks.length≤maxLen∧
  (∀b off,a=some ⟨b,off,none⟩→base≤b)∧∀b off,a'=some ⟨b,off,none⟩→base≤b
theorem IsMkN.is {w:World}{base:Nat}{v:Value}{m:Mk}(h:IsMkN w base v m):IsMk w v m:=by
 obtain⟨a,c,a',c',rfl,h1,h2,h3,h4,_⟩:=h;exact⟨a,c,a',c',rfl,h1,h2,h3,h4⟩
def isMagic (s:ByteArray):Bool:=if 4≤s.size then((s.extract 0 4).toList==[87,66,75,49]) else false
def escT (s:ByteArray):ByteArray:=if isMagic s then(⟨#[0,0,0,0]⟩:ByteArray)++s.extract 4 s.size else s
def zew (s:ByteArray)(e:Bool):ByteArray:=if e=false∨s.size<4 then s else(⟨#[87,66,75,49]⟩:ByteArray)++s.extract 4 s.size
def zd8 (n:Nat):ByteArray:=⟨#[UInt8.ofNat n]⟩
def z31 (b:UInt8):Value:=.int .u8 (b.toNat:Int)
def zmc (k q:Int):ByteArray:=(⟨#[87,66,75,49]⟩:ByteArray)++zd8 k.toNat++zd8 (q/16777216).toNat++zd8 (q/65536%256).toNat++zd8 (q/256%256).toNat++zd8 (q%256).toNat
def zgf (s:ByteArray):List (Int×Bool)→ByteArray
 |[]=>s
 |x::r=>zgf ((s++zd8 x.1.toNat)++(if x.2 then(⟨#[1]⟩:ByteArray) else⟨#[0]⟩)) r
def zgg (s:ByteArray):List Int→ByteArray
 |[]=>s
 |x::r=>zgg (s++zd8 x.toNat) r
theorem zu7 (s:ByteArray)(l:List (Int×Bool))(x:Int×Bool):zgf s (l++[x])=(zgf s l++zd8 x.1.toNat)++(if x.2 then(⟨#[1]⟩:ByteArray) else⟨#[0]⟩):=by
 induction l generalizing s with
 |nil=>rfl
 |cons y r ih=>exact ih _
theorem zu8 (s:ByteArray)(l:List Int)(x:Int):zgg s (l++[x])=zgg s l++zd8 x.toNat:=by
 induction l generalizing s with
 |nil=>rfl
 |cons y r ih=>exact ih _
theorem zmz (s:ByteArray)(l:List (Int×Bool)):(zgf s l).size=s.size+2*l.length:=by
 induction l generalizing s with
 |nil=>rfl
 |cons y r ih=>
  rw[zgf,ih,ByteArray.size_append,ByteArray.size_append];have h1:(zd8 y.1.toNat).size=1:=rfl;have h2:(if y.2=true then(⟨#[1]⟩:ByteArray) else⟨#[0]⟩).size=1:=by cases y.2<;>rfl
  rw[h1,h2,List.length_cons];omega
theorem zm0 (s:ByteArray)(l:List Int):(zgg s l).size=s.size+l.length:=by
 induction l generalizing s with
 |nil=>rfl
 |cons y r ih=>
  rw[zgg,ih,ByteArray.size_append];have h1:(zd8 y.toNat).size=1:=rfl;rw[h1,List.length_cons];omega
def zn3 (m:Mk):ByteArray:=
 if m.kind=1 then zmc m.kind m.seq++zd8 m.pos.toNat
 else if m.kind=2 then zgf (zmc m.kind m.seq++zd8 m.tags.length) m.tags
 else if m.kind=3 then zgg (zmc m.kind m.seq++zd8 m.blocks.length) m.blocks
 else zmc m.kind m.seq
def encT (m:Mk):ByteArray:=if goodM m=0 then fitT (zn3 m) else ByteArray.empty
theorem zkn (q:Int)(l:List Int)(h:zaz q l=true)(hq: -1≤q):∀x∈l,0≤x∧x≤11:=by
 induction l generalizing q with
 |nil=>intro x hx;cases hx
 |cons y r ih=>
  by_cases e:y≤q∨11<y
  ·simp[zaz,e] at h
  ·simp only[zaz,if_neg e] at h
   intro x hx;rcases List.mem_cons.1 hx with rfl|hx
   ·omega
   ·exact ih y h (by omega) x hx
theorem zfr {m:Mk}(h:goodM m=0):(1≤m.kind∧m.kind≤4)∧(1≤m.seq∧m.seq≤2147483647∧0≤m.pos∧m.pos≤23)∧((m.kind≠1→m.pos=0)∧(m.kind≠2→m.tags=[])∧(m.kind≠3→m.blocks=[]))∧
  (m.kind=2→1≤m.tags.length∧m.tags.length≤10)∧(m.kind=3→1≤m.blocks.length∧m.blocks.length≤20)∧zbg (m.tags.map (·.1))=true∧zbg m.blocks=true:=by
 unfold goodM at h;by_cases h1:m.kind<1∨4<m.kind
 ·rw[if_pos h1] at h;cases h
 ·rw[if_neg h1] at h
  by_cases h2:m.seq<1∨2147483647<m.seq∨m.pos<0∨23<m.pos
  ·rw[if_pos h2] at h;cases h
  ·rw[if_neg h2] at h
   by_cases h3:(m.kind≠1∧m.pos≠0)∨(m.kind≠2∧m.tags≠[])∨(m.kind≠3∧m.blocks≠[])
   ·rw[if_pos h3] at h;cases h
   ·rw[if_neg h3] at h
    by_cases h4:(m.kind=2∧(m.tags.length<1∨10<m.tags.length))∨(m.kind=3∧(m.blocks.length<1∨20<m.blocks.length))∨zbg (m.tags.map (·.1))=false∨zbg m.blocks=false
    ·rw[if_pos h4] at h;cases h
    ·refine⟨by omega,by omega,⟨?_,?_,?_⟩,?_,?_,?_,?_⟩
     ·intro e;by_cases x:m.pos=0
      ·exact x
      ·exact absurd (.inl ⟨e,x⟩) h3
     ·intro e;by_cases x:m.tags=[]
      ·exact x
      ·exact absurd (.inr (.inl ⟨e,x⟩)) h3
     ·intro e;by_cases x:m.blocks=[]
      ·exact x
      ·exact absurd (.inr (.inr ⟨e,x⟩)) h3
     ·intro e
      have:¬(m.tags.length<1∨10<m.tags.length):=fun x=>h4 (.inl ⟨e,x⟩);omega
     ·intro e
      have:¬(m.blocks.length<1∨20<m.blocks.length):=fun x=>h4 (.inr (.inl ⟨e,x⟩));omega
     ·cases hr:zbg (m.tags.map (·.1)) with
      |true=>rfl
      |false=>exact absurd (.inr (.inr (.inl hr))) h4
     ·cases hr:zbg m.blocks with
      |true=>rfl
      |false=>exact absurd (.inr (.inr (.inr hr))) h4
theorem z1d (n:Int):zes n=clampN n+(clampN n+9)/10+(clampN n+19)/20+1:=by
 have:0≤clampN n∧clampN n≤24:=by unfold clampN;split<;>(try split)<;>omega
 unfold zes;split<;>split<;>split<;>omega
def zh7 (h u:Int):Bool:=decide (0≤h)&&decide (h≤23)&&decide (0≤u)&&decide (u≤24)
theorem zp0 {h u:Int}(e:zh7 h u=true):0≤h∧h≤23∧0≤u∧u≤24:=by
 simpa[zh7,and_assoc] using e
def takeE (h u n:Int):Int:=if zh7 h u=false∨n<0 then 2 else if 24 - u<n then 6 else 0
def zbt (h:Int)(n:Nat):List Int:=(List.range n).map fun(i:Nat)=>(h+(i:Int))%24
def takeH (h u n:Int):Int:=if takeE h u n=0 then(h+n)%24 else h
def takeU (h u n:Int):Int:=if takeE h u n=0 then u+n else u
def takeL (h u n:Int):List Int:=if takeE h u n=0 then zbt h n.toNat else[]
theorem zbl (h:Int)(n:Nat):(zbt h n).length=n:=by simp[zbt]
theorem zsl (h:Int)(n:Nat):zbt h (n+1)=zbt h n++[(h+(n:Int))%24]:=by simp[zbt,List.range_succ]
theorem zff (n l m:Int)(w:World):
  Calls Tryz.prog 56 #[.int .i64 n,.int .i64 l,.int .i64 m] w fun e w'=>e=.returned (.bool (zam n l m))∧w=w':=by
 by_cases h0:l≤n<;>by_cases h1:n≤m
 all_goals
  go_enter Tryz.func56,Tryz.ntmps56;go_wp2;go_ret;exact⟨by simp[zam,h0,h1],rfl⟩
theorem zp1 (n:Int)(w:World)(h: -24≤n)(h2:n≤1000):
  Calls Tryz.prog 215 #[.int .i64 n] w fun e w'=>e=.returned (.int .i64 (n%24))∧w=w':=by
 have r:(n+24).tmod 24=n%24:=by rw[Int.tmod_eq_emod_of_nonneg (by omega)];omega
 go_enter Tryz.func215,Tryz.ntmps215;go_wp2;go_ret;exact⟨by first|rfl|rw[r],rfl⟩
theorem zp2 (h u:Int):zh7 h u=(zam h 0 23&&zam u 0 24):=by simp[zh7,zam,Bool.and_assoc]
theorem zj0 (h u:Int)(w:World):
  Calls Tryz.prog 29 #[.agg #[.int .i64 h,.int .i64 u]] w fun e w'=>e=.returned (.bool (zh7 h u))∧Below w.heap.size w w':=by
 rw[zp2]
 cases h1:zam h 0 23 with
 |false=>
  go_enter Tryz.func29,Tryz.ntmps29;go_wp2_with (go_at_call 56;refine(zff _ _ _ _).mono ?_;rintro e w' ⟨rfl,rfl⟩);go_ret;exact⟨rfl,zab _ _⟩
 |true=>
  go_enter Tryz.func29,Tryz.ntmps29;go_wp2_with (go_at_call 56;refine(zff _ _ _ _).mono ?_;rintro e w' ⟨rfl,rfl⟩);go_ret;exact⟨by simp,zab _ _⟩
theorem zj1 (h u:Int)(w:World)(h0:0≤u)(h1:u≤24):
  Calls Tryz.prog 34 #[.agg #[.int .i64 h,.int .i64 u]] w fun e w'=>e=.returned (.int .i64 (24 - u))∧Below w.heap.size w w':=by
 go_enter Tryz.func34,Tryz.ntmps34;go_wp2;go_ret;exact⟨rfl,zab _ _⟩
theorem zp4 (n s:Int)(w:World)(h:0≤n)(h2:n≤1000)(hs:1≤s)(hs2:s≤1000):
  Calls Tryz.prog 102 #[.int .i64 n,.int .i64 s] w fun e w'=>e=.returned (.int .i64 ((n+s - 1)/s))∧w=w':=by
 have r:(n+s - 1).tdiv s=(n+s - 1)/s:=Int.tdiv_eq_ediv_of_nonneg (by omega);have hlo:0≤(n+s - 1)/s:=Int.ediv_nonneg (by omega) (by omega);have hhi:(n+s - 1)/s≤n+s - 1:=Int.ediv_le_self _ (by omega);have hs0:¬s=0:=by omega
 have hsm:¬s= -1:=by omega
 go_enter Tryz.func102,Tryz.ntmps102;go_wp2;go_ret;exact⟨by first|rfl|rw[r],rfl⟩
theorem zdp (n:Int)(w:World)(h:0≤n)(h2:n≤1000):
  Calls Tryz.prog 65 #[.int .i64 n] w fun e w'=>e=.returned (.int .i64 ((n+9)/10))∧w=w':=by
 go_enter Tryz.func65,Tryz.ntmps65;go_wp2_with fail;refine(zp4 n 10 _ h h2 (by omega) (by omega)).mono ?_;rintro e w1 ⟨rfl,rfl⟩;go_wp2;go_ret;exact⟨by first|rfl|(rw[show n+10 - 1=n+9 from by omega];rfl),rfl⟩
theorem ziw (n:Int)(w:World)(h:0≤n)(h2:n≤1000):
  Calls Tryz.prog 66 #[.int .i64 n] w fun e w'=>e=.returned (.int .i64 ((n+19)/20))∧w=w':=by
 go_enter Tryz.func66,Tryz.ntmps66;go_wp2_with fail;refine(zp4 n 20 _ h h2 (by omega) (by omega)).mono ?_;rintro e w1 ⟨rfl,rfl⟩;go_wp2;go_ret;exact⟨by first|rfl|(rw[show n+20 - 1=n+19 from by omega];rfl),rfl⟩
theorem zp5 (n:Int)(w:World):
  Calls Tryz.prog 32 #[.int .i64 n] w fun e w'=>e=.returned (.int .i64 (zes n))∧w=w':=by
 have HM:Hid (zes n=clampN n+(clampN n+9)/10+(clampN n+19)/20+1):=z1d n;by_cases h0:n<0
 ·have e0:clampN n=0:=by unfold clampN;rw[if_pos h0]
  rw[e0] at HM;have h1:¬0≤n:=by omega
  have h2:n≤24:=by omega
  go_enter Tryz.func32,Tryz.ntmps32
  go_wp2_with (first
    |(go_at_call 66;refine(ziw 0 _ (by omega) (by omega)).mono ?_;rintro e w' ⟨rfl,rfl⟩)
    |(go_at_call 65;refine(zdp 0 _ (by omega) (by omega)).mono ?_;rintro e w' ⟨rfl,rfl⟩))
  go_ret;exact⟨by rw[HM.o];rfl,rfl⟩
 ·by_cases h24:24<n
  ·have e0:clampN n=24:=by unfold clampN;rw[if_neg h0,if_pos h24]
   rw[e0] at HM;have h1:0≤n:=by omega
   have h2:¬n≤24:=by omega
   have h3:¬n<24:=by omega
   have h4:0<n:=by omega
   go_enter Tryz.func32,Tryz.ntmps32
   go_wp2_with (first
     |(go_at_call 66;refine(ziw 24 _ (by omega) (by omega)).mono ?_;rintro e w' ⟨rfl,rfl⟩)
     |(go_at_call 65;refine(zdp 24 _ (by omega) (by omega)).mono ?_;rintro e w' ⟨rfl,rfl⟩))
   go_ret;exact⟨by rw[HM.o];rfl,rfl⟩
  ·have e0:clampN n=n:=by unfold clampN;rw[if_neg h0,if_neg h24]
   rw[e0] at HM;have h1:0≤n:=by omega
   have h2:n≤24:=by omega
   have b1:0≤(n+19)/20∧(n+19)/20≤10:=by omega
   have b2:0≤(n+9)/10∧(n+9)/10≤10:=by omega
   go_enter Tryz.func32,Tryz.ntmps32
   go_wp2_with (first
     |(go_at_call 66;refine(ziw n _ (by omega) (by omega)).mono ?_;rintro e w' ⟨rfl,rfl⟩)
     |(go_at_call 65;refine(zdp n _ (by omega) (by omega)).mono ?_;rintro e w' ⟨rfl,rfl⟩))
   go_ret;exact⟨by rw[HM.o];rfl,rfl⟩
theorem zp6 (m r:Int)(w:World):
  Calls Tryz.prog 198 #[.int .i64 m,.int .i64 r] w fun e w'=>e=.returned (.tuple #[.int .i64 (needN m r),.int .i64 (zkf m r)])∧w=w':=by
 cases h1:zam m 0 12 with
 |false=>
  have HE:Hid (zkf m r=2):=by rw[Hid,zkf,if_pos];simp[zam] at h1;omega
  have HN:Hid (needN m r=0):=by simp[Hid,needN,HE.o]
  go_enter Tryz.func198,Tryz.ntmps198;go_wp2_with (go_at_call 56;refine(zff _ _ _ _).mono ?_;rintro e w' ⟨rfl,rfl⟩)
  go_ret2
  exact⟨by rw[HE.o,HN.o];rfl,rfl⟩
 |true=>
  cases h2:zam r 0 12 with
  |false=>
   have HE:Hid (zkf m r=2):=by rw[Hid,zkf,if_pos];simp[zam] at h2;omega
   have HN:Hid (needN m r=0):=by simp[Hid,needN,HE.o]
   go_enter Tryz.func198,Tryz.ntmps198;go_wp2_with (go_at_call 56;refine(zff _ _ _ _).mono ?_;rintro e w' ⟨rfl,rfl⟩)
   go_ret2
   exact⟨by rw[HE.o,HN.o];rfl,rfl⟩
  |true=>
   have hm:0≤m∧m≤12:=by simpa[zam] using h1
   have hr:0≤r∧r≤12:=by simpa[zam] using h2
   have HE:Hid (zkf m r=0):=by rw[Hid,zkf,if_neg];omega
   have HN:Hid (needN m r=(r+19)/20+(m+9)/10+m+1):=by
    rw[Hid,needN,if_pos HE.o];split<;>split<;>split<;>omega
   have b1:0≤(r+19)/20∧(r+19)/20≤10:=by omega
   have b2:0≤(m+9)/10∧(m+9)/10≤10:=by omega
   go_enter Tryz.func198,Tryz.ntmps198
   go_wp2_with (first
    |(go_at_call 56;refine(zff _ _ _ _).mono ?_;rintro e w' ⟨rfl,rfl⟩)
    |(go_at_call 66;refine(ziw r _ (by omega) (by omega)).mono ?_;rintro e w' ⟨rfl,rfl⟩)
    |(go_at_call 65;refine(zdp m _ (by omega) (by omega)).mono ?_;rintro e w' ⟨rfl,rfl⟩))
   go_ret2
   exact⟨by rw[HE.o,HN.o];rfl,rfl⟩
end Go.Proofs.YtjnpndfpajjihacGreat

