/-
  
-/
import Derived.Test.YtjnpndfpajjihacGreatProg
import Derived.WalkKit
import Derived.WalkSpells
import Derived.WalkLawsBesides
set_option maxRecDepth 100000
set_option maxHeartbeats 40000000
namespace Go.Proofs.YtjnpndfpajjihacGreat
open Go.RowKit
theorem _root_.Go.RowKit.Hid.o{p:Prop}(h:Hid p):p:=h
theorem zab{p:Prop}(h:p):Hid p:=h
theorem zac{w w':World}(hb:Below w.heap.size w w'){b o:Nat}{v:Value}(hlt:b<w.heap.size)(hc:w.cell? ⟨b,o,none⟩=some v):w'.cell? ⟨b,o,none⟩=some v:=
 (hb.cell (p:=⟨b,o,none⟩) hlt).trans hc
theorem za4{w w':World}(hb:Below w.heap.size w w'){b o:Nat}{v:Bool}(hlt:b<w.heap.size)(hc:w.frozen? ⟨b,o,none⟩=v):w'.frozen? ⟨b,o,none⟩=v:=
 (hb.frozen (p:=⟨b,o,none⟩) hlt).trans hc
theorem zpx{W w1:World}(hb:Below W.heap.size W w1):(∀b o,b<W.heap.size→w1.cell? ⟨b,o,none⟩=W.cell? ⟨b,o,none⟩)∧(∀b o,b<W.heap.size→w1.frozen? ⟨b,o,none⟩=W.frozen? ⟨b,o,none⟩):=
 ⟨fun b o h=>hb.cell (p:=⟨b,o,none⟩) h,fun b o h=>hb.frozen (p:=⟨b,o,none⟩) h⟩
theorem zaa(w:World)(o:Obj):Below w.heap.size w (w.alloc o):=(Below.refl _ _).alloc (Nat.le_refl _) _
theorem zae{a b c:World}(h:Below a.heap.size a b)(k:Below b.heap.size b c):Below a.heap.size a c:=h.trans (k.mono h.size)
theorem zah{w w':World}{base:Nat}{e:TypeId}{size:Nat}{v:Value}{n:Nat}{xs:List Value}(h:w.ownsRow base e size v n xs)(hb:Below w.heap.size w w'):w'.ownsRow base e size v n xs:=by
 refine⟨h.1,?_⟩;rcases h.2 with h0|⟨g,cap,cur,hv,hg,hh,r⟩
 ·exact .inl h0
 ·exact .inr ⟨g,cap,cur,hv,hg,by rw[hb.block g (Array.getElem?_eq_some_iff.1 hh).1];exact hh,r⟩
theorem za6{w:World}{b b':Nat}{e:TypeId}{size:Nat}{v:Value}{n:Nat}{xs:List Value}(h:w.ownsRow b e size v n xs)(hb:b'≤b):w.ownsRow b' e size v n xs:=by
 refine⟨h.1,?_⟩;rcases h.2 with h0|⟨g,cap,cur,hv,hg,r⟩
 ·exact .inl h0
 ·exact .inr ⟨g,cap,cur,hv,by omega,r⟩
theorem zeo{w:World}{b o:Nat}{v:Value}{p:Addr}{u:Value}(h:w.cell? ⟨b,o,none⟩=some v)(hne:b≠p.block):(w.setCell p u).cell? ⟨b,o,none⟩=some v:=
 (World.cell?_of_block (w:=w) (a:=⟨b,o,none⟩) (Below.heap_setCell _ _ _ _ hne)).trans h
structure Dk where
 safe:List ByteArray
 wr:List (Int×ByteArray)
def SegS (w:World)(a:Option Addr)(ss:List ByteArray):Prop:=
 ss=[]∨∃b off,a=some ⟨b,off,none⟩∧b<w.heap.size∧∀i,i<ss.length→w.cell? ⟨b,off+i,none⟩=some (.string (ss.getD i ByteArray.empty))
def SegW (w:World)(a:Option Addr)(ws:List (Int×ByteArray)):Prop:=
 ws=[]∨∃b off,a=some ⟨b,off,none⟩∧b<w.heap.size∧∀i,i<ws.length→
  w.cell? ⟨b,off+i*2,none⟩=some (.int .i64 (ws.getD i (0,ByteArray.empty)).1)∧w.cell? ⟨b,off+i*2+1,none⟩=some (.string (ws.getD i (0,ByteArray.empty)).2)
def IsDk (w:World)(v:Value)(d:Dk):Prop:=
 ∃a c a' c',v=.agg #[.slice a d.safe.length c,.slice a' d.wr.length c']∧SegS w a d.safe∧SegW w a' d.wr∧d.safe.length≤maxLen∧d.wr.length≤maxLen
def DkFrom (n:Nat)(v:Value):Prop:=
 ∃a l c a' l' c',v=.agg #[.slice a l c,.slice a' l' c']∧(∀b off,a=some ⟨b,off,none⟩→n≤b)∧∀b off,a'=some ⟨b,off,none⟩→n≤b
theorem SegS.below{w w':World}{a:Option Addr}{ss:List ByteArray}(h:SegS w a ss)(hb:Below w.heap.size w w'):SegS w' a ss:=by
 rcases h with h|⟨b,off,rfl,hlt,hc⟩
 ·exact .inl h
 ·exact .inr ⟨b,off,rfl,Nat.lt_of_lt_of_le hlt hb.size,fun i hi=>(hb.cell (p:=⟨b,off+i,none⟩) hlt).trans (hc i hi)⟩
theorem SegW.below{w w':World}{a:Option Addr}{ws:List (Int×ByteArray)}(h:SegW w a ws)(hb:Below w.heap.size w w'):SegW w' a ws:=by
 rcases h with h|⟨b,off,rfl,hlt,hc⟩
 ·exact .inl h
 ·exact .inr ⟨b,off,rfl,Nat.lt_of_lt_of_le hlt hb.size,fun i hi=>
   ⟨(hb.cell (p:=⟨b,off+i*2,none⟩) hlt).trans (hc i hi).1,(hb.cell (p:=⟨b,off+i*2+1,none⟩) hlt).trans (hc i hi).2⟩⟩
theorem SegS.setCell{w:World}{a:Option Addr}{ss:List ByteArray}{base:Nat}(h:SegS w a ss)(hb:∀b off,a=some ⟨b,off,none⟩→base≤b){p:Addr}(hp:p.block<base)(u:Value):SegS (w.setCell p u) a ss:=by
 rcases h with h|⟨b,off,rfl,hlt,hc⟩
 ·exact .inl h
 ·have:=hb b off rfl;exact .inr ⟨b,off,rfl,by simpa[World.setCell] using hlt,fun i hi=>(World.cell?_of_block (w:=w) (a:=⟨b,off+i,none⟩) (Below.heap_setCell _ _ _ _ (by simp;omega))).trans (hc i hi)⟩
theorem SegW.setCell{w:World}{a:Option Addr}{ws:List (Int×ByteArray)}{base:Nat}(h:SegW w a ws)(hb:∀b off,a=some ⟨b,off,none⟩→base≤b){p:Addr}(hp:p.block<base)(u:Value):SegW (w.setCell p u) a ws:=by
 rcases h with h|⟨b,off,rfl,hlt,hc⟩
 ·exact .inl h
 ·have:=hb b off rfl
  exact .inr ⟨b,off,rfl,by simpa[World.setCell] using hlt,fun i hi=>
   ⟨(World.cell?_of_block (w:=w) (a:=⟨b,off+i*2,none⟩) (Below.heap_setCell _ _ _ _ (by simp;omega))).trans (hc i hi).1,
     (World.cell?_of_block (w:=w) (a:=⟨b,off+i*2+1,none⟩) (Below.heap_setCell _ _ _ _ (by simp;omega))).trans (hc i hi).2⟩⟩
theorem IsDk.below{w w':World}{v:Value}{d:Dk}(h:IsDk w v d)(hb:Below w.heap.size w w'):IsDk w' v d:=by
 obtain⟨a,c,A,C,rfl,E,F,D,B⟩:=h;exact⟨a,c,A,C,rfl,E.below hb,F.below hb,D,B⟩
def zb0 (n:Int):Bool:=decide (0≤n)&&decide (n<37)
def zbb (s:ByteArray):Bool:=(s.size:Int)==32
def wrB (x:Int×ByteArray):Bool:=zb0 x.1&&zbb x.2
def za3 (d:Dk):Bool:=decide (d.safe.length=37)&&decide (d.wr.length≤200)&&d.safe.all zbb&&d.wr.all wrB
def zeb (n:Int)(dflt:ByteArray):List (Int×ByteArray)→ByteArray
 |[]=>dflt
 |x::r=>zeb n (if x.1=n then x.2 else dflt) r
def zci (d:Dk)(n:Int):ByteArray:=zeb n (d.safe.getD n.toNat ByteArray.empty) d.wr
structure Mk where
 kind:Int
 seq:Int
 pos:Int
 tags:List (Int×Bool)
 blocks:List Int
def SegI (w:World)(a:Option Addr)(l:List Int):Prop:=
 l=[]∨∃b off,a=some ⟨b,off,none⟩∧b<w.heap.size∧∀i,i<l.length→w.cell? ⟨b,off+i,none⟩=some (.int .i64 (l.getD i 0))
def SegT (w:World)(a:Option Addr)(l:List (Int×Bool)):Prop:=
 l=[]∨∃b off,a=some ⟨b,off,none⟩∧b<w.heap.size∧∀i,i<l.length→
  w.cell? ⟨b,off+i*2,none⟩=some (.int .i64 (l.getD i (0,false)).1)∧w.cell? ⟨b,off+i*2+1,none⟩=some (.bool (l.getD i (0,false)).2)
def IsMk (w:World)(v:Value)(m:Mk):Prop:=
 ∃a c a' c',v=.agg #[.int .i64 m.kind,.int .i64 m.seq,.int .i64 m.pos,.slice a m.tags.length c,.slice a' m.blocks.length c']∧SegT w a m.tags∧SegI w a' m.blocks∧m.tags.length≤maxLen∧m.blocks.length≤maxLen
theorem SegI.below{w w':World}{a:Option Addr}{l:List Int}(h:SegI w a l)(hb:Below w.heap.size w w'):SegI w' a l:=by
 rcases h with h|⟨b,off,rfl,hlt,hc⟩
 ·exact .inl h
 ·exact .inr ⟨b,off,rfl,Nat.lt_of_lt_of_le hlt hb.size,fun i hi=>zac hb hlt (hc i hi)⟩
theorem SegT.below{w w':World}{a:Option Addr}{l:List (Int×Bool)}(h:SegT w a l)(hb:Below w.heap.size w w'):SegT w' a l:=by
 rcases h with h|⟨b,off,rfl,hlt,hc⟩
 ·exact .inl h
 ·exact .inr ⟨b,off,rfl,Nat.lt_of_lt_of_le hlt hb.size,fun i hi=>⟨zac hb hlt (hc i hi).1,zac hb hlt (hc i hi).2⟩⟩
theorem IsMk.below{w w':World}{v:Value}{m:Mk}(h:IsMk w v m)(hb:Below w.heap.size w w'):IsMk w' v m:=by
 obtain⟨a,c,A,C,rfl,E,F,D,B⟩:=h;exact⟨a,c,A,C,rfl,E.below hb,F.below hb,D,B⟩
theorem zcd{α:Type}(l:List α)(k:Nat)(z:α)(h:k<l.length):l[k]?=some (l.getD k z):=by
 rw[List.getElem?_eq_getElem h,List.getD,List.getElem?_eq_getElem h];rfl
def za1:Int→List Int→Bool
 |_,[]=>true
 |q,b::r=>if b≤q∨11<b then false else za1 b r
def zbk (l:List Int):Bool:=za1 (-1) l
def zdz (q:Int):List Int→Int
 |[]=>q
 |b::r=>zdz b r
theorem zgp(q:Int)(l:List Int)(b:Int):zdz q (l++[b])=b:=by
 induction l generalizing q with
 |nil=>rfl
 |cons x r ih=>exact ih x
theorem zhk(q:Int)(l:List Int)(b:Int):za1 q (l++[b])=(za1 q l&& !decide (b≤zdz q l∨11<b)):=by
 induction l generalizing q with
 |nil=>by_cases h:b≤q∨11<b<;>simp[za1,zdz,h]
 |cons x r ih=>
  by_cases h:x≤q∨11<x
  ·simp[za1,h]
  ·simp only[List.cons_append,za1,if_neg h,zdz];exact ih x
theorem zup(q:Int)(l:List Int)(k:Nat)(h:za1 q (l.take k)=false):za1 q l=false:=by
 induction l generalizing q k with
 |nil=>simp at h;exact h
 |cons x r ih=>
  cases k with
  |zero=>simp[za1]at h
  |succ k=>
   rw[List.take_succ_cons]at h;by_cases e:x≤q∨11<x
   ·simp[za1,e]
   ·simp only[za1,if_neg e]at h⊢;exact ih x k h
def goodM (m:Mk):Int:=
 if m.kind<1∨4<m.kind then 3
 else if m.seq<1∨2147483647<m.seq∨m.pos<0∨23<m.pos then 2
 else if(m.kind≠1∧m.pos≠0)∨(m.kind≠2∧m.tags≠[])∨(m.kind≠3∧m.blocks≠[]) then 1
 else if(m.kind=2∧(m.tags.length<1∨10<m.tags.length))∨(m.kind=3∧(m.blocks.length<1∨20<m.blocks.length))∨zbk (m.tags.map (·.1))=false∨zbk m.blocks=false then 2
 else 0
theorem zgq{w:World}{B:Nat}{v0 v1:Value}{t:TypeId}(h:w.heap[B]?=some (.cells #[v0,v1] t (0,0))):
  (w.cell? ⟨B,0,none⟩=some v0∧w.cell? ⟨B,1,none⟩=some v1)∧(w.frozen? ⟨B,0,none⟩=false∧w.frozen? ⟨B,1,none⟩=false):=by
 refine⟨⟨?_,?_⟩,frozen_of_row w _ _ _ _ h,frozen_of_row w _ _ _ _ h⟩<;>(rw[cell_of_row w _ _ _ _ _ h];rfl)
theorem z32{w w':World}{o:Obj}(hb:Below (w.alloc o).heap.size (w.alloc o) w'):w'.heap[w.heap.size]?=some o:=
 (hb.block _ (by simp)).trans (heap_alloc_new w o)
theorem zgr{w w':World}{o o2:Obj}(hb:Below ((w.alloc o).alloc o2).heap.size ((w.alloc o).alloc o2) w'):w'.heap[w.heap.size]?=some o:=
 (hb.block _ (by simp;omega)).trans ((Below.heap_alloc _ _ _ (by simp)).trans (heap_alloc_new w o))
theorem zhl{w w':World}{o o2:Obj}(hb:Below ((w.alloc o).alloc o2).heap.size ((w.alloc o).alloc o2) w'):w'.heap[w.heap.size+1]?=some o2:=by
 have:=heap_alloc_new (w.alloc o) o2;simp at this;exact(hb.block _ (by simp)).trans (by simpa using this)
theorem zjs{w:World}{B:Nat}{u0 u1:Value}{t:TypeId}(h:w.heap[B]?=some (.cells #[u0,u1] t (0,0)))(v0 v1:Value):
  ((w.setCell ⟨B,0,none⟩ v0).setCell ⟨B,1,none⟩ v1).heap[B]?=some (.cells #[v0,v1] t (0,0)):=by
 have A:=heap_setCell_same w B 0 _ _ v0 h;rw[heap_setCell_same _ B 1 _ _ v1 A];rfl
theorem zad{w w':World}(hb:Below w.heap.size w w'){B:Nat}(hlt:B<w.heap.size){o:Obj}(h:w.heap[B]?=some o):w'.heap[B]?=some o:=
 (hb.block _ hlt).trans h
theorem zis{w:World}{B:Nat}{v0 v1 v2 v3 v4:Value}{t:TypeId}(h:w.heap[B]?=some (.cells #[v0,v1,v2,v3,v4] t (0,0))):
  (w.cell? ⟨B,0,none⟩=some v0∧w.cell? ⟨B,1,none⟩=some v1∧w.cell? ⟨B,2,none⟩=some v2∧w.cell? ⟨B,3,none⟩=some v3∧w.cell? ⟨B,4,none⟩=some v4)∧
  (w.frozen? ⟨B,0,none⟩=false∧w.frozen? ⟨B,1,none⟩=false∧w.frozen? ⟨B,2,none⟩=false∧w.frozen? ⟨B,3,none⟩=false∧w.frozen? ⟨B,4,none⟩=false):=by
 refine⟨⟨?_,?_,?_,?_,?_⟩,frozen_of_row w _ _ _ _ h,frozen_of_row w _ _ _ _ h,frozen_of_row w _ _ _ _ h,frozen_of_row w _ _ _ _ h,frozen_of_row w _ _ _ _ h⟩<;>(rw[cell_of_row w _ _ _ _ _ h];rfl)
theorem zkb{w w':World}{o o2 o3:Obj}(hb:Below (((w.alloc o).alloc o2).alloc o3).heap.size (((w.alloc o).alloc o2).alloc o3) w'):w'.heap[w.heap.size]?=some o∧w'.heap[w.heap.size+1]?=some o2∧w'.heap[w.heap.size+1+1]?=some o3∧w.heap.size+1+1<w'.heap.size:=by
 have C:=hb.size;simp at C;have A:=heap_alloc_new (w.alloc o) o2;have B:=heap_alloc_new ((w.alloc o).alloc o2) o3;simp only[World.size_alloc]at A B;refine⟨?_,?_,?_,by omega⟩
 ·exact(hb.block _ (by simp;omega)).trans ((Below.heap_alloc _ _ _ (by simp;omega)).trans ((Below.heap_alloc _ _ _ (by simp)).trans (heap_alloc_new w o)))
 ·exact(hb.block _ (by simp)).trans ((Below.heap_alloc _ _ _ (by simp)).trans A)
 ·exact(hb.block _ (by simp)).trans B
theorem zse:(Tryz.prog.info? 3).map (fun i=>(i.zero,i.size,i.bytes))=some (some (.int .i64 0),1,8):=by kernel_rfl
def cellsI (l:List Int):List Value:=l.map (Value.int .i64)
theorem zdp(l:List Int):(cellsI l).length=l.length*1:=by simp[cellsI]
theorem zf7(l r:List Int):cellsI (l++r)=cellsI l++cellsI r:=by simp[cellsI]
theorem zgs(l:List Int)(i:Nat)(h:i<l.length):(cellsI l)[i]?=some (.int .i64 (l.getD i 0)):=by
 rw[cellsI,List.getElem?_map,zcd l i 0 h];rfl
theorem zjt{l:List Int}:∀u∈cellsI l,u.oneCell'=true:=by
 intro u A;obtain⟨s,_,rfl⟩:=List.mem_map.1 A;rfl
theorem SegI.of_owns{w:World}{base n:Nat}{v:Value}{l:List Int}(h:w.ownsRow base 3 1 v n (cellsI l)):∃a c,v=.slice a l.length c∧SegI w a l∧∀b off,a=some ⟨b,off,none⟩→base≤b:=by
 have A:l.length=n:=by have:=h.1;rw[zdp]at this;omega
 subst A;rcases h.2 with⟨rfl,h0⟩|⟨g,cap,cur,rfl,hb,hg,rest⟩
 ·exact⟨none,0,by rw[h0],.inl (List.eq_nil_of_length_eq_zero h0),fun _ _ h=>by cases h⟩
 ·refine⟨_,cap,rfl,.inr ⟨g,0,rfl,(Array.getElem?_eq_some_iff.1 hg).1,fun i hi=>?_⟩,fun _ _ h=>by cases h;exact hb⟩;rw[Nat.zero_add,h.cellAt i (by omega),zgs l i hi]
open Go.Proofs.Tryz
theorem zct(n:Int)(w:World):
  Calls prog 95 #[.int .i64 n] w fun e w'=>e=.returned (.bool (zb0 n))∧w=w':=by
 by_cases h0:0≤n<;>by_cases h1:n<37
 all_goals
  go_enter func95,ntmps95;go_wp2;go_ret;exact⟨by simp[zb0,h0,h1],rfl⟩
theorem zf9(s:ByteArray)(w:World):
  Calls prog 133 #[.string s] w fun e w'=>e=.returned (.bool (zbb s))∧w=w':=by
 go_enter func133,ntmps133;go_wp2;go_ret;exact⟨rfl,rfl⟩
theorem z1v(a:Option Addr)(n c:Nat)(a':Option Addr)(m c':Nat)(w:World)(hn:n≤maxLen)(hm:m≤maxLen)(h:¬n=37∨200<m):
  Calls prog 94 #[.agg #[.slice a n c,.slice a' m c']] w fun e w'=>e=.returned (.bool false)∧Below w.heap.size w w':=by
 unfold maxLen at hn hm;by_cases h1:n=37
 ·have A:(200:Int)<(m:Int):=by omega
  subst h1;go_enter func94,ntmps94;go_wp2;go_ret;exact⟨rfl,(Below.refl _ _).alloc (Nat.le_refl _) _⟩
 ·have A:((n:Int)==37)=false:=by simp;omega
  go_enter func94,ntmps94;go_wp2;go_ret;exact⟨rfl,(Below.refl _ _).alloc (Nat.le_refl _) _⟩
theorem zus{α:Type}(f:α→Bool)(l:List α)(k:Nat)(x:α)(h:l[k]?=some x)(hk:(l.take k).all f=true)(hx:f x=true):(l.take (k+1)).all f=true:=by
 rw[List.take_add_one,h,List.all_append,hk];simp[hx]
theorem z3o{α:Type}(f:α→Bool)(l:List α)(k:Nat)(x:α)(h:l[k]?=some x)(hx:f x=false):l.all f=false:=by
 have:=List.mem_of_getElem? h
 cases hh:l.all f with
 |false=>rfl
 |true=>rw[List.all_eq_true]at hh;rw[hh x this]at hx;cases hx
theorem zeq{α:Type}(l:List α)(k:Nat)(z:α)(h:k<l.length):l[k]?=some (l.getD k z):=by
 rw[List.getElem?_eq_getElem h,List.getD,List.getElem?_eq_getElem h];rfl
theorem zyc(b off c:Nat)(a':Option Addr)(c':Nat)(d:Dk)(w:World)(hn:d.safe.length=37)(hm:d.wr.length≤200)(hb:b<w.heap.size)
  (hc:∀i,i<d.safe.length→w.cell? ⟨b,off+i,none⟩=some (.string (d.safe.getD i ByteArray.empty))) (hw:SegW w a' d.wr):
  Calls prog 94 #[.agg #[.slice (some ⟨b,off,none⟩) 37 c,.slice a' d.wr.length c']] w fun e w'=>e=.returned (.bool (d.safe.all zbb&&d.wr.all wrB))∧Below w.heap.size w w':=by
 have h200:¬(200:Int)<(d.wr.length:Int):=by omega
 have HN:Hid (d.safe.length=37):=hn;have HW:Hid (SegW w a' d.wr):=hw;have HC:Hid (∀i,i<d.safe.length→w.cell? ⟨b,off+i,none⟩=some (.string (d.safe.getD i ByteArray.empty))):=hc;clear hn hw hc;go_enter func94,ntmps94;go_wp2
 go_loop [20] (fun i=>∃k:Nat,k≤37∧i=.int .i64 k∧Hid ((d.safe.take k).all zbb=true)) (fun i=>37 - (intOf i).toNat)
 case atStart=>exact⟨0,Nat.zero_le _,rfl,by simp[Hid]⟩
 case round=>
  obtain⟨k,hk,rfl,hall⟩:=hrel;by_cases hlt:k<37
  ·obtain⟨s,hs⟩:∃s,s=d.safe.getD k ByteArray.empty:=⟨_,rfl⟩;have hck:=HC.o k (by rw[HN.o];exact hlt);have HS:Hid (d.safe[k]?=some s):=by rw[hs];exact zeq _ _ _ (by rw[HN.o];exact hlt)
   rw[←hs]at hck;clear hs;by_cases hf:zbb s=true
   ·go_wp2_with (go_at_call 133;refine(zf9 _ _).mono ?_;rintro e w' ⟨rfl,rfl⟩)
    go_round
    case rel=>exact⟨k+1,by omega,by go_num,zus _ _ _ _ HS.o hall hf⟩
    case measure=>simp[intOf];omega
   ·have hf':zbb s=false:=by simpa using hf
    clear hf;go_wp2_with (go_at_call 133;refine(zf9 _ _).mono ?_;rintro e w' ⟨rfl,rfl⟩);go_ret;exact⟨by rw[z3o _ _ _ _ HS.o hf'];rfl,(Below.refl _ _).alloc (Nat.le_refl _) _⟩
  ·have HA:Hid (d.safe.all zbb=true):=by have e:k=37:=by omega
                                         have:=hall.o;rw[e,←HN.o,List.take_length]at this;exact this
   clear hall HC;go_wp2
   go_loopw [31] (fun i wr=>∃k:Nat,k≤d.wr.length∧i=.int .i64 k∧Hid ((d.wr.take k).all wrB=true)∧Below w.heap.size w wr) (fun i _=>d.wr.length - (intOf i).toNat)
   case atStart=>exact⟨0,Nat.zero_le _,rfl,by simp[Hid],(Below.refl _ _).alloc (Nat.le_refl _) _⟩
   case round=>
    obtain⟨j,hj,rfl,hall,hbel⟩:=hrel;by_cases hlj:j<d.wr.length
    ·obtain⟨b',off',rfl,hb',hcw⟩:=HW.o.resolve_left (by intro e;rw[e]at hlj;simp at hlj);obtain⟨x,hx⟩:∃x,x=d.wr.getD j (0,ByteArray.empty):=⟨_,rfl⟩;obtain⟨hc1,hc2⟩:=hcw j hlj;rw[←hx]at hc1 hc2;have HX:Hid (d.wr[j]?=some x):=by rw[hx];exact zeq _ _ _ hlj
     clear hx hcw;have g1:=zac hbel hb' hc1;have g2:=zac hbel hb' hc2;have hsz:=hbel.size;clear hc1 hc2;obtain⟨n,s⟩:=x;by_cases hp:zb0 n=true<;>by_cases hf:zbb s=true
     ·go_wp2_with (first|(go_at_call 95;refine(zct _ _).mono ?_;rintro e w' ⟨rfl,rfl⟩)|(go_at_call 133;refine(zf9 _ _).mono ?_;rintro e w' ⟨rfl,rfl⟩))
      go_roundw
      case rel=>exact⟨j+1,by omega,by go_num,zus _ _ _ _ HX.o hall (by simp[wrB,hp,hf]),hbel.alloc hsz _⟩
      case measure=>simp[intOf];omega
     all_goals
      have hno:wrB (n,s)=false:=by simp[wrB, *]
      have hp':=hp;have hf':=hf
      try (rw[Bool.not_eq_true]at hp')
      try (rw[Bool.not_eq_true]at hf')
      clear hp hf;go_wp2_with (first|(go_at_call 95;refine(zct _ _).mono ?_;rintro e w' ⟨rfl,rfl⟩)|(go_at_call 133;refine(zf9 _ _).mono ?_;rintro e w' ⟨rfl,rfl⟩));go_ret;exact⟨by rw[z3o _ _ _ _ HX.o hno,Bool.and_false];rfl,hbel.alloc hsz _⟩
    ·have HB:Hid (d.wr.all wrB=true):=by have e:j=d.wr.length:=by omega
                                         have:=hall.o;rw[e,List.take_length]at this;exact this
     clear hall;go_wp2;go_ret;exact⟨by rw[HA.o,HB.o];rfl,hbel⟩
theorem zc4(v:Value)(d:Dk)(w:World)(h:IsDk w v d):
  Calls prog 94 #[v] w fun e w'=>e=.returned (.bool (za3 d))∧Below w.heap.size w w':=by
 obtain⟨a,c,B,E,rfl,K,L,J,F⟩:=h;by_cases hno:¬d.safe.length=37∨200<d.wr.length
 ·have e:za3 d=false:=by
   rcases hno with h|h
   ·simp[za3,h]
   ·simp[za3,Nat.not_le.2 h]
  rw[e];exact z1v a _ c B _ E w J F hno
 ·have A:d.safe.length=37:=by omega
  have D:d.wr.length≤200:=by omega
  obtain⟨b,C,rfl,hb,I⟩:=K.resolve_left (by intro e;rw[e]at A;simp at A);have e:za3 d=(d.safe.all zbb&&d.wr.all wrB):=by simp[za3,A,D]
  rw[e];have:=zyc b C c B E d w A D hb I L;rw[←A]at this;exact this
theorem zic(n:Int)(z:ByteArray)(l:List (Int×ByteArray))(x:Int×ByteArray):zeb n z (l++[x])=if x.1=n then x.2 else zeb n z l:=by
 induction l generalizing z with
 |nil=>rfl
 |cons y r ih=>exact ih _
theorem zvq(n:Int)(z:ByteArray)(l:List (Int×ByteArray))(j:Nat)(x:Int×ByteArray)(h:l[j]?=some x)(hx:x.1=n):zeb n z (l.take (j+1))=x.2:=by
 rw[List.take_add_one,h];simp only[Option.toList_some];rw[zic,if_pos hx]
theorem zsi(n:Int)(z:ByteArray)(l:List (Int×ByteArray))(j:Nat)(x:Int×ByteArray)(h:l[j]?=some x)(hx:¬x.1=n):zeb n z (l.take (j+1))=zeb n z (l.take j):=by
 rw[List.take_add_one,h];simp only[Option.toList_some];rw[zic,if_neg hx]
theorem zvr(b off c:Nat)(a':Option Addr)(c':Nat)(d:Dk)(n:Nat)(w:World)(hn:d.safe.length=37)(hp:n<37)(hm:d.wr.length≤200)(hb:b<w.heap.size)
  (hc:∀i,i<d.safe.length→w.cell? ⟨b,off+i,none⟩=some (.string (d.safe.getD i ByteArray.empty))) (hw:SegW w a' d.wr):
  Calls Tryz.prog 96 #[.agg #[.slice (some ⟨b,off,none⟩) 37 c,.slice a' d.wr.length c'],.int .i64 n] w fun e w'=>e=.returned (.string (zci d n))∧Below w.heap.size w w':=by
 have R:Hid (SegW w a' d.wr):=hw;obtain⟨z,E⟩:∃z,z=d.safe.getD n ByteArray.empty:=⟨_,rfl⟩;have J:=hc n (by omega);rw[←E]at J;have D:Hid (zci d n=zeb n z d.wr):=by rw[E];rfl
 clear hn hw hc E;go_enter Tryz.func96,Tryz.ntmps96;go_wp2
 go_loop [5] (fun i=>∃k:Nat,k≤d.wr.length∧((k=0∧i=.int .i64 (-1))∨∃j:Nat,k=j+1∧i=.int .i64 j)∧Hid (zeb n z d.wr=zeb n z (d.wr.take k))) (fun i=>(intOf i+1).toNat)
 case atStart=>
  refine⟨d.wr.length,Nat.le_refl _,?_,by simp[Hid]⟩;by_cases h0:d.wr.length=0
  ·left;rw[h0];exact⟨rfl,rfl⟩
  ·right;exact⟨d.wr.length - 1,by omega,by congr 1;omega⟩
 case round=>
  obtain⟨k,C,Q,A⟩:=hrel;rcases Q with⟨rfl,rfl⟩|⟨j,rfl,rfl⟩
  ·clear C;have F:Hid (zci d n=z):=by rw[Hid,D.o,A.o];rfl
   clear A D;go_wp2;go_ret;exact⟨by rw[F.o];rfl,(Below.refl _ _).alloc (Nat.le_refl _) _⟩
  ·obtain⟨b',A0,rfl,A1,B⟩:=R.o.resolve_left (by intro e;rw[e]at C;simp at C);obtain⟨x,I⟩:∃x,x=d.wr.getD j (0,ByteArray.empty):=⟨_,rfl⟩;obtain⟨M,N⟩:=B j (by omega);rw[←I]at M N;have L:Hid (d.wr[j]?=some x):=by rw[I];exact zeq _ _ _ (by omega)
   clear I B;have hj:(j:Int)<(d.wr.length:Int):=by omega
   by_cases he:x.1=n
   ·have K:(x.1==(n:Int))=true:=by rw[he];simp
    have F:Hid (zci d n=x.2):=by rw[Hid,D.o,A.o];exact zvq _ _ _ _ _ L.o he
    clear he;go_wp2;go_ret;exact⟨by rw[F.o];rfl,(Below.refl _ _).alloc (Nat.le_refl _) _⟩
   ·have K:(x.1==(n:Int))=false:=by simpa using he
    have O:Hid (¬x.1=n):=he;clear he;go_wp2
    go_round
    case rel=>
     refine⟨j,by omega,?_,by rw[Hid,A.o];exact zsi _ _ _ _ _ L.o O.o⟩;by_cases h0:j=0
     ·left;subst h0;exact⟨rfl,rfl⟩
     ·right;exact⟨j - 1,by omega,by congr 1;omega⟩
    case measure=>simp[intOf]
theorem zut(v:Value)(d:Dk)(n:Nat)(w:World)(h:IsDk w v d)(hn:d.safe.length=37)(hp:n<37)(hm:d.wr.length≤200):
  Calls Tryz.prog 96 #[v,.int .i64 n] w fun e w'=>e=.returned (.string (zci d n))∧Below w.heap.size w w':=by
 obtain⟨a,c,B,D,rfl,E,F,h1,h2⟩:=h;obtain⟨b,A,rfl,hb,C⟩:=E.resolve_left (by intro e;rw[e]at hn;simp at hn);have:=zvr b A c B D d n w hn hp hm hb C F;rw[←hn]at this;exact this
open Go.Proofs.Tryz
def zal (d:Dk)(n:Int):ByteArray:=if(za3 d&&zb0 n)=true then zci d n else ByteArray.empty
def readE (d:Dk)(n:Int):Int:=if(za3 d&&zb0 n)=true then 0 else 2
theorem zeh{d:Dk}(h:za3 d=true):d.safe.length=37∧d.wr.length≤200:=by
 simp only[za3,Bool.and_eq_true,decide_eq_true_eq]at h;exact⟨h.1.1.1,h.1.1.2⟩
theorem zyd{n:Int}(h:zb0 n=true):∃k:Nat,n=k∧k<37:=by
 simp only[zb0,Bool.and_eq_true,decide_eq_true_eq]at h;obtain⟨k,rfl⟩:=Int.eq_ofNat_of_zero_le h.1;exact⟨k,rfl,by omega⟩
theorem zk4(v:Value)(d:Dk)(n:Int)(w:World)(h:IsDk w v d):
  Calls prog 55 #[v,.int .i64 n] w fun e w'=>e=.returned (.tuple #[.string (zal d n),.int .i64 (readE d n)])∧Below w.heap.size w w':=by
 have F:Hid (IsDk w v d):=h;obtain⟨a,c,a',c',rfl,_,_,_,_⟩:=h;by_cases hg:za3 d=true
 ·by_cases hp:zb0 n=true
  ·have B:Hid (zal d n=zci d n∧readE d n=0):=by simp[Hid,zal,readE,hg,hp]
   obtain⟨k,rfl,L⟩:=zyd hp;go_enter func55,ntmps55;go_wp2_with fail;refine(zc4 _ d _ (F.o.below (zaa _ _))).mono ?_;rintro e E ⟨rfl,A⟩;obtain⟨K,J⟩:=zpx A;have A1:w.heap.size<E.heap.size:=by have:=A.size;simp at this;omega
   go_wp2_with fail;refine(zct _ _).mono ?_;rintro e M ⟨rfl,rfl⟩;go_wp2_with fail;have C:=zae (zaa _ _) A;refine(zut _ d k _ (F.o.below C) (zeh hg).1 L (zeh hg).2).mono ?_;rintro e N ⟨rfl,I⟩;have D:Hid (Below w.heap.size w N):=zae C I;clear A C I K J;go_wp2
   go_ret2
   exact⟨by rw[B.o.1,B.o.2];rfl,D.o⟩
  ·have B:Hid (zal d n=ByteArray.empty∧readE d n=2):=by simp[Hid,zal,readE,hp]
   have A0:zb0 n=false:=by simpa using hp
   clear hp;go_enter func55,ntmps55;go_wp2_with fail;refine(zc4 _ d _ (F.o.below (zaa _ _))).mono ?_;rintro e E ⟨rfl,A⟩;go_wp2_with fail;refine(zct _ _).mono ?_;rintro e M ⟨rfl,rfl⟩;have D:Hid (Below w.heap.size w E):=zae (zaa _ _) A;clear A;go_wp2
   go_ret2
   exact⟨by rw[B.o.1,B.o.2];rfl,D.o⟩
 ·have B:Hid (zal d n=ByteArray.empty∧readE d n=2):=by simp[Hid,zal,readE,hg]
  have A2:za3 d=false:=by simpa using hg
  clear hg;go_enter func55,ntmps55;go_wp2_with fail;refine(zc4 _ d _ (F.o.below (zaa _ _))).mono ?_;rintro e E ⟨rfl,A⟩;have D:Hid (Below w.heap.size w E):=zae (zaa _ _) A;clear A;go_wp2
  go_ret2
  exact⟨by rw[B.o.1,B.o.2];rfl,D.o⟩
def z41 (s:ByteArray):List UInt8:=s.data.toList.take 32++List.replicate (32 - s.size) 0
def fitT (s:ByteArray):ByteArray:=⟨(z41 s).toArray⟩
def Up {α:Type}(key:α→Int)(l:List α):Prop:=l.Pairwise fun x y=>key x<key y
theorem zog(q:Int)(l:List Int):za1 q l=true↔(∀x∈l,q<x∧x≤11)∧Up id l:=by
 induction l generalizing q with
 |nil=>simp[za1,Up]
 |cons b r ih=>
  by_cases h:b≤q∨11<b
  ·simp only[za1,if_pos h];constructor
   ·intro e;cases e
   ·rintro⟨e,_⟩;have:=e b (by simp);omega
  ·simp only[za1,if_neg h,ih b];simp only[Up,List.pairwise_cons,List.mem_cons,id];constructor
   ·rintro⟨B,C⟩;refine⟨?_,fun x A=>(B x A).1,C⟩;rintro x (rfl|A)
    ·omega
    ·have:=B x A;omega
   ·rintro⟨B,C,D⟩;exact⟨fun x A=>⟨C x A,(B x (.inr A)).2⟩,D⟩
theorem za8(l:List Int):zbk l=true↔(∀x∈l,0≤x∧x≤11)∧Up id l:=by
 rw[zbk,zog];constructor
 ·rintro⟨a,b⟩;exact⟨fun x hx=>by have:=a x hx;omega,b⟩
 ·rintro⟨a,b⟩;exact⟨fun x hx=>by have:=a x hx;omega,b⟩
theorem zfo{α:Type}(key:α→Int)(l:List α):Up id (l.map key)↔Up key l:=by
 simp[Up,List.pairwise_map]
theorem Up.filter{α:Type}{key:α→Int}{l:List α}(h:Up key l)(p:α→Bool):Up key (l.filter p):=List.Pairwise.filter _ h
theorem zyi{α:Type}{key:α→Int}{l:List α}(h:Up key l)(b:Int):
  l.take (l.countP fun x=>decide (key x<b))=l.filter (fun x=>decide (key x<b))∧l.drop (l.countP fun x=>decide (key x<b))=l.filter (fun x=>decide (b≤key x)):=by
 induction l with
 |nil=>simp
 |cons x r ih=>
  have D:=List.pairwise_cons.1 h;by_cases hx:key x<b
  ·have:=ih D.2;have C:¬b≤key x:=by omega
   simp[hx,C,this]
  ·have C:b≤key x:=by omega
   have B:∀y∈r,¬key y<b:=fun y A=>by have:=D.1 y A;omega
   have I:r.countP (fun x=>decide (key x<b))=0:=by rw[List.countP_eq_zero];intro y A;simp only[decide_eq_true_eq];exact B y A
   have F:r.filter (fun x=>decide (key x<b))=[]:=by rw[List.filter_eq_nil_iff];intro y A;simp only[decide_eq_true_eq];exact B y A
   have E:r.filter (fun x=>decide (b≤key x))=r:=by rw[List.filter_eq_self];intro y A;simp only[decide_eq_true_eq];have:=B y A;omega
   simp[hx,C,I,F,E]
theorem z3q{α:Type}{key:α→Int}{l:List α}(h:Up key l)(b:Int)(x:α)(hx:l[l.countP fun x=>decide (key x<b)]?=some x)(hk:key x=b):
  l.drop ((l.countP fun x=>decide (key x<b))+1)=l.filter (fun x=>decide (b<key x)):=by
 induction l with
 |nil=>simp at hx
 |cons y r ih=>
  have B:=List.pairwise_cons.1 h;by_cases hy:key y<b
  ·have D:¬b<key y:=by omega
   have A:(y::r).countP (fun x=>decide (key x<b))=r.countP (fun x=>decide (key x<b))+1:=by simp[hy]
   rw[A]at hx⊢;rw[List.drop_succ_cons,List.filter_cons,if_neg (by simpa using D)];exact ih B.2 (by simpa using hx)
  ·have F:r.countP (fun x=>decide (key x<b))=0:=by rw[List.countP_eq_zero];intro z C;simp only[decide_eq_true_eq];have:=B.1 z C;omega
   have A:(y::r).countP (fun x=>decide (key x<b))=0:=by simp[hy,F]
   rw[A]at hx⊢;simp at hx;subst hx;have E:r.filter (fun x=>decide (b<key x))=r:=by rw[List.filter_eq_self];intro z C;simp only[decide_eq_true_eq];have:=B.1 z C;omega
   simp[hk,E]
theorem zyj{α:Type}{key:α→Int}{l:List α}(h:Up key l)(b:Int)(hx:∀x,l[l.countP fun x=>decide (key x<b)]?=some x→key x≠b):
  l.filter (fun x=>decide (b≤key x))=l.filter (fun x=>decide (b<key x)):=by
 induction l with
 |nil=>rfl
 |cons y r ih=>
  have B:=List.pairwise_cons.1 h;by_cases hy:key y<b
  ·have C:(y::r).countP (fun x=>decide (key x<b))=r.countP (fun x=>decide (key x<b))+1:=by simp[hy]
   rw[C]at hx;rw[List.filter_cons,List.filter_cons,if_neg (by simp;omega),if_neg (by simp;omega)];exact ih B.2 (fun x hx'=>hx x (by simpa using hx'))
  ·have D:r.countP (fun x=>decide (key x<b))=0:=by rw[List.countP_eq_zero];intro z A;simp only[decide_eq_true_eq];have:=B.1 z A;omega
   have C:(y::r).countP (fun x=>decide (key x<b))=0:=by simp[hy,D]
   rw[C]at hx;have:=hx y (by simp);have A0:b<key y:=by omega
   apply List.filter_congr;intro z A;rcases List.mem_cons.1 A with rfl|A
   ·simp;omega
   ·have:=B.1 z A;simp;omega
theorem zd1{α:Type}{key:α→Int}{l:List α}(h:Up key l)(b:Int):
  (l.any fun x=>key x==b)=true↔∃x,l[l.countP fun x=>decide (key x<b)]?=some x∧key x=b:=by
 constructor
 ·intro e;obtain⟨x,A,B⟩:=List.any_eq_true.1 e;have B:key x=b:=by simpa using B
  induction l with
  |nil=>simp at A
  |cons y r ih=>
   have E:=List.pairwise_cons.1 h;by_cases hy:key y<b
   ·have C:x∈r:=by
     rcases List.mem_cons.1 A with rfl|A
     ·omega
     ·exact A
    obtain⟨z,F,I⟩:=ih E.2 (List.any_eq_true.2 ⟨x,C,by simpa using B⟩) C;refine⟨z,?_,I⟩;have D:(y::r).countP (fun x=>decide (key x<b))=r.countP (fun x=>decide (key x<b))+1:=by simp[hy]
    rw[D]
    simpa using F
   ·have J:r.countP (fun x=>decide (key x<b))=0:=by rw[List.countP_eq_zero];intro z F;simp only[decide_eq_true_eq];have:=E.1 z F;omega
    have D:(y::r).countP (fun x=>decide (key x<b))=0:=by simp[hy,J]
    refine⟨y,by rw[D];rfl,?_⟩;rcases List.mem_cons.1 A with rfl|A
    ·exact B
    ·have:=E.1 x A;omega
 ·rintro⟨x,A,B⟩;exact List.any_eq_true.2 ⟨x,List.mem_of_getElem? A,by simpa using B⟩
def zkx (m r:Int):Int:=if m<0∨12<m∨r<0∨12<r then 2 else 0
def needN (m r:Int):Int:=if zkx m r=0 then 1+m+(if 0<r then 1 else 0)+(if 0<m then 1 else 0)+(if 10<m then 1 else 0) else 0
def clampN (n:Int):Int:=if n<0 then 0 else if 24<n then 24 else n
def ze5 (n:Int):Int:=clampN n+1+(if 0<clampN n then 1 else 0)+(if 10<clampN n then 1 else 0)+(if 20<clampN n then 1 else 0)+(if 0<clampN n then 1 else 0)+(if 20<clampN n then 1 else 0)
def zap (n l m:Int):Bool:=decide (l≤n)&&decide (n≤m)
theorem zbe{n l m:Int}:zap n l m=true↔l≤n∧n≤m:=by simp[zap]
def IsMkN (w:World)(base:Nat)(v:Value)(m:Mk):Prop:=
 ∃a c a' c',v=.agg #[.int .i64 m.kind,.int .i64 m.seq,.int .i64 m.pos,.slice a m.tags.length c,.slice a' m.blocks.length c']∧SegT w a m.tags∧SegI w a' m.blocks∧m.tags.length≤maxLen∧m.blocks.length≤maxLen∧
  (∀b off,a=some ⟨b,off,none⟩→base≤b)∧∀b off,a'=some ⟨b,off,none⟩→base≤b
theorem IsMkN.is{w:World}{base:Nat}{v:Value}{m:Mk}(h:IsMkN w base v m):IsMk w v m:=by
 obtain⟨a,c,A,D,rfl,E,B,C,F,_⟩:=h;exact⟨a,c,A,D,rfl,E,B,C,F⟩
def isMagic (s:ByteArray):Bool:=if 4≤s.size then((s.extract 0 4).toList==[87,66,75,49]) else false
def escT (s:ByteArray):ByteArray:=if isMagic s then(⟨#[0,0,0,0]⟩:ByteArray)++s.extract 4 s.size else s
def zfa (s:ByteArray)(e:Bool):ByteArray:=if e=false∨s.size<4 then s else(⟨#[87,66,75,49]⟩:ByteArray)++s.extract 4 s.size
def zef (n:Nat):ByteArray:=⟨#[UInt8.ofNat n]⟩
def z48 (b:UInt8):Value:=.int .u8 (b.toNat:Int)
def zmx (k q:Int):ByteArray:=(⟨#[87,66,75,49]⟩:ByteArray)++zef k.toNat++zef (q/16777216).toNat++zef (q/65536%256).toNat++zef (q/256%256).toNat++zef (q%256).toNat
def zgv (s:ByteArray):List (Int×Bool)→ByteArray
 |[]=>s
 |x::r=>zgv ((s++zef x.1.toNat)++(if x.2 then(⟨#[1]⟩:ByteArray) else⟨#[0]⟩)) r
def zgw (s:ByteArray):List Int→ByteArray
 |[]=>s
 |x::r=>zgw (s++zef x.toNat) r
theorem zv1(s:ByteArray)(l:List (Int×Bool))(x:Int×Bool):zgv s (l++[x])=(zgv s l++zef x.1.toNat)++(if x.2 then(⟨#[1]⟩:ByteArray) else⟨#[0]⟩):=by
 induction l generalizing s with
 |nil=>rfl
 |cons y r ih=>exact ih _
theorem zv2(s:ByteArray)(l:List Int)(x:Int):zgw s (l++[x])=zgw s l++zef x.toNat:=by
 induction l generalizing s with
 |nil=>rfl
 |cons y r ih=>exact ih _
theorem znj(s:ByteArray)(l:List (Int×Bool)):(zgv s l).size=s.size+2*l.length:=by
 induction l generalizing s with
 |nil=>rfl
 |cons y r ih=>
  rw[zgv,ih,ByteArray.size_append,ByteArray.size_append];have B:(zef y.1.toNat).size=1:=rfl;have A:(if y.2=true then(⟨#[1]⟩:ByteArray) else⟨#[0]⟩).size=1:=by cases y.2<;>rfl
  rw[B,A,List.length_cons];omega
theorem znk(s:ByteArray)(l:List Int):(zgw s l).size=s.size+l.length:=by
 induction l generalizing s with
 |nil=>rfl
 |cons y r ih=>
  rw[zgw,ih,ByteArray.size_append];have A:(zef y.toNat).size=1:=rfl;rw[A,List.length_cons];omega
def zom (m:Mk):ByteArray:=
 if m.kind=1 then zmx m.kind m.seq++zef m.pos.toNat
 else if m.kind=2 then zgv (zmx m.kind m.seq++zef m.tags.length) m.tags
 else if m.kind=3 then zgw (zmx m.kind m.seq++zef m.blocks.length) m.blocks
 else zmx m.kind m.seq
def encT (m:Mk):ByteArray:=if goodM m=0 then fitT (zom m) else ByteArray.empty
theorem zk6(q:Int)(l:List Int)(h:za1 q l=true)(hq: -1≤q):∀x∈l,0≤x∧x≤11:=by
 induction l generalizing q with
 |nil=>intro x A;cases A
 |cons y r ih=>
  by_cases e:y≤q∨11<y
  ·simp[za1,e]at h
  ·simp only[za1,if_neg e]at h;intro x A;rcases List.mem_cons.1 A with rfl|A
   ·omega
   ·exact ih y h (by omega) x A
theorem zgd{m:Mk}(h:goodM m=0):(1≤m.kind∧m.kind≤4)∧(1≤m.seq∧m.seq≤2147483647∧0≤m.pos∧m.pos≤23)∧((m.kind≠1→m.pos=0)∧(m.kind≠2→m.tags=[])∧(m.kind≠3→m.blocks=[]))∧
  (m.kind=2→1≤m.tags.length∧m.tags.length≤10)∧(m.kind=3→1≤m.blocks.length∧m.blocks.length≤20)∧zbk (m.tags.map (·.1))=true∧zbk m.blocks=true:=by
 unfold goodM at h;by_cases h1:m.kind<1∨4<m.kind
 ·rw[if_pos h1]at h;cases h
 ·rw[if_neg h1]at h;by_cases h2:m.seq<1∨2147483647<m.seq∨m.pos<0∨23<m.pos
  ·rw[if_pos h2]at h;cases h
  ·rw[if_neg h2]at h;by_cases h3:(m.kind≠1∧m.pos≠0)∨(m.kind≠2∧m.tags≠[])∨(m.kind≠3∧m.blocks≠[])
   ·rw[if_pos h3]at h;cases h
   ·rw[if_neg h3]at h;by_cases h4:(m.kind=2∧(m.tags.length<1∨10<m.tags.length))∨(m.kind=3∧(m.blocks.length<1∨20<m.blocks.length))∨zbk (m.tags.map (·.1))=false∨zbk m.blocks=false
    ·rw[if_pos h4]at h;cases h
    ·refine⟨by omega,by omega,⟨?_,?_,?_⟩,?_,?_,?_,?_⟩
     ·intro e;by_cases x:m.pos=0
      ·exact x
      ·exact absurd (.inl ⟨e,x⟩) h3
     ·intro e;by_cases x:m.tags=[]
      ·exact x
      ·exact absurd (.inr (.inl ⟨e,x⟩)) h3
     ·intro e;by_cases x:m.blocks=[]
      ·exact x
      ·exact absurd (.inr (.inr ⟨e,x⟩)) h3
     ·intro e;have:¬(m.tags.length<1∨10<m.tags.length):=fun x=>h4 (.inl ⟨e,x⟩);omega
     ·intro e;have:¬(m.blocks.length<1∨20<m.blocks.length):=fun x=>h4 (.inr (.inl ⟨e,x⟩));omega
     ·cases hr:zbk (m.tags.map (·.1)) with
      |true=>rfl
      |false=>exact absurd (.inr (.inr (.inl hr))) h4
     ·cases hr:zbk m.blocks with
      |true=>rfl
      |false=>exact absurd (.inr (.inr (.inr hr))) h4
theorem z2g(n:Int):ze5 n=clampN n+(clampN n+9)/10+(clampN n+19)/20+1:=by
 have:0≤clampN n∧clampN n≤24:=by unfold clampN;split<;>(try split)<;>omega
 unfold ze5;split<;>split<;>split<;>omega
def zii (h u:Int):Bool:=decide (0≤h)&&decide (h≤23)&&decide (0≤u)&&decide (u≤24)
theorem zqn{h u:Int}(e:zii h u=true):0≤h∧h≤23∧0≤u∧u≤24:=by
 simpa[zii,and_assoc] using e
def takeE (h u n:Int):Int:=if zii h u=false∨n<0 then 2 else if 24 - u<n then 6 else 0
def zbu (h:Int)(n:Nat):List Int:=(List.range n).map fun(i:Nat)=>(h+(i:Int))%24
def takeH (h u n:Int):Int:=if takeE h u n=0 then(h+n)%24 else h
def takeU (h u n:Int):Int:=if takeE h u n=0 then u+n else u
def takeL (h u n:Int):List Int:=if takeE h u n=0 then zbu h n.toNat else[]
theorem zbo(h:Int)(n:Nat):(zbu h n).length=n:=by simp[zbu]
theorem zs8(h:Int)(n:Nat):zbu h (n+1)=zbu h n++[(h+(n:Int))%24]:=by simp[zbu,List.range_succ]
open Go.Proofs.Tryz
theorem zfv(n l m:Int)(w:World):
  Calls prog 56 #[.int .i64 n,.int .i64 l,.int .i64 m] w fun e w'=>e=.returned (.bool (zap n l m))∧w=w':=by
 by_cases h0:l≤n<;>by_cases h1:n≤m
 all_goals
  go_enter func56,ntmps56;go_wp2;go_ret;exact⟨by simp[zap,h0,h1],rfl⟩
theorem zqo(n:Int)(w:World)(h: -24≤n)(h2:n≤1000):
  Calls prog 215 #[.int .i64 n] w fun e w'=>e=.returned (.int .i64 (n%24))∧w=w':=by
 have r:(n+24).tmod 24=n%24:=by rw[Int.tmod_eq_emod_of_nonneg (by omega)];omega
 go_enter func215,ntmps215;go_wp2;go_ret;exact⟨by first|rfl|rw[r],rfl⟩
theorem zqp(h u:Int):zii h u=(zap h 0 23&&zap u 0 24):=by simp[zii,zap,Bool.and_assoc]
theorem zki(h u:Int)(w:World):
  Calls prog 29 #[.agg #[.int .i64 h,.int .i64 u]] w fun e w'=>e=.returned (.bool (zii h u))∧Below w.heap.size w w':=by
 rw[zqp]
 cases h1:zap h 0 23 with
 |false=>
  go_enter func29,ntmps29;go_wp2_with (go_at_call 56;refine(zfv _ _ _ _).mono ?_;rintro e w' ⟨rfl,rfl⟩);go_ret;exact⟨rfl,zaa _ _⟩
 |true=>
  go_enter func29,ntmps29;go_wp2_with (go_at_call 56;refine(zfv _ _ _ _).mono ?_;rintro e w' ⟨rfl,rfl⟩);go_ret;exact⟨by simp,zaa _ _⟩
theorem zkj(h u:Int)(w:World)(h0:0≤u)(h1:u≤24):
  Calls prog 34 #[.agg #[.int .i64 h,.int .i64 u]] w fun e w'=>e=.returned (.int .i64 (24 - u))∧Below w.heap.size w w':=by
 go_enter func34,ntmps34;go_wp2;go_ret;exact⟨rfl,zaa _ _⟩
theorem zqr(n s:Int)(w:World)(h:0≤n)(h2:n≤1000)(hs:1≤s)(hs2:s≤1000):
  Calls prog 102 #[.int .i64 n,.int .i64 s] w fun e w'=>e=.returned (.int .i64 ((n+s - 1)/s))∧w=w':=by
 have r:(n+s - 1).tdiv s=(n+s - 1)/s:=Int.tdiv_eq_ediv_of_nonneg (by omega);have A1:0≤(n+s - 1)/s:=Int.ediv_nonneg (by omega) (by omega);have A3:(n+s - 1)/s≤n+s - 1:=Int.ediv_le_self _ (by omega);have A2:¬s=0:=by omega
 have A0:¬s= -1:=by omega
 go_enter func102,ntmps102;go_wp2;go_ret;exact⟨by first|rfl|rw[r],rfl⟩
theorem zdu(n:Int)(w:World)(h:0≤n)(h2:n≤1000):
  Calls prog 65 #[.int .i64 n] w fun e w'=>e=.returned (.int .i64 ((n+9)/10))∧w=w':=by
 go_enter func65,ntmps65;go_wp2_with fail;refine(zqr n 10 _ h h2 (by omega) (by omega)).mono ?_;rintro e w1 ⟨rfl,rfl⟩;go_wp2;go_ret;exact⟨by first|rfl|(rw[show n+10 - 1=n+9 from by omega];rfl),rfl⟩
theorem zi9(n:Int)(w:World)(h:0≤n)(h2:n≤1000):
  Calls prog 66 #[.int .i64 n] w fun e w'=>e=.returned (.int .i64 ((n+19)/20))∧w=w':=by
 go_enter func66,ntmps66;go_wp2_with fail;refine(zqr n 20 _ h h2 (by omega) (by omega)).mono ?_;rintro e w1 ⟨rfl,rfl⟩;go_wp2;go_ret;exact⟨by first|rfl|(rw[show n+20 - 1=n+19 from by omega];rfl),rfl⟩
theorem zqs(n:Int)(w:World):
  Calls prog 32 #[.int .i64 n] w fun e w'=>e=.returned (.int .i64 (ze5 n))∧w=w':=by
 have A:Hid (ze5 n=clampN n+(clampN n+9)/10+(clampN n+19)/20+1):=z2g n;by_cases h0:n<0
 ·have B:clampN n=0:=by unfold clampN;rw[if_pos h0]
  rw[B]at A;have D:¬0≤n:=by omega
  have C:n≤24:=by omega
  go_enter func32,ntmps32
  go_wp2_with (first
    |(go_at_call 66;refine(zi9 0 _ (by omega) (by omega)).mono ?_;rintro e w' ⟨rfl,rfl⟩)
    |(go_at_call 65;refine(zdu 0 _ (by omega) (by omega)).mono ?_;rintro e w' ⟨rfl,rfl⟩))
  go_ret;exact⟨by rw[A.o];rfl,rfl⟩
 ·by_cases h24:24<n
  ·have B:clampN n=24:=by unfold clampN;rw[if_neg h0,if_pos h24]
   rw[B]at A;have D:0≤n:=by omega
   have C:¬n≤24:=by omega
   have h3:¬n<24:=by omega
   have h4:0<n:=by omega
   go_enter func32,ntmps32
   go_wp2_with (first
     |(go_at_call 66;refine(zi9 24 _ (by omega) (by omega)).mono ?_;rintro e w' ⟨rfl,rfl⟩)
     |(go_at_call 65;refine(zdu 24 _ (by omega) (by omega)).mono ?_;rintro e w' ⟨rfl,rfl⟩))
   go_ret;exact⟨by rw[A.o];rfl,rfl⟩
  ·have B:clampN n=n:=by unfold clampN;rw[if_neg h0,if_neg h24]
   rw[B]at A;have D:0≤n:=by omega
   have C:n≤24:=by omega
   have b1:0≤(n+19)/20∧(n+19)/20≤10:=by omega
   have b2:0≤(n+9)/10∧(n+9)/10≤10:=by omega
   go_enter func32,ntmps32
   go_wp2_with (first
     |(go_at_call 66;refine(zi9 n _ (by omega) (by omega)).mono ?_;rintro e w' ⟨rfl,rfl⟩)
     |(go_at_call 65;refine(zdu n _ (by omega) (by omega)).mono ?_;rintro e w' ⟨rfl,rfl⟩))
   go_ret;exact⟨by rw[A.o];rfl,rfl⟩
theorem zqt(m r:Int)(w:World):
  Calls prog 198 #[.int .i64 m,.int .i64 r] w fun e w'=>e=.returned (.tuple #[.int .i64 (needN m r),.int .i64 (zkx m r)])∧w=w':=by
 cases h1:zap m 0 12 with
 |false=>
  have A:Hid (zkx m r=2):=by rw[Hid,zkx,if_pos];simp[zap]at h1;omega
  have B:Hid (needN m r=0):=by simp[Hid,needN,A.o]
  go_enter func198,ntmps198;go_wp2_with (go_at_call 56;refine(zfv _ _ _ _).mono ?_;rintro e w' ⟨rfl,rfl⟩)
  go_ret2
  exact⟨by rw[A.o,B.o];rfl,rfl⟩
 |true=>
  cases h2:zap r 0 12 with
  |false=>
   have A:Hid (zkx m r=2):=by rw[Hid,zkx,if_pos];simp[zap]at h2;omega
   have B:Hid (needN m r=0):=by simp[Hid,needN,A.o]
   go_enter func198,ntmps198;go_wp2_with (go_at_call 56;refine(zfv _ _ _ _).mono ?_;rintro e w' ⟨rfl,rfl⟩)
   go_ret2
   exact⟨by rw[A.o,B.o];rfl,rfl⟩
  |true=>
   have hm:0≤m∧m≤12:=by simpa[zap] using h1
   have hr:0≤r∧r≤12:=by simpa[zap] using h2
   have A:Hid (zkx m r=0):=by rw[Hid,zkx,if_neg];omega
   have B:Hid (needN m r=(r+19)/20+(m+9)/10+m+1):=by
    rw[Hid,needN,if_pos A.o];split<;>split<;>split<;>omega
   have b1:0≤(r+19)/20∧(r+19)/20≤10:=by omega
   have b2:0≤(m+9)/10∧(m+9)/10≤10:=by omega
   go_enter func198,ntmps198
   go_wp2_with (first
    |(go_at_call 56;refine(zfv _ _ _ _).mono ?_;rintro e w' ⟨rfl,rfl⟩)
    |(go_at_call 66;refine(zi9 r _ (by omega) (by omega)).mono ?_;rintro e w' ⟨rfl,rfl⟩)
    |(go_at_call 65;refine(zdu m _ (by omega) (by omega)).mono ?_;rintro e w' ⟨rfl,rfl⟩))
   go_ret2
   exact⟨by rw[A.o,B.o];rfl,rfl⟩
