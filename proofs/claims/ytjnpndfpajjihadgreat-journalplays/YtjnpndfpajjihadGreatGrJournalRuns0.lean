import Derived.Test.YtjnpndfpajjihadGreatProg
import Derived.WalkKit
import Derived.WalkSpells
import Derived.WalkLawsBesides
set_option maxRecDepth 100000
set_option maxHeartbeats 40000000
namespace Go.Proofs.YtjnpndfpajjihadGreat
open Go.RowKit
open Value renaming int -> H,slice -> M,string -> A,bool -> Y,agg -> F,tuple -> S
open IntKind renaming i64 -> G
open Option renaming none -> Z,some -> J
open Bool renaming false -> O,true -> I
open Go renaming World -> K,Value -> E
open Obj renaming cells -> T
open Ending renaming returned -> N
open _root_.ByteArray renaming empty -> U
variable{B b base n size:Nat}{a:Option Addr}{e t:TypeId}{l:List Int}{o2:Obj}{p:Addr}{ss:List ByteArray}{u v v0 v1:Value}{w w':World}{ws:List (Int×ByteArray)}{xs:List Value}
abbrev Qb:=@if_neg
abbrev Rb:=@if_pos
abbrev Sb:=@Nat.le_refl
abbrev Tb:=@Go.bodyPost_ret
abbrev Ub:=@Go.RowKit.Below.refl
abbrev Vb:=@Nat.zero_le
abbrev Wb:=@Array.getElem?_eq_some_iff
abbrev Xb:=@Nat.lt_of_lt_of_le
abbrev Yb:=@List.length_append
abbrev Zb:=@Go.RowKit.Below.setCell
abbrev zc:=@Go.heap_setCell_same
abbrev ac:=@Nat.le_trans
abbrev Bc:=@Go.IntKind.wrap_i64
abbrev Cc:=@Go.heap_alloc_new
abbrev Dc:=@Nat.zero_add
abbrev Ec:=@beq_eq_false_iff_ne
abbrev Fc:=@Nat.le_succ
abbrev Gc:=@Go.info_parts
abbrev Hc:=@Go.cell_of_row
abbrev Ic:=@List.getElem?_eq_getElem
abbrev Jc:=@Go.RowKit.ownsRow_setCell_below
abbrev Kc:=@Go.World.ownsRow_nil
abbrev Lc:=@List.take_length
abbrev Mc:=@List.mem_append
abbrev Nc:=@List.length_take
abbrev Oc:=@List.take_add_one
abbrev Qc:=@Go.below_drewN
abbrev Rc:=@List.mem_singleton
abbrev Sc:=@Go.RowKit.Below.heap_setCell
abbrev Tc:=@List.eq_nil_of_length_eq_zero
abbrev Uc:=@List.length_drop
abbrev Wc:=@List.mem_map
abbrev Xc:=@List.mem_cons
abbrev Yc:=@List.mem_of_getElem?
abbrev Zc:=@List.all_eq_true
abbrev zd:=@List.take_of_length_le
abbrev qd:=@Go.Addr.add_lit
abbrev kd:=@Go.RowKit.Below.heap_alloc
abbrev xd:=@List.length_map
abbrev yd:=@List.append_nil
abbrev jd:=@Go.frozen_of_row
abbrev bd:=@List.mem_of_mem_take
abbrev cd:=@List.getElem?_eq_none
abbrev gd:=@List.getElem?_eq_some_iff
abbrev od:=@List.append_assoc
abbrev pd:=@Int.toNat_natCast
abbrev td:=@dif_pos
abbrev wd:=@Go.wpList_append_own
abbrev Ad:=@List.mem_cons_of_mem
abbrev Bd:=@dif_neg
abbrev Cd:=@Go.World.cell?_of_block
abbrev Dd:=@Go.callsIn_wide
abbrev Ed:=@List.map_append
abbrev Gd:=@List.drop_of_length_le
abbrev Jd:=@Int.eq_ofNat_of_zero_le
abbrev Kd:=@Nat.lt_or_ge
abbrev Ld:=@List.getElem?_map
abbrev Od:=@Go.World.ownsRow.lt
abbrev Pd:=@List.length_filter_le
abbrev Qd:=@Int.tmod_eq_emod_of_nonneg
abbrev Sd:=@Go.callsIn_of_wp
abbrev Td:=@List.length_cons
abbrev Ud:=@Go.IntWalk.i64_quo
abbrev Vd:=@Nat.add_sub_cancel_left
abbrev Wd:=@Array.getElem?_setIfInBounds_ne
abbrev Xd:=@List.mem_filter
abbrev Yd:=@List.getD_cons_succ
abbrev Zd:=@Go.wpOps_cons
abbrev ze:=@List.getElem?_drop
abbrev qe:=@Ne.symm
abbrev ve:=@List.getElem?_append_left
abbrev ke:=@List.getElem?_append_right
abbrev xe:=@List.getElem_mem
abbrev ye:=@of_decide_eq_true
abbrev je:=@beq_iff_eq
abbrev ae:=@List.mem_range
abbrev be:=@List.getElem?_take_of_lt
abbrev ce:=@List.range_succ
abbrev de:=@List.flatMap_append
abbrev fe:=@List.getElem?_cons_succ
abbrev ie:=@List.filter_cons
abbrev me:=@List.drop_eq_getElem_cons
abbrev pe:=@Nat.add_zero
abbrev Ae:=@Go.rounds_succ
abbrev Be:=@List.getElem?_toArray
abbrev Ce:=@Array.ext'
abbrev De:=@Go.World.ownsRow_made
abbrev Ee:=@List.take_zero
abbrev Fe:=@Nat.sub_self
abbrev Ge:=@ByteArray.size_append
abbrev He:=@List.foldl_append
abbrev Ie:=@Go.getD_set_ne
abbrev Je:=@List.filter_eq_nil_iff
abbrev Ke:=@UInt8.toNat_inj
abbrev Le:=@Int.le_refl
abbrev Me:=@Nat.le_of_lt
abbrev Oe:=@Go.setRow_heap
abbrev Pe:=@Go.World.cells?_some
abbrev Qe:=@Go.World.grownBy_alloc
abbrev Re:=@Array.size_append
abbrev Se:=@Go.size_zeroCells
abbrev Te:=@Go.mem_ready
abbrev Ue:=@Bool.and_eq_true
abbrev Ve:=@List.any_eq_true
abbrev We:=@List.pairwise_cons
abbrev Xe:=@List.nodup_cons
abbrev Ye:=@Nat.zero_mul
abbrev Ze:=@List.length_singleton
abbrev vf:=@Bool.false_or
abbrev kf:=@Bool.or_false
abbrev jf:=@Nat.eq_zero_or_pos
abbrev af:=@Go.World.cell?_alloc_mark
abbrev bf:=@Go.run_append_own
abbrev cf:=@Nat.mod_lt
abbrev ef:=@List.length_replicate
abbrev mf:=@List.length_pos_iff
abbrev Af:=@List.foldl_cons
abbrev Bf:=@List.nodup_append
abbrev Cf:=@List.getElem?_range
abbrev Df:=@Array.getElem?_eq_getElem
abbrev Ef:=@List.getD_cons_zero
abbrev Ff:=@Go.setRow_other
abbrev Gf:=@Option.getD_some
abbrev Hf:=@Array.all_eq_true_iff_forall_mem
abbrev If:=@Bool.not_true
abbrev Jf:=@Array.getElem?_toList
abbrev Kf:=@Go.Maps.keyOf_int_mk
abbrev Lf:=@ByteArray.ext
abbrev Mf:=@List.take_append_drop
abbrev Nf:=@List.countP_le_length
abbrev Of:=@Bool.eq_iff_iff
abbrev Pf:=@Nat.mul_one
abbrev Qf:=@List.filter_append
abbrev Rf:=@Go.World.ownsRow_lit
abbrev Sf:=@Int.toNat_of_nonneg
abbrev Tf:=@ByteArray.size_extract
abbrev Uf:=@Bool.true_and
abbrev Vf:=@List.ext_getElem?
abbrev Xf:=@Go.Lib.run_eql_slice_nil
abbrev Yf:=@Go.Lib.cell?_alloc_some
abbrev Zf:=@Nat.mul_comm
abbrev zg:=@List.any_append
abbrev qg:=@List.take_succ_cons
abbrev vg:=@List.filter_filter
abbrev kg:=@List.any_eq_false
abbrev xg:=@decide_eq_false
abbrev yg:=@Go.ByteArray.toList_eq
abbrev jg:=@List.getElem?_replicate
abbrev ug:=@Bool.and_eq_true_iff
abbrev ag:=@List.mem_flatMap
abbrev bg:=@List.drop_append_of_le_length
abbrev cg:=@Nat.not_lt_zero
abbrev ig:=@Classical.byContradiction
abbrev mg:=@Go.DataW.trod_int
abbrev ng:=@Go.World.size_alloc
abbrev og:=@List.flatten_append
abbrev pg:=@Go.grownCap_le_maxLen
abbrev sg:=@Go.run_firstCells_none
abbrev tg:=@Go.growslice_fits
abbrev wg:=@List.set_append_right
abbrev Ag:=@List.replicate_succ
abbrev Bg:=@List.set_cons_zero
abbrev Cg:=@Nat.add_sub_cancel
abbrev Dg:=@Bool.or_eq_true
abbrev Eg:=@List.filter_eq_self
abbrev Fg:=@List.map_congr_left
abbrev Gg:=@Nat.le_add_right
abbrev Hg:=@List.getElem?_of_mem
abbrev Ig:=@List.getElem?_take
abbrev Jg:=@List.mem_of_mem_drop
abbrev Kg:=@Go.World.ownsRow.cellAt
abbrev Lg:=@beq_self_eq_true
abbrev Mg:=@List.getD_eq_getElem?_getD
abbrev Ng:=@Option.map_some
abbrev Og:=@Bool.and_eq_false_iff
abbrev Pg:=@List.take_append
abbrev Qg:=@List.flatMap_map
abbrev Sg:=@Array.getElem?_setIfInBounds_self_of_lt
theorem _root_.Go.RowKit.Hid.o{p:Prop}(h:Hid p):p:=h
theorem zA{p:Prop}(h:p):Hid p:=h
theorem xA(hb:Below w.heap.size w w'){o:Nat}(D:b<w.heap.size)(L:w.cell? ⟨b,o,Z⟩=J v):w'.cell? ⟨b,o,Z⟩=J v:=
 (hb.cell (p:=⟨b,o,Z⟩) D).trans L
theorem bA(hb:Below w.heap.size w w'){o:Nat}{v:Bool}(D:b<w.heap.size)(L:w.frozen? ⟨b,o,Z⟩=v):w'.frozen? ⟨b,o,Z⟩=v:=
 (hb.frozen (p:=⟨b,o,Z⟩) D).trans L
theorem QD{W D:K}(hb:Below W.heap.size W D):(∀b o,b<W.heap.size->D.cell? ⟨b,o,Z⟩=W.cell? ⟨b,o,Z⟩)/\(∀b o,b<W.heap.size->D.frozen? ⟨b,o,Z⟩=W.frozen? ⟨b,o,Z⟩):=
 ⟨λb o h=>hb.cell (p:=⟨b,o,Z⟩) h,λb o h=>hb.frozen (p:=⟨b,o,Z⟩) h⟩
theorem qA(w:K)(o:Obj):Below w.heap.size w (w.alloc o):=(Below.refl _ _).alloc (Nat.le_refl _) _
theorem vA{a b c:K}(h:Below a.heap.size a b)(k:Below b.heap.size b c):Below a.heap.size a c:=h.trans (k.mono h.size)
theorem dA(h:w.ownsRow base e size v n xs)(hb:Below w.heap.size w w'):w'.ownsRow base e size v n xs:=by
 refine⟨h.1,?_⟩;rcases h.2 with h0|⟨g,cap,D,Q,R,L,r⟩
 .exact .inl h0
 .exact .inr ⟨g,cap,D,Q,R,by rw[hb.block g (Array.getElem?_eq_some_iff.1 L).1];exact L,r⟩
theorem qB{L:Nat}(h:w.ownsRow b e size v n xs)(hb:L<=b):w.ownsRow L e size v n xs:=by
 refine⟨h.1,?_⟩;rcases h.2 with h0|⟨g,cap,D,Q,hg,r⟩
 .exact .inl h0
 .exact .inr ⟨g,cap,D,Q,by omega,r⟩
theorem lC{o:Nat}(h:w.cell? ⟨b,o,Z⟩=J v)(D:b≠p.block):(w.setCell p u).cell? ⟨b,o,Z⟩=J v:=
 (World.cell?_of_block (w:=w) (a:=⟨b,o,Z⟩) (Below.heap_setCell _ _ _ _ D)).trans h
theorem FN{o:Nat}{v:Bool}(h:w.frozen? ⟨b,o,Z⟩=v)(D:b≠p.block):(w.setCell p u).frozen? ⟨b,o,Z⟩=v:=
 (World.frozen?_of_block (w:=w) (a:=⟨b,o,Z⟩) (Below.heap_setCell _ _ _ _ D)).trans h
theorem aW{Q:TypeId}(h:w.ownsRow base e size v n xs){R:Array E}(X:w.heap[B]?=J (T R Q (0,0)))(L:e≠Q):
  ∀k,v.ownBlock=J k->k≠B:=by
 intro k A C;subst C;rcases h.2 with⟨rfl,_⟩|⟨g,cap,A0,rfl,hb,D,_⟩
 .simp[Value.ownBlock]at A
 .simp[Value.ownBlock]at A;subst A;rw[X]at D;simp only[Option.some.injEq,Obj.cells.injEq]at D;exact L D.2.1.symm
structure Dk where
 safe:List ByteArray
 wr:List (Int×ByteArray)
def SegS (w:K)(a:Option Addr)(ss:List ByteArray):Prop:=
 ss=[]\/∃b D,a=J ⟨b,D,Z⟩/\b<w.heap.size/\∀i,i<ss.length->w.cell? ⟨b,D+i,Z⟩=J (A (ss.getD i U))
def SegW (w:K)(a:Option Addr)(ws:List (Int×ByteArray)):Prop:=
 ws=[]\/∃b D,a=J ⟨b,D,Z⟩/\b<w.heap.size/\∀i,i<ws.length->
  w.cell? ⟨b,D+i*2,Z⟩=J (H G (ws.getD i (0,U)).1)/\w.cell? ⟨b,D+i*2+1,Z⟩=J (A (ws.getD i (0,U)).2)
def IsDk (w:K)(v:E)(d:Dk):Prop:=
 ∃a c D L,v=F #[M a d.safe.length c,M D d.wr.length L]/\SegS w a d.safe/\SegW w D d.wr/\d.safe.length<=maxLen/\d.wr.length<=maxLen
def VC (n:Nat)(v:E):Prop:=
 ∃a l c L Q R,v=F #[M a l c,M L Q R]/\(∀b D,a=J ⟨b,D,Z⟩->n<=b)/\∀b D,L=J ⟨b,D,Z⟩->n<=b
theorem SegS.below(h:SegS w a ss)(hb:Below w.heap.size w w'):SegS w' a ss:=by
 rcases h with h|⟨b,L,rfl,D,Q⟩
 .exact .inl h
 .exact .inr ⟨b,L,rfl,Nat.lt_of_lt_of_le D hb.size,λi R=>(hb.cell (p:=⟨b,L+i,Z⟩) D).trans (Q i R)⟩
theorem SegW.below(h:SegW w a ws)(hb:Below w.heap.size w w'):SegW w' a ws:=by
 rcases h with h|⟨b,L,rfl,D,Q⟩
 .exact .inl h
 .exact .inr ⟨b,L,rfl,Nat.lt_of_lt_of_le D hb.size,λi R=>
   ⟨(hb.cell (p:=⟨b,L+i*2,Z⟩) D).trans (Q i R).1,(hb.cell (p:=⟨b,L+i*2+1,Z⟩) D).trans (Q i R).2⟩⟩
theorem SegS.setCell(h:SegS w a ss)(hb:∀b D,a=J ⟨b,D,Z⟩->base<=b)(hp:p.block<base)(u:E):SegS (w.setCell p u) a ss:=by
 rcases h with h|⟨b,D,rfl,L,Q⟩
 .exact .inl h
 .have:=hb b D rfl;exact .inr ⟨b,D,rfl,by simpa[World.setCell] using L,λi R=>(World.cell?_of_block (w:=w) (a:=⟨b,D+i,Z⟩) (Below.heap_setCell _ _ _ _ (by simp;omega))).trans (Q i R)⟩
theorem SegW.setCell(h:SegW w a ws)(hb:∀b D,a=J ⟨b,D,Z⟩->base<=b)(hp:p.block<base)(u:E):SegW (w.setCell p u) a ws:=by
 rcases h with h|⟨b,D,rfl,L,Q⟩
 .exact .inl h
 .have:=hb b D rfl
  exact .inr ⟨b,D,rfl,by simpa[World.setCell] using L,λi R=>
   ⟨(World.cell?_of_block (w:=w) (a:=⟨b,D+i*2,Z⟩) (Below.heap_setCell _ _ _ _ (by simp;omega))).trans (Q i R).1,
     (World.cell?_of_block (w:=w) (a:=⟨b,D+i*2+1,Z⟩) (Below.heap_setCell _ _ _ _ (by simp;omega))).trans (Q i R).2⟩⟩
theorem IsDk.below{d:Dk}(h:IsDk w v d)(hb:Below w.heap.size w w'):IsDk w' v d:=by
 obtain⟨a,c,C,D,rfl,F,A,E,B⟩:=h;exact⟨a,c,C,D,rfl,F.below hb,A.below hb,E,B⟩
def QA (n:Int):Bool:=decide (0<=n)&&decide (n<37)
def oA (s:ByteArray):Bool:=(s.size:Int)==32
def wrB (x:Int×ByteArray):Bool:=QA x.1&&oA x.2
def cA (d:Dk):Bool:=decide (d.safe.length=37)&&decide (d.wr.length<=200)&&d.safe.all oA&&d.wr.all wrB
def fC (n:Int)(D:ByteArray):List (Int×ByteArray)->ByteArray
 |[]=>D
 |x::r=>fC n (if x.1=n then x.2 else D) r
def rB (d:Dk)(n:Int):ByteArray:=fC n (d.safe.getD n.toNat U) d.wr
structure Mk where
 kind:Int
 seq:Int
 pos:Int
 tags:List (Int×Bool)
 blocks:List Int
def SegI (w:K)(a:Option Addr)(l:List Int):Prop:=
 l=[]\/∃b D,a=J ⟨b,D,Z⟩/\b<w.heap.size/\∀i,i<l.length->w.cell? ⟨b,D+i,Z⟩=J (H G (l.getD i 0))
def SegT (w:K)(a:Option Addr)(l:List (Int×Bool)):Prop:=
 l=[]\/∃b D,a=J ⟨b,D,Z⟩/\b<w.heap.size/\∀i,i<l.length->
  w.cell? ⟨b,D+i*2,Z⟩=J (H G (l.getD i (0,O)).1)/\w.cell? ⟨b,D+i*2+1,Z⟩=J (Y (l.getD i (0,O)).2)
def IsMk (w:K)(v:E)(m:Mk):Prop:=
 ∃a c D L,v=F #[H G m.kind,H G m.seq,H G m.pos,M a m.tags.length c,M D m.blocks.length L]/\SegT w a m.tags/\SegI w D m.blocks/\m.tags.length<=maxLen/\m.blocks.length<=maxLen
theorem SegI.below(h:SegI w a l)(hb:Below w.heap.size w w'):SegI w' a l:=by
 rcases h with h|⟨b,L,rfl,D,Q⟩
 .exact .inl h
 .exact .inr ⟨b,L,rfl,Nat.lt_of_lt_of_le D hb.size,λi R=>xA hb D (Q i R)⟩
theorem SegT.below{l:List (Int×Bool)}(h:SegT w a l)(hb:Below w.heap.size w w'):SegT w' a l:=by
 rcases h with h|⟨b,L,rfl,D,Q⟩
 .exact .inl h
 .exact .inr ⟨b,L,rfl,Nat.lt_of_lt_of_le D hb.size,λi R=>⟨xA hb D (Q i R).1,xA hb D (Q i R).2⟩⟩
theorem IsMk.below{m:Mk}(h:IsMk w v m)(hb:Below w.heap.size w w'):IsMk w' v m:=by
 obtain⟨a,c,C,D,rfl,F,A,E,B⟩:=h;exact⟨a,c,C,D,rfl,F.below hb,A.below hb,E,B⟩
theorem YA{α:Type}(l:List α)(k:Nat)(z:α)(h:k<l.length):l[k]?=J (l.getD k z):=by
 rw[List.getElem?_eq_getElem h,List.getD,List.getElem?_eq_getElem h];rfl
def UA:Int->List Int->Bool
 |_,[]=>I
 |q,b::r=>if b<=q\/11<b then O else UA b r
def iA (l:List Int):Bool:=UA (-1) l
def lastNum (q:Int):List Int->Int
 |[]=>q
 |b::r=>lastNum b r
theorem xG(q:Int)(l:List Int)(b:Int):lastNum q (l++[b])=b:=by
 induction l generalizing q with
 |nil=>rfl
 |cons x r ih=>exact ih x
theorem nF(q:Int)(l:List Int)(b:Int):UA q (l++[b])=(UA q l&& !decide (b<=lastNum q l\/11<b)):=by
 induction l generalizing q with
 |nil=>by_cases h:b<=q\/11<b<;>simp[UA,lastNum,h]
 |cons x r ih=>
  by_cases h:x<=q\/11<x
  .simp[UA,h]
  .simp only[List.cons_append,UA,if_neg h,lastNum];exact ih x
theorem MH(q:Int)(l:List Int)(k:Nat)(h:UA q (l.take k)=O):UA q l=O:=by
 induction l generalizing q k with
 |nil=>simp at h;exact h
 |cons x r ih=>
  cases k with
  |zero=>simp[UA]at h
  |succ k=>
   rw[List.take_succ_cons]at h;by_cases e:x<=q\/11<x
   .simp[UA,e]
   .simp only[UA,if_neg e]at h|-;exact ih x k h
def goodM (m:Mk):Int:=
 if m.kind<1\/4<m.kind then 3
 else if m.seq<1\/2147483647<m.seq\/m.pos<0\/23<m.pos then 2
 else if(m.kind≠1/\m.pos≠0)\/(m.kind≠2/\m.tags≠[])\/(m.kind≠3/\m.blocks≠[]) then 1
 else if(m.kind=2/\(m.tags.length<1\/10<m.tags.length))\/(m.kind=3/\(m.blocks.length<1\/20<m.blocks.length))\/iA (m.tags.map (·.1))=O\/iA m.blocks=O then 2
 else 0
theorem XA(h:w.heap[B]?=J (T #[v0,v1] t (0,0))):
  (w.cell? ⟨B,0,Z⟩=J v0/\w.cell? ⟨B,1,Z⟩=J v1)/\(w.frozen? ⟨B,0,Z⟩=O/\w.frozen? ⟨B,1,Z⟩=O):=by
 refine⟨⟨?_,?_⟩,frozen_of_row w _ _ _ _ h,frozen_of_row w _ _ _ _ h⟩<;>(rw[cell_of_row w _ _ _ _ _ h];rfl)
theorem TG{o:Obj}(hb:Below (w.alloc o).heap.size (w.alloc o) w'):w'.heap[w.heap.size]?=J o:=
 (hb.block _ (by simp)).trans (heap_alloc_new w o)
theorem sB{o:Obj}(hb:Below ((w.alloc o).alloc o2).heap.size ((w.alloc o).alloc o2) w'):w'.heap[w.heap.size]?=J o:=
 (hb.block _ (by simp;omega)).trans ((Below.heap_alloc _ _ _ (by simp)).trans (heap_alloc_new w o))
theorem JB{o:Obj}(hb:Below ((w.alloc o).alloc o2).heap.size ((w.alloc o).alloc o2) w'):w'.heap[w.heap.size+1]?=J o2:=by
 have:=heap_alloc_new (w.alloc o) o2;simp at this;exact(hb.block _ (by simp)).trans (by simpa using this)
theorem ZN{u0 u1:E}(h:w.heap[B]?=J (T #[u0,u1] t (0,0)))(v0 v1:E):
  ((w.setCell ⟨B,0,Z⟩ v0).setCell ⟨B,1,Z⟩ v1).heap[B]?=J (T #[v0,v1] t (0,0)):=by
 have A:=heap_setCell_same w B 0 _ _ v0 h;rw[heap_setCell_same _ B 1 _ _ v1 A];rfl
theorem yA(hb:Below w.heap.size w w')(D:B<w.heap.size){o:Obj}(h:w.heap[B]?=J o):w'.heap[B]?=J o:=
 (hb.block _ D).trans h
theorem LA{D Q L:E}(h:w.heap[B]?=J (T #[v0,v1,D,Q,L] t (0,0))):
  (w.cell? ⟨B,0,Z⟩=J v0/\w.cell? ⟨B,1,Z⟩=J v1/\w.cell? ⟨B,2,Z⟩=J D/\w.cell? ⟨B,3,Z⟩=J Q/\w.cell? ⟨B,4,Z⟩=J L)/\
  (w.frozen? ⟨B,0,Z⟩=O/\w.frozen? ⟨B,1,Z⟩=O/\w.frozen? ⟨B,2,Z⟩=O/\w.frozen? ⟨B,3,Z⟩=O/\w.frozen? ⟨B,4,Z⟩=O):=by
 refine⟨⟨?_,?_,?_,?_,?_⟩,frozen_of_row w _ _ _ _ h,frozen_of_row w _ _ _ _ h,frozen_of_row w _ _ _ _ h,frozen_of_row w _ _ _ _ h,frozen_of_row w _ _ _ _ h⟩<;>(rw[cell_of_row w _ _ _ _ _ h];rfl)
theorem dF{o D:Obj}(hb:Below (((w.alloc o).alloc o2).alloc D).heap.size (((w.alloc o).alloc o2).alloc D) w'):w'.heap[w.heap.size]?=J o/\w'.heap[w.heap.size+1]?=J o2/\w'.heap[w.heap.size+1+1]?=J D/\w.heap.size+1+1<w'.heap.size:=by
 have C:=hb.size;simp at C;have A:=heap_alloc_new (w.alloc o) o2;have B:=heap_alloc_new ((w.alloc o).alloc o2) D;simp only[World.size_alloc]at A B;refine⟨?_,?_,?_,by omega⟩
 .exact(hb.block _ (by simp;omega)).trans ((Below.heap_alloc _ _ _ (by simp;omega)).trans ((Below.heap_alloc _ _ _ (by simp)).trans (heap_alloc_new w o)))
 .exact(hb.block _ (by simp)).trans ((Below.heap_alloc _ _ _ (by simp)).trans A)
 .exact(hb.block _ (by simp)).trans B
theorem zE:(Tryz.prog.info? 3).map (λi=>(i.zero,i.size,i.bytes))=J (J (H G 0),1,8):=by kernel_rfl
def cellsI (l:List Int):List E:=l.map (Value.int G)
theorem sF(l:List Int):(cellsI l).length=l.length*1:=by simp[cellsI]
theorem AF(l r:List Int):cellsI (l++r)=cellsI l++cellsI r:=by simp[cellsI]
theorem dH(l:List Int)(i:Nat)(h:i<l.length):(cellsI l)[i]?=J (H G (l.getD i 0)):=by
 rw[cellsI,List.getElem?_map,YA l i 0 h];rfl
theorem CG:∀u∈cellsI l,u.oneCell'=I:=by
 intro u A;obtain⟨s,_,rfl⟩:=List.mem_map.1 A;rfl
theorem SegI.of_owns(h:w.ownsRow base 3 1 v n (cellsI l)):∃a c,v=M a l.length c/\SegI w a l/\∀b D,a=J ⟨b,D,Z⟩->base<=b:=by
 have A:l.length=n:=by have:=h.1;rw[sF]at this;omega
 subst A;rcases h.2 with⟨rfl,L⟩|⟨g,cap,A0,rfl,hb,Q,rest⟩
 .exact⟨Z,0,by rw[L],.inl (List.eq_nil_of_length_eq_zero L),λ_ _ h=>by cases h⟩
 .refine⟨_,cap,rfl,.inr ⟨g,0,rfl,(Array.getElem?_eq_some_iff.1 Q).1,λi R=>?_⟩,λ_ _ h=>by cases h;exact hb⟩;rw[Nat.zero_add,h.cellAt i (by omega),dH l i R]
open Go.Proofs.Tryz
theorem mF(n:Int)(w:K):
  Calls prog 139 #[H G n] w λe w'=>e=N (Y (QA n))/\w=w':=by
 by_cases h0:0<=n<;>by_cases h1:n<37
 all_goals
  go_enter func139,ntmps139;go_wp2;go_ret;exact⟨by simp[QA,h0,h1],rfl⟩
theorem FF(s:ByteArray)(w:K):
  Calls prog 140 #[A s] w λe w'=>e=N (Y (oA s))/\w=w':=by
 go_enter func140,ntmps140;go_wp2;go_ret;exact⟨rfl,rfl⟩
theorem uS(a:Option Addr)(n c:Nat)(L:Option Addr)(m Q:Nat)(w:K)(R:n<=maxLen)(D:m<=maxLen)(h:¬n=37\/200<m):
  Calls prog 96 #[F #[M a n c,M L m Q]] w λe w'=>e=N (Y O)/\Below w.heap.size w w':=by
 unfold maxLen at R D;by_cases h1:n=37
 .have A:(200:Int)<(m:Int):=by omega
  subst h1;go_enter func96,ntmps96;go_wp2;go_ret;exact⟨rfl,(Below.refl _ _).alloc (Nat.le_refl _) _⟩
 .have A:((n:Int)==37)=O:=by simp;omega
  go_enter func96,ntmps96;go_wp2;go_ret;exact⟨rfl,(Below.refl _ _).alloc (Nat.le_refl _) _⟩
theorem CI{α:Type}(f:α->Bool)(l:List α)(k:Nat)(x:α)(h:l[k]?=J x)(D:(l.take k).all f=I)(L:f x=I):(l.take (k+1)).all f=I:=by
 rw[List.take_add_one,h,List.all_append,D];simp[L]
theorem NH{α:Type}(f:α->Bool)(l:List α)(k:Nat)(x:α)(h:l[k]?=J x)(D:f x=O):l.all f=O:=by
 have:=List.mem_of_getElem? h
 cases hh:l.all f with
 |false=>rfl
 |true=>rw[List.all_eq_true]at hh;rw[hh x this]at D;cases D
theorem xE{α:Type}(l:List α)(k:Nat)(z:α)(h:k<l.length):l[k]?=J (l.getD k z):=by
 rw[List.getElem?_eq_getElem h,List.getD,List.getElem?_eq_getElem h];rfl
theorem xW(b off c:Nat)(m:Option Addr)(c':Nat)(d:Dk)(w:K)(z:d.safe.length=37)(hm:d.wr.length<=200)(hb:b<w.heap.size)
  (hc:∀i,i<d.safe.length->w.cell? ⟨b,off+i,Z⟩=J (A (d.safe.getD i U))) (y:SegW w m d.wr):
  Calls prog 96 #[F #[M (J ⟨b,off,Z⟩) 37 c,M m d.wr.length c']] w λe w'=>e=N (Y (d.safe.all oA&&d.wr.all wrB))/\Below w.heap.size w w':=by
 have A1:¬(200:Int)<(d.wr.length:Int):=by omega
 have r:Hid (d.safe.length=37):=z;have A5:Hid (SegW w m d.wr):=y;have Q:Hid (∀i,i<d.safe.length->w.cell? ⟨b,off+i,Z⟩=J (A (d.safe.getD i U))):=hc;clear z y hc;go_enter func96,ntmps96;go_wp2
 go_loop [20] (λi=>∃k:Nat,k<=37/\i=H G k/\Hid ((d.safe.take k).all oA=I)) (λi=>37 - (intOf i).toNat)
 case atStart=>exact⟨0,Nat.zero_le _,rfl,by simp[Hid]⟩
 case round=>
  obtain⟨k,hk,rfl,h⟩:=hrel;by_cases hlt:k<37
  .obtain⟨s,L⟩:∃s,s=d.safe.getD k U:=⟨_,rfl⟩;have A9:=Q.o k (by rw[r.o];exact hlt);have R:Hid (d.safe[k]?=J s):=by rw[L];exact xE _ _ _ (by rw[r.o];exact hlt)
   rw[<-L]at A9;clear L;by_cases hf:oA s=I
   .go_wp2_with (go_at_call 140;refine(FF _ _).mono ?_;rintro e w' ⟨rfl,rfl⟩)
    go_round
    case rel=>exact⟨k+1,by omega,by go_num,CI _ _ _ _ R.o h hf⟩
    case measure=>simp[intOf];omega
   .have C:oA s=O:=by simpa using hf
    clear hf;go_wp2_with (go_at_call 140;refine(FF _ _).mono ?_;rintro e w' ⟨rfl,rfl⟩);go_ret;exact⟨by rw[NH _ _ _ _ R.o C];rfl,(Below.refl _ _).alloc (Nat.le_refl _) _⟩
  .have A7:Hid (d.safe.all oA=I):=by
    have e:k=37:=by omega
    have:=h.o;rw[e,<-r.o,List.take_length]at this;exact this
   clear h Q;go_wp2
   go_loopw [31] (λi wr=>∃k:Nat,k<=d.wr.length/\i=H G k/\Hid ((d.wr.take k).all wrB=I)/\Below w.heap.size w wr) (λi _=>d.wr.length - (intOf i).toNat)
   case atStart=>exact⟨0,Nat.zero_le _,rfl,by simp[Hid],(Below.refl _ _).alloc (Nat.le_refl _) _⟩
   case round=>
    obtain⟨j,hj,rfl,h,B⟩:=hrel;by_cases hlj:j<d.wr.length
    .obtain⟨b',A0,rfl,A2,A4⟩:=A5.o.resolve_left (by intro e;rw[e]at hlj;simp at hlj);obtain⟨x,q⟩:∃x,x=d.wr.getD j (0,U):=⟨_,rfl⟩;obtain⟨E,D⟩:=A4 j hlj;rw[<-q]at E D;have S:Hid (d.wr[j]?=J x):=by rw[q];exact xE _ _ _ hlj
     clear q A4;have g1:=xA B A2 E;have g2:=xA B A2 D;have A3:=B.size;clear E D;obtain⟨n,s⟩:=x;by_cases hp:QA n=I<;>by_cases hf:oA s=I
     .go_wp2_with (first|(go_at_call 139;refine(mF _ _).mono ?_;rintro e w' ⟨rfl,rfl⟩)|(go_at_call 140;refine(FF _ _).mono ?_;rintro e w' ⟨rfl,rfl⟩))
      go_roundw
      case rel=>exact⟨j+1,by omega,by go_num,CI _ _ _ _ S.o h (by simp[wrB,hp,hf]),B.alloc A3 _⟩
      case measure=>simp[intOf];omega
     all_goals
      have A8:wrB (n,s)=O:=by simp[wrB, *]
      have A6:=hp;have C:=hf
      try (rw[Bool.not_eq_true]at A6)
      try (rw[Bool.not_eq_true]at C)
      clear hp hf;go_wp2_with (first|(go_at_call 139;refine(mF _ _).mono ?_;rintro e w' ⟨rfl,rfl⟩)|(go_at_call 140;refine(FF _ _).mono ?_;rintro e w' ⟨rfl,rfl⟩));go_ret;exact⟨by rw[NH _ _ _ _ S.o A8,Bool.and_false];rfl,B.alloc A3 _⟩
    .have X:Hid (d.wr.all wrB=I):=by
      have e:j=d.wr.length:=by omega
      have:=h.o;rw[e,List.take_length]at this;exact this
     clear h;go_wp2;go_ret;exact⟨by rw[A7.o,X.o];rfl,B⟩
theorem mD(v:E)(d:Dk)(w:K)(h:IsDk w v d):
  Calls prog 96 #[v] w λe w'=>e=N (Y (cA d))/\Below w.heap.size w w':=by
 obtain⟨a,c,D,Q,rfl,R,F,J,I⟩:=h;by_cases hno:¬d.safe.length=37\/200<d.wr.length
 .have e:cA d=O:=by
   rcases hno with h|h
   .simp[cA,h]
   .simp[cA,Nat.not_le.2 h]
  rw[e];exact uS a _ c D _ Q w J I hno
 .have A:d.safe.length=37:=by omega
  have B:d.wr.length<=200:=by omega
  obtain⟨b,C,rfl,hb,L⟩:=R.resolve_left (by intro e;rw[e]at A;simp at A);have e:cA d=(d.safe.all oA&&d.wr.all wrB):=by simp[cA,A,B]
  rw[e];have:=xW b C c D Q d w A B hb L F;rw[<-A]at this;exact this
theorem VK(n:Int)(z:ByteArray)(l:List (Int×ByteArray))(x:Int×ByteArray):fC n z (l++[x])=if x.1=n then x.2 else fC n z l:=by
 induction l generalizing z with
 |nil=>rfl
 |cons y r ih=>exact ih _
theorem KU(n:Int)(z:ByteArray)(l:List (Int×ByteArray))(j:Nat)(x:Int×ByteArray)(h:l[j]?=J x)(D:x.1=n):fC n z (l.take (j+1))=x.2:=by
 rw[List.take_add_one,h];simp only[Option.toList_some];rw[VK,if_pos D]
theorem AX(n:Int)(z:ByteArray)(l:List (Int×ByteArray))(j:Nat)(x:Int×ByteArray)(h:l[j]?=J x)(D:¬x.1=n):fC n z (l.take (j+1))=fC n z (l.take j):=by
 rw[List.take_add_one,h];simp only[Option.toList_some];rw[VK,if_neg D]
theorem PX(b off c:Nat)(X:Option Addr)(c':Nat)(d:Dk)(n:Nat)(w:K)(hn:d.safe.length=37)(hp:n<37)(hm:d.wr.length<=200)(hb:b<w.heap.size)
  (s:∀i,i<d.safe.length->w.cell? ⟨b,off+i,Z⟩=J (A (d.safe.getD i U))) (r:SegW w X d.wr):
  Calls Tryz.prog 138 #[F #[M (J ⟨b,off,Z⟩) 37 c,M X d.wr.length c'],H G n] w λe w'=>e=N (A (rB d n))/\Below w.heap.size w w':=by
 have Q:Hid (SegW w X d.wr):=r;obtain⟨z,m⟩:∃z,z=d.safe.getD n U:=⟨_,rfl⟩;have A5:=s n (by omega);rw[<-m]at A5;have C:Hid (rB d n=fC n z d.wr):=by rw[m];rfl
 clear hn r s m;go_enter Tryz.func138,Tryz.ntmps138;go_wp2
 go_loop [5] (λi=>∃k:Nat,k<=d.wr.length/\((k=0/\i=H G (-1))\/∃j:Nat,k=j+1/\i=H G j)/\Hid (fC n z d.wr=fC n z (d.wr.take k))) (λi=>(intOf i+1).toNat)
 case atStart=>
  refine⟨d.wr.length,Nat.le_refl _,?_,by simp[Hid]⟩;by_cases h0:d.wr.length=0
  .left;rw[h0];exact⟨rfl,rfl⟩
  .right;exact⟨d.wr.length - 1,by omega,by congr 1;omega⟩
 case round=>
  obtain⟨k,q,A4,h⟩:=hrel;rcases A4 with⟨rfl,rfl⟩|⟨j,rfl,rfl⟩
  .clear q;have E:Hid (rB d n=z):=by rw[Hid,C.o,h.o];rfl
   clear h C;go_wp2;go_ret;exact⟨by rw[E.o];rfl,(Below.refl _ _).alloc (Nat.le_refl _) _⟩
  .obtain⟨b',A0,rfl,A1,B⟩:=Q.o.resolve_left (by intro e;rw[e]at q;simp at q);obtain⟨x,D⟩:∃x,x=d.wr.getD j (0,U):=⟨_,rfl⟩;obtain⟨L,A3⟩:=B j (by omega);rw[<-D]at L A3;have y:Hid (d.wr[j]?=J x):=by rw[D];exact xE _ _ _ (by omega)
   clear D B;have hj:(j:Int)<(d.wr.length:Int):=by omega
   by_cases he:x.1=n
   .have A2:(x.1==(n:Int))=I:=by rw[he];simp
    have E:Hid (rB d n=x.2):=by rw[Hid,C.o,h.o];exact KU _ _ _ _ _ y.o he
    clear he;go_wp2;go_ret;exact⟨by rw[E.o];rfl,(Below.refl _ _).alloc (Nat.le_refl _) _⟩
   .have A2:(x.1==(n:Int))=O:=by simpa using he
    have R:Hid (¬x.1=n):=he;clear he;go_wp2
    go_round
    case rel=>
     refine⟨j,by omega,?_,by rw[Hid,h.o];exact AX _ _ _ _ _ y.o R.o⟩;by_cases h0:j=0
     .left;subst h0;exact⟨rfl,rfl⟩
     .right;exact⟨j - 1,by omega,by congr 1;omega⟩
    case measure=>simp[intOf]
theorem GM(v:E)(d:Dk)(n:Nat)(w:K)(h:IsDk w v d)(L:d.safe.length=37)(Q:n<37)(R:d.wr.length<=200):
  Calls Tryz.prog 138 #[v,H G n] w λe w'=>e=N (A (rB d n))/\Below w.heap.size w w':=by
 obtain⟨a,c,C,D,rfl,i,B,h1,h2⟩:=h;obtain⟨b,X,rfl,hb,F⟩:=i.resolve_left (by intro e;rw[e]at L;simp at L);have:=PX b X c C D d n w L Q R hb F B;rw[<-L]at this;exact this
open Go.Proofs.Tryz
def jA (d:Dk)(n:Int):ByteArray:=if(cA d&&QA n)=I then rB d n else U
def readE (d:Dk)(n:Int):Int:=if(cA d&&QA n)=I then 0 else 2
theorem fD{d:Dk}(h:cA d=I):d.safe.length=37/\d.wr.length<=200:=by
 simp only[cA,Bool.and_eq_true,decide_eq_true_eq]at h;exact⟨h.1.1.1,h.1.1.2⟩
theorem iM{n:Int}(h:QA n=I):∃k:Nat,n=k/\k<37:=by
 simp only[QA,Bool.and_eq_true,decide_eq_true_eq]at h;obtain⟨k,rfl⟩:=Int.eq_ofNat_of_zero_le h.1;exact⟨k,rfl,by omega⟩
theorem vK(v:E)(d:Dk)(n:Int)(w:K)(h:IsDk w v d):
  Calls prog 143 #[v,H G n] w λe w'=>e=N (S #[A (jA d n),H G (readE d n)])/\Below w.heap.size w w':=by
 have F:Hid (IsDk w v d):=h;obtain⟨a,c,a',c',rfl,_,_,_,_⟩:=h;by_cases hg:cA d=I
 .by_cases hp:QA n=I
  .have B:Hid (jA d n=rB d n/\readE d n=0):=by simp[Hid,jA,readE,hg,hp]
   obtain⟨k,rfl,M⟩:=iM hp;go_enter func143,ntmps143;go_wp2_with fail;refine(mD _ d _ (F.o.below (qA _ _))).mono ?_;rintro e C ⟨rfl,Q⟩;obtain⟨i,J⟩:=QD Q;have A0:w.heap.size<C.heap.size:=by have:=Q.size;simp at this;omega
   go_wp2_with fail;refine(mF _ _).mono ?_;rintro e j ⟨rfl,rfl⟩;go_wp2_with fail;have D:=vA (qA _ _) Q;refine(GM _ d k _ (F.o.below D) (fD hg).1 M (fD hg).2).mono ?_;rintro e L ⟨rfl,X⟩;have R:Hid (Below w.heap.size w L):=vA D X;clear Q D X i J;go_wp2
   go_ret2
   exact⟨by rw[B.o.1,B.o.2];rfl,R.o⟩
  .have B:Hid (jA d n=U/\readE d n=2):=by simp[Hid,jA,readE,hp]
   have A2:QA n=O:=by simpa using hp
   clear hp;go_enter func143,ntmps143;go_wp2_with fail;refine(mD _ d _ (F.o.below (qA _ _))).mono ?_;rintro e C ⟨rfl,Q⟩;go_wp2_with fail;refine(mF _ _).mono ?_;rintro e j ⟨rfl,rfl⟩;have R:Hid (Below w.heap.size w C):=vA (qA _ _) Q;clear Q;go_wp2
   go_ret2
   exact⟨by rw[B.o.1,B.o.2];rfl,R.o⟩
 .have B:Hid (jA d n=U/\readE d n=2):=by simp[Hid,jA,readE,hg]
  have A1:cA d=O:=by simpa using hg
  clear hg;go_enter func143,ntmps143;go_wp2_with fail;refine(mD _ d _ (F.o.below (qA _ _))).mono ?_;rintro e C ⟨rfl,Q⟩;have R:Hid (Below w.heap.size w C):=vA (qA _ _) Q;clear Q;go_wp2
  go_ret2
  exact⟨by rw[B.o.1,B.o.2];rfl,R.o⟩
def bD (s:ByteArray):List UInt8:=s.data.toList.take 32++List.replicate (32 - s.size) 0
def fitT (s:ByteArray):ByteArray:=⟨(bD s).toArray⟩
def Up {α:Type}(key:α->Int)(l:List α):Prop:=l.Pairwise λx y=>key x<key y
theorem WY(q:Int)(l:List Int):UA q l=I↔(∀x∈l,q<x/\x<=11)/\Up id l:=by
 induction l generalizing q with
 |nil=>simp[UA,Up]
 |cons b r ih=>
  by_cases h:b<=q\/11<b
  .simp only[UA,if_pos h];constructor
   .intro e;cases e
   .rintro⟨e,_⟩;have:=e b (by simp);omega
  .simp only[UA,if_neg h,ih b];simp only[Up,List.pairwise_cons,List.mem_cons,id];constructor
   .rintro⟨B,C⟩;refine⟨?_,λx A=>(B x A).1,C⟩;rintro x (rfl|A)
    .omega
    .have:=B x A;omega
   .rintro⟨B,C,D⟩;exact⟨λx A=>⟨C x A,(B x (.inr A)).2⟩,D⟩
theorem zB(l:List Int):iA l=I↔(∀x∈l,0<=x/\x<=11)/\Up id l:=by
 rw[iA,WY];constructor
 .rintro⟨a,b⟩;exact⟨λx D=>by have:=a x D;omega,b⟩
 .rintro⟨a,b⟩;exact⟨λx D=>by have:=a x D;omega,b⟩
theorem cD{α:Type}(key:α->Int)(l:List α):Up id (l.map key)↔Up key l:=by
 simp[Up,List.pairwise_map]
theorem Up.filter{α:Type}{key:α->Int}{l:List α}(h:Up key l)(p:α->Bool):Up key (l.filter p):=List.Pairwise.filter _ h
theorem FL{α:Type}{key:α->Int}{l:List α}(h:Up key l)(b:Int):
  l.take (l.countP λx=>decide (key x<b))=l.filter (λx=>decide (key x<b))/\l.drop (l.countP λx=>decide (key x<b))=l.filter (λx=>decide (b<=key x)):=by
 induction l with
 |nil=>simp
 |cons x r ih=>
  have D:=List.pairwise_cons.1 h;by_cases hx:key x<b
  .have:=ih D.2;have C:¬b<=key x:=by omega
   simp[hx,C,this]
  .have C:b<=key x:=by omega
   have A:∀y∈r,¬key y<b:=λy B=>by have:=D.1 y B;omega
   have I:r.countP (λx=>decide (key x<b))=0:=by rw[List.countP_eq_zero];intro y B;simp only[decide_eq_true_eq];exact A y B
   have F:r.filter (λx=>decide (key x<b))=[]:=by rw[List.filter_eq_nil_iff];intro y B;simp only[decide_eq_true_eq];exact A y B
   have E:r.filter (λx=>decide (b<=key x))=r:=by rw[List.filter_eq_self];intro y B;simp only[decide_eq_true_eq];have:=A y B;omega
   simp[hx,C,I,F,E]
theorem lP{α:Type}{key:α->Int}{l:List α}(h:Up key l)(b:Int)(x:α)(L:l[l.countP λx=>decide (key x<b)]?=J x)(Q:key x=b):
  l.drop ((l.countP λx=>decide (key x<b))+1)=l.filter (λx=>decide (b<key x)):=by
 induction l with
 |nil=>simp at L
 |cons y r ih=>
  have A:=List.pairwise_cons.1 h;by_cases hy:key y<b
  .have D:¬b<key y:=by omega
   have B:(y::r).countP (λx=>decide (key x<b))=r.countP (λx=>decide (key x<b))+1:=by simp[hy]
   rw[B]at L|-;rw[List.drop_succ_cons,List.filter_cons,if_neg (by simpa using D)];exact ih A.2 (by simpa using L)
  .have F:r.countP (λx=>decide (key x<b))=0:=by rw[List.countP_eq_zero];intro z C;simp only[decide_eq_true_eq];have:=A.1 z C;omega
   have B:(y::r).countP (λx=>decide (key x<b))=0:=by simp[hy,F]
   rw[B]at L|-;simp at L;subst L;have E:r.filter (λx=>decide (b<key x))=r:=by rw[List.filter_eq_self];intro z C;simp only[decide_eq_true_eq];have:=A.1 z C;omega
   simp[Q,E]
theorem aP{α:Type}{key:α->Int}{l:List α}(h:Up key l)(b:Int)(L:∀x,l[l.countP λx=>decide (key x<b)]?=J x->key x≠b):
  l.filter (λx=>decide (b<=key x))=l.filter (λx=>decide (b<key x)):=by
 induction l with
 |nil=>rfl
 |cons y r ih=>
  have C:=List.pairwise_cons.1 h;by_cases hy:key y<b
  .have B:(y::r).countP (λx=>decide (key x<b))=r.countP (λx=>decide (key x<b))+1:=by simp[hy]
   rw[B]at L;rw[List.filter_cons,List.filter_cons,if_neg (by simp;omega),if_neg (by simp;omega)];exact ih C.2 (λx Q=>L x (by simpa using Q))
  .have D:r.countP (λx=>decide (key x<b))=0:=by rw[List.countP_eq_zero];intro z A;simp only[decide_eq_true_eq];have:=C.1 z A;omega
   have B:(y::r).countP (λx=>decide (key x<b))=0:=by simp[hy,D]
   rw[B]at L;have:=L y (by simp);have A0:b<key y:=by omega
   apply List.filter_congr;intro z A;rcases List.mem_cons.1 A with rfl|A
   .simp;omega
   .have:=C.1 z A;simp;omega
theorem TF{α:Type}{key:α->Int}{l:List α}(h:Up key l)(b:Int):
  (l.any λx=>key x==b)=I↔∃x,l[l.countP λx=>decide (key x<b)]?=J x/\key x=b:=by
 constructor
 .intro e;obtain⟨x,A,B⟩:=List.any_eq_true.1 e;have B:key x=b:=by simpa using B
  induction l with
  |nil=>simp at A
  |cons y r ih=>
   have D:=List.pairwise_cons.1 h;by_cases hy:key y<b
   .have C:x∈r:=by
     rcases List.mem_cons.1 A with rfl|A
     .omega
     .exact A
    obtain⟨z,F,Q⟩:=ih D.2 (List.any_eq_true.2 ⟨x,C,by simpa using B⟩) C;refine⟨z,?_,Q⟩;have E:(y::r).countP (λx=>decide (key x<b))=r.countP (λx=>decide (key x<b))+1:=by simp[hy]
    rw[E]
    simpa using F
   .have L:r.countP (λx=>decide (key x<b))=0:=by rw[List.countP_eq_zero];intro z F;simp only[decide_eq_true_eq];have:=D.1 z F;omega
    have E:(y::r).countP (λx=>decide (key x<b))=0:=by simp[hy,L]
    refine⟨y,by rw[E];rfl,?_⟩;rcases List.mem_cons.1 A with rfl|A
    .exact B
    .have:=D.1 x A;omega
 .rintro⟨x,A,B⟩;exact List.any_eq_true.2 ⟨x,List.mem_of_getElem? A,by simpa using B⟩
theorem iR{α:Type}{key:α->Int}{l:List α}(h:Up key l)(n:Int):
  l.filter (λx=>decide (key x<n+1))=l.filter (λx=>decide (key x<n))++l.filter (λx=>decide (key x=n)):=by
 induction l with
 |nil=>rfl
 |cons x r ih=>
  have D:=List.pairwise_cons.1 h;by_cases h1:key x<n
  .have C:key x<n+1:=by omega
   have B:¬key x=n:=by omega
   simp[h1,C,B,ih D.2]
  .have E:r.filter (λx=>decide (key x<n))=[]:=by rw[List.filter_eq_nil_iff];intro y A;have:=D.1 y A;simp;omega
   have I:r.filter (λx=>decide (key x<n+1))=[]:=by rw[List.filter_eq_nil_iff];intro y A;have:=D.1 y A;simp;omega
   have F:r.filter (λx=>decide (key x=n))=[]:=by rw[List.filter_eq_nil_iff];intro y A;have:=D.1 y A;simp;omega
   by_cases C:key x=n
   .have B:key x<n+1:=by omega
    rw[List.filter_cons,List.filter_cons,List.filter_cons,E,I,F];rw[if_pos (by simpa using B),if_neg (by simpa using h1),if_pos (by simpa using C)];rfl
   .have B:¬key x<n+1:=by omega
    rw[List.filter_cons,List.filter_cons,List.filter_cons,E,I,F];simp[h1,C,B]
theorem wL{α:Type}{key:α->Int}{l:List α}(h:Up key l)(h0:∀x∈l,0<=key x)(f:Nat->List α)(n:Nat)(D:∀j,j<n->f j=l.filter (λx=>decide (key x=(j:Int)))):
  (List.range n).flatMap f=l.filter (λx=>decide (key x<(n:Int))):=by
 induction n with
 |zero=>
  have:l.filter (λx=>decide (key x<((0:Nat):Int)))=[]:=by rw[List.filter_eq_nil_iff];intro y A;have:=h0 y A;simp;omega
  rw[this];rfl
 |succ n ih=>
  rw[List.range_succ,List.flatMap_append,ih (λj hj=>D j (by omega))];have:=iR h (n:Int);rw[show((n+1:Nat):Int)=(n:Int)+1 from by omega,this];simp[D n (by omega)]
def LC (m r:Int):Int:=if m<0\/12<m\/r<0\/12<r then 2 else 0
def needN (m r:Int):Int:=if LC m r=0 then 1+m+(if 0<r then 1 else 0)+(if 0<m then 1 else 0)+(if 10<m then 1 else 0) else 0
def clampN (n:Int):Int:=if n<0 then 0 else if 24<n then 24 else n
def RA (n:Int):Int:=clampN n+1+(if 0<clampN n then 1 else 0)+(if 10<clampN n then 1 else 0)+(if 20<clampN n then 1 else 0)+(if 0<clampN n then 1 else 0)+(if 20<clampN n then 1 else 0)
theorem VG{n k:Int}(h:clampN n=k)(a b c:Int)(D:a=if 0<k then 1 else 0)(hb:b=if 10<k then 1 else 0)(L:c=if 20<k then 1 else 0):RA n=k+1+a+b+c+a+c:=by
 rw[RA,h,D,hb,L]
def sA (n l m:Int):Bool:=decide (l<=n)&&decide (n<=m)
theorem QC{n l m:Int}:sA n l m=I↔l<=n/\n<=m:=by simp[sA]
def IsMkN (w:K)(base:Nat)(v:E)(m:Mk):Prop:=
 ∃a c L Q,v=F #[H G m.kind,H G m.seq,H G m.pos,M a m.tags.length c,M L m.blocks.length Q]/\SegT w a m.tags/\SegI w L m.blocks/\m.tags.length<=maxLen/\m.blocks.length<=maxLen/\
  (∀b D,a=J ⟨b,D,Z⟩->base<=b)/\∀b D,L=J ⟨b,D,Z⟩->base<=b
theorem IsMkN.is{m:Mk}(h:IsMkN w base v m):IsMk w v m:=by
 obtain⟨a,c,B,D,rfl,E,A,F,C,_⟩:=h;exact⟨a,c,B,D,rfl,E,A,F,C⟩
def aG (l:List (Int×Bool))(k:Nat):List Int:=(l.take k).map (·.1)
def KE (l:List (Int×Bool)):Int:=if(l.length<1\/10<l.length)\/iA (l.map (·.1))=O then 2 else 0
def isMagic (s:ByteArray):Bool:=if 4<=s.size then((s.extract 0 4).toList==[87,66,75,49]) else O
def escT (s:ByteArray):ByteArray:=if isMagic s then(⟨#[0,0,0,0]⟩:ByteArray)++s.extract 4 s.size else s
def aB (s:ByteArray)(e:Bool):ByteArray:=if e=O\/s.size<4 then s else(⟨#[87,66,75,49]⟩:ByteArray)++s.extract 4 s.size
def JA (n:Nat):ByteArray:=⟨#[UInt8.ofNat n]⟩
def qF (b:UInt8):E:=H .u8 (b.toNat:Int)
def YB (k q:Int):ByteArray:=(⟨#[87,66,75,49]⟩:ByteArray)++JA k.toNat++JA (q/16777216).toNat++JA (q/65536%256).toNat++JA (q/256%256).toNat++JA (q%256).toNat
def RB (s:ByteArray):List (Int×Bool)->ByteArray
 |[]=>s
 |x::r=>RB ((s++JA x.1.toNat)++(if x.2 then(⟨#[1]⟩:ByteArray) else⟨#[0]⟩)) r
def TB (s:ByteArray):List Int->ByteArray
 |[]=>s
 |x::r=>TB (s++JA x.toNat) r
theorem PN(s:ByteArray)(l:List (Int×Bool))(x:Int×Bool):RB s (l++[x])=(RB s l++JA x.1.toNat)++(if x.2 then(⟨#[1]⟩:ByteArray) else⟨#[0]⟩):=by
 induction l generalizing s with
 |nil=>rfl
 |cons y r ih=>exact ih _
theorem LP(s:ByteArray)(l:List Int)(x:Int):TB s (l++[x])=TB s l++JA x.toNat:=by
 induction l generalizing s with
 |nil=>rfl
 |cons y r ih=>exact ih _
theorem qL(s:ByteArray)(l:List (Int×Bool)):(RB s l).size=s.size+2*l.length:=by
 induction l generalizing s with
 |nil=>rfl
 |cons y r ih=>
  rw[RB,ih,ByteArray.size_append,ByteArray.size_append];have A:(JA y.1.toNat).size=1:=rfl;have B:(if y.2=I then(⟨#[1]⟩:ByteArray) else⟨#[0]⟩).size=1:=by cases y.2<;>rfl
  rw[A,B,List.length_cons];omega
theorem WL(s:ByteArray)(l:List Int):(TB s l).size=s.size+l.length:=by
 induction l generalizing s with
 |nil=>rfl
 |cons y r ih=>
  rw[TB,ih,ByteArray.size_append];have A:(JA y.toNat).size=1:=rfl;rw[A,List.length_cons];omega
def XC (m:Mk):ByteArray:=
 if m.kind=1 then YB m.kind m.seq++JA m.pos.toNat
 else if m.kind=2 then RB (YB m.kind m.seq++JA m.tags.length) m.tags
 else if m.kind=3 then TB (YB m.kind m.seq++JA m.blocks.length) m.blocks
 else YB m.kind m.seq
def encT (m:Mk):ByteArray:=if goodM m=0 then fitT (XC m) else U
theorem gG(q:Int)(l:List Int)(h:UA q l=I)(hq: -1<=q):∀x∈l,0<=x/\x<=11:=by
 induction l generalizing q with
 |nil=>intro x A;cases A
 |cons y r ih=>
  by_cases e:y<=q\/11<y
  .simp[UA,e]at h
  .simp only[UA,if_neg e]at h;intro x A;rcases List.mem_cons.1 A with rfl|A
   .omega
   .exact ih y h (by omega) x A
theorem EG{m:Mk}(h:goodM m=0):(1<=m.kind/\m.kind<=4)/\(1<=m.seq/\m.seq<=2147483647/\0<=m.pos/\m.pos<=23)/\((m.kind≠1->m.pos=0)/\(m.kind≠2->m.tags=[])/\(m.kind≠3->m.blocks=[]))/\
  (m.kind=2->1<=m.tags.length/\m.tags.length<=10)/\(m.kind=3->1<=m.blocks.length/\m.blocks.length<=20)/\iA (m.tags.map (·.1))=I/\iA m.blocks=I:=by
 unfold goodM at h;by_cases h1:m.kind<1\/4<m.kind
 .rw[if_pos h1]at h;cases h
 .rw[if_neg h1]at h;by_cases h2:m.seq<1\/2147483647<m.seq\/m.pos<0\/23<m.pos
  .rw[if_pos h2]at h;cases h
  .rw[if_neg h2]at h;by_cases h3:(m.kind≠1/\m.pos≠0)\/(m.kind≠2/\m.tags≠[])\/(m.kind≠3/\m.blocks≠[])
   .rw[if_pos h3]at h;cases h
   .rw[if_neg h3]at h;by_cases h4:(m.kind=2/\(m.tags.length<1\/10<m.tags.length))\/(m.kind=3/\(m.blocks.length<1\/20<m.blocks.length))\/iA (m.tags.map (·.1))=O\/iA m.blocks=O
    .rw[if_pos h4]at h;cases h
    .refine⟨by omega,by omega,⟨?_,?_,?_⟩,?_,?_,?_,?_⟩
     .intro e;by_cases x:m.pos=0
      .exact x
      .exact absurd (.inl ⟨e,x⟩) h3
     .intro e;by_cases x:m.tags=[]
      .exact x
      .exact absurd (.inr (.inl ⟨e,x⟩)) h3
     .intro e;by_cases x:m.blocks=[]
      .exact x
      .exact absurd (.inr (.inr ⟨e,x⟩)) h3
     .intro e;have:¬(m.tags.length<1\/10<m.tags.length):=λx=>h4 (.inl ⟨e,x⟩);omega
     .intro e;have:¬(m.blocks.length<1\/20<m.blocks.length):=λx=>h4 (.inr (.inl ⟨e,x⟩));omega
     .cases hr:iA (m.tags.map (·.1)) with
      |true=>rfl
      |false=>exact absurd (.inr (.inr (.inl hr))) h4
     .cases hr:iA m.blocks with
      |true=>rfl
      |false=>exact absurd (.inr (.inr (.inr hr))) h4
theorem EU(n:Int):RA n=clampN n+(clampN n+9)/10+(clampN n+19)/20+1:=by
 have:0<=clampN n/\clampN n<=24:=by unfold clampN;split<;>(try split)<;>omega
 unfold RA;split<;>split<;>split<;>omega
def mB (h u:Int):Bool:=decide (0<=h)&&decide (h<=23)&&decide (0<=u)&&decide (u<=24)
theorem PK{h u:Int}(e:mB h u=I):0<=h/\h<=23/\0<=u/\u<=24:=by
 simpa[mB,and_assoc] using e
def takeE (h u n:Int):Int:=if mB h u=O\/n<0 then 2 else if 24 - u<n then 6 else 0
def OB (h:Int)(n:Nat):List Int:=(List.range n).map fun(i:Nat)=>(h+(i:Int))%24
def takeH (h u n:Int):Int:=if takeE h u n=0 then(h+n)%24 else h
def takeU (h u n:Int):Int:=if takeE h u n=0 then u+n else u
def takeL (h u n:Int):List Int:=if takeE h u n=0 then OB h n.toNat else[]
theorem xD(h:Int)(n:Nat):(OB h n).length=n:=by simp[OB]
theorem lQ(h:Int)(n:Nat):OB h (n+1)=OB h n++[(h+(n:Int))%24]:=by simp[OB,List.range_succ]
open Go.Proofs.Tryz
theorem ZG(n l m:Int)(w:K):
  Calls prog 227 #[H G n,H G l,H G m] w λe w'=>e=N (Y (sA n l m))/\w=w':=by
 by_cases h0:l<=n<;>by_cases h1:n<=m
 all_goals
  go_enter func227,ntmps227;go_wp2;go_ret;exact⟨by simp[sA,h0,h1],rfl⟩
theorem jQ(n:Int)(w:K)(h: -24<=n)(h2:n<=1000):
  Calls prog 228 #[H G n] w λe w'=>e=N (H G (n%24))/\w=w':=by
 have r:(n+24).tmod 24=n%24:=by rw[Int.tmod_eq_emod_of_nonneg (by omega)];omega
 go_enter func228,ntmps228;go_wp2;go_ret;exact⟨by first|rfl|rw[r],rfl⟩
theorem jS(h u:Int):mB h u=(sA h 0 23&&sA u 0 24):=by simp[mB,sA,Bool.and_assoc]
theorem ZP(h u:Int)(w:K):
  Calls prog 208 #[F #[H G h,H G u]] w λe w'=>e=N (Y (mB h u))/\Below w.heap.size w w':=by
 rw[jS]
 cases h1:sA h 0 23 with
 |false=>
  go_enter func208,ntmps208;go_wp2_with (go_at_call 227;refine(ZG _ _ _ _).mono ?_;rintro e w' ⟨rfl,rfl⟩);go_ret;exact⟨rfl,qA _ _⟩
 |true=>
  go_enter func208,ntmps208;go_wp2_with (go_at_call 227;refine(ZG _ _ _ _).mono ?_;rintro e w' ⟨rfl,rfl⟩);go_ret;exact⟨by simp,qA _ _⟩
theorem QQ(h u:Int)(w:K)(h0:0<=u)(h1:u<=24):
  Calls prog 58 #[F #[H G h,H G u]] w λe w'=>e=N (H G (24 - u))/\Below w.heap.size w w':=by
 go_enter func58,ntmps58;go_wp2;go_ret;exact⟨rfl,qA _ _⟩
theorem nO(n s:Int)(w:K)(h:0<=n)(h2:n<=1000)(hs:1<=s)(A4:s<=1000):
  Calls prog 223 #[H G n,H G s] w λe w'=>e=N (H G ((n+s - 1)/s))/\w=w':=by
 have r:(n+s - 1).tdiv s=(n+s - 1)/s:=Int.tdiv_eq_ediv_of_nonneg (by omega);have A1:0<=(n+s - 1)/s:=Int.ediv_nonneg (by omega) (by omega);have A3:(n+s - 1)/s<=n+s - 1:=Int.ediv_le_self _ (by omega);have A0:¬s=0:=by omega
 have A2:¬s= -1:=by omega
 go_enter func223,ntmps223;go_wp2;go_ret;exact⟨by first|rfl|rw[r],rfl⟩
theorem OI(n:Int)(w:K)(h:0<=n)(h2:n<=1000):
  Calls prog 200 #[H G n] w λe w'=>e=N (H G ((n+9)/10))/\w=w':=by
 go_enter func200,ntmps200;go_wp2_with fail;refine(nO n 10 _ h h2 (by omega) (by omega)).mono ?_;rintro e w1 ⟨rfl,rfl⟩;go_wp2;go_ret;exact⟨by first|rfl|(rw[show n+10 - 1=n+9 from by omega];rfl),rfl⟩
theorem ZI(n:Int)(w:K)(h:0<=n)(h2:n<=1000):
  Calls prog 201 #[H G n] w λe w'=>e=N (H G ((n+19)/20))/\w=w':=by
 go_enter func201,ntmps201;go_wp2_with fail;refine(nO n 20 _ h h2 (by omega) (by omega)).mono ?_;rintro e w1 ⟨rfl,rfl⟩;go_wp2;go_ret;exact⟨by first|rfl|(rw[show n+20 - 1=n+19 from by omega];rfl),rfl⟩
theorem TU(n:Int)(w:K):
  Calls prog 159 #[H G n] w λe w'=>e=N (H G (RA n))/\w=w':=by
 have A:Hid (RA n=clampN n+(clampN n+9)/10+(clampN n+19)/20+1):=EU n;by_cases h0:n<0
 .have B:clampN n=0:=by unfold clampN;rw[if_pos h0]
  rw[B]at A;have D:¬0<=n:=by omega
  have C:n<=24:=by omega
  go_enter func159,ntmps159
  go_wp2_with (first
    |(go_at_call 201;refine(ZI 0 _ (by omega) (by omega)).mono ?_;rintro e w' ⟨rfl,rfl⟩)
    |(go_at_call 200;refine(OI 0 _ (by omega) (by omega)).mono ?_;rintro e w' ⟨rfl,rfl⟩))
  go_ret;exact⟨by rw[A.o];rfl,rfl⟩
 .by_cases h24:24<n
  .have B:clampN n=24:=by unfold clampN;rw[if_neg h0,if_pos h24]
   rw[B]at A;have D:0<=n:=by omega
   have C:¬n<=24:=by omega
   have h3:¬n<24:=by omega
   have h4:0<n:=by omega
   go_enter func159,ntmps159
   go_wp2_with (first
     |(go_at_call 201;refine(ZI 24 _ (by omega) (by omega)).mono ?_;rintro e w' ⟨rfl,rfl⟩)
     |(go_at_call 200;refine(OI 24 _ (by omega) (by omega)).mono ?_;rintro e w' ⟨rfl,rfl⟩))
   go_ret;exact⟨by rw[A.o];rfl,rfl⟩
  .have B:clampN n=n:=by unfold clampN;rw[if_neg h0,if_neg h24]
   rw[B]at A;have D:0<=n:=by omega
   have C:n<=24:=by omega
   have b1:0<=(n+19)/20/\(n+19)/20<=10:=by omega
   have b2:0<=(n+9)/10/\(n+9)/10<=10:=by omega
   go_enter func159,ntmps159
   go_wp2_with (first
     |(go_at_call 201;refine(ZI n _ (by omega) (by omega)).mono ?_;rintro e w' ⟨rfl,rfl⟩)
     |(go_at_call 200;refine(OI n _ (by omega) (by omega)).mono ?_;rintro e w' ⟨rfl,rfl⟩))
   go_ret;exact⟨by rw[A.o];rfl,rfl⟩
theorem rb(m r:Int)(w:K):
  Calls prog 209 #[H G m,H G r] w λe w'=>e=N (S #[H G (needN m r),H G (LC m r)])/\w=w':=by
 cases h1:sA m 0 12 with
 |false=>
  have A:Hid (LC m r=2):=by rw[Hid,LC,if_pos];simp[sA]at h1;omega
  have B:Hid (needN m r=0):=by simp[Hid,needN,A.o]
  go_enter func209,ntmps209;go_wp2_with (go_at_call 227;refine(ZG _ _ _ _).mono ?_;rintro e w' ⟨rfl,rfl⟩)
  go_ret2
  exact⟨by rw[A.o,B.o];rfl,rfl⟩
 |true=>
  cases h2:sA r 0 12 with
  |false=>
   have A:Hid (LC m r=2):=by rw[Hid,LC,if_pos];simp[sA]at h2;omega
   have B:Hid (needN m r=0):=by simp[Hid,needN,A.o]
   go_enter func209,ntmps209;go_wp2_with (go_at_call 227;refine(ZG _ _ _ _).mono ?_;rintro e w' ⟨rfl,rfl⟩)
   go_ret2
   exact⟨by rw[A.o,B.o];rfl,rfl⟩
  |true=>
   have hm:0<=m/\m<=12:=by simpa[sA] using h1
   have hr:0<=r/\r<=12:=by simpa[sA] using h2
   have A:Hid (LC m r=0):=by rw[Hid,LC,if_neg];omega
   have B:Hid (needN m r=(r+19)/20+(m+9)/10+m+1):=by
    rw[Hid,needN,if_pos A.o];split<;>split<;>split<;>omega
   have b1:0<=(r+19)/20/\(r+19)/20<=10:=by omega
   have b2:0<=(m+9)/10/\(m+9)/10<=10:=by omega
   go_enter func209,ntmps209
   go_wp2_with (first
    |(go_at_call 227;refine(ZG _ _ _ _).mono ?_;rintro e w' ⟨rfl,rfl⟩)
    |(go_at_call 201;refine(ZI r _ (by omega) (by omega)).mono ?_;rintro e w' ⟨rfl,rfl⟩)
    |(go_at_call 200;refine(OI m _ (by omega) (by omega)).mono ?_;rintro e w' ⟨rfl,rfl⟩))
   go_ret2
   exact⟨by rw[A.o,B.o];rfl,rfl⟩
theorem mI(a:Option Addr)(c:Nat)(l:List Int)(w:K)(h:SegI w a l)(R:l.length<=maxLen):
  Calls Tryz.prog 121 #[M a l.length c] w λe w'=>e=N (Y (iA l))/\w=w':=by
 unfold maxLen at R;have j:=zA h;clear h;go_enter Tryz.func121,Tryz.ntmps121;go_wp2
 go_loop [3,8] (λq i=>∃k:Nat,k<=l.length/\i=H G k/\q=H G (lastNum (-1) (l.take k))/\Hid (UA (-1) (l.take k)=I)) (λ_ i=>l.length - (intOf i).toNat)
 case atStart=>exact⟨0,Nat.zero_le _,rfl,rfl,by simp[Hid,UA]⟩
 case round=>
  obtain⟨k,hk,rfl,rfl,C⟩:=hrel;by_cases hlt:k<l.length
  .obtain⟨b,A1,rfl,hb,Q⟩:=j.o.resolve_left (by intro e;rw[e]at hlt;simp at hlt);obtain⟨x,E⟩:∃x,x=l.getD k 0:=⟨_,rfl⟩;have d:=Q k hlt;rw[<-E]at d;have L:Hid (l[k]?=J x):=by rw[E];exact YA _ _ _ hlt
   have A:Hid (l.take (k+1)=l.take k++[x]):=by rw[Hid,List.take_add_one,L.o];rfl
   clear E Q;obtain⟨q,F⟩:∃q,q=lastNum (-1) (l.take k):=⟨_,rfl⟩;have D:=zA F;rw[<-F];clear F;have A0:(k:Int)<(l.length:Int):=by omega
   by_cases h1:x<=q
   .go_wp2;go_ret;refine⟨?_,rfl⟩;have:iA l=O:=MH (-1) l (k+1) (by rw[A.o,nF,<-D.o];simp[h1]);rw[this];rfl
   .by_cases h2:11<x
    .go_wp2;go_ret;refine⟨?_,rfl⟩;have:iA l=O:=MH (-1) l (k+1) (by rw[A.o,nF,<-D.o];simp[h2]);rw[this];rfl
    .go_wp2
     go_round
     case rel=>exact⟨k+1,by omega,by go_num,by rw[A.o,xG],by rw[Hid,A.o,nF,C.o,<-D.o];simp[h1,h2]⟩
     case measure=>simp[intOf];omega
  .have e:k=l.length:=by omega
   have B:iA l=I:=by have:=C.o;rw[e,List.take_length]at this;exact this
   have X:=zA B;clear C B;go_wp2;go_ret;exact⟨by rw[X.o];rfl,rfl⟩
open Go.Proofs.Tryz
theorem PR(n:Int)(w:K)(h:n<0):
  Calls prog 131 #[H G n] w λe w'=>e=N (H G (RA n))/\w=w':=by
 have A:Hid (RA n=0+1+0+0+0+0+0):=by
  refine VG (k:=0) ?_ 0 0 0 ?_ ?_ ?_
  .unfold clampN;split<;>(try split)<;>omega
  all_goals first|rfl|(rw[if_pos (by omega)])|(rw[if_neg (by omega)])
 have h1:¬24<n:=by omega
 have h2:n<=24:=by omega
 have h3:¬0<=n:=by omega
 go_enter func131,ntmps131;go_wp2;refine wp_loop_rounds 1 ?_;rw[rounds_succ];go_wp2;refine wp_loop_rounds 1 ?_;rw[rounds_succ];go_wp2;go_ret;refine⟨?_,rfl⟩;rw[A.o]
 first|rfl|(simp;try omega)
theorem JY(n:Int)(w:K)(h:n=0):
  Calls prog 131 #[H G n] w λe w'=>e=N (H G (RA n))/\w=w':=by
 subst h
 have A:Hid (RA 0=0+1+0+0+0+0+0):=by
  refine VG (k:=0) ?_ 0 0 0 ?_ ?_ ?_
  .decide
  all_goals first|rfl|(rw[if_pos (by omega)])|(rw[if_neg (by omega)])
 go_enter func131,ntmps131;go_wp2;refine wp_loop_rounds 1 ?_;rw[rounds_succ];go_wp2;refine wp_loop_rounds 1 ?_;rw[rounds_succ];go_wp2;go_ret;refine⟨?_,rfl⟩;rw[A.o]
 first|rfl|(simp;try omega)
theorem Ib(n:Int)(w:K)(h:0<n)(A0:n<=10):
  Calls prog 131 #[H G n] w λe w'=>e=N (H G (RA n))/\w=w':=by
 have A:Hid (RA n=n+1+1+0+0+1+0):=by
  refine VG (k:=n) ?_ 1 0 0 ?_ ?_ ?_
  .unfold clampN;split<;>(try split)<;>omega
  all_goals first|rfl|(rw[if_pos (by omega)])|(rw[if_neg (by omega)])
 have h1:¬24<n:=by omega
 have h2:n<=24:=by omega
 have h3:0<=n:=by omega
 have h4:¬10<n:=by omega
 have h5:¬20<n:=by omega
 have h6:¬n<0:=by omega
 go_enter func131,ntmps131;go_wp2;refine wp_loop_rounds 2 ?_;rw[rounds_succ];go_wp2;rw[rounds_succ];go_wp2;refine wp_loop_rounds 2 ?_;rw[rounds_succ];go_wp2;rw[rounds_succ];go_wp2;go_ret;refine⟨?_,rfl⟩;rw[A.o]
 first|rfl|(simp;try omega)
theorem ZS(n:Int)(w:K)(h:10<n)(A0:n<=20):
  Calls prog 131 #[H G n] w λe w'=>e=N (H G (RA n))/\w=w':=by
 have A:Hid (RA n=n+1+1+1+0+1+0):=by
  refine VG (k:=n) ?_ 1 1 0 ?_ ?_ ?_
  .unfold clampN;split<;>(try split)<;>omega
  all_goals first|rfl|(rw[if_pos (by omega)])|(rw[if_neg (by omega)])
 have h1:¬24<n:=by omega
 have h2:n<=24:=by omega
 have h3:0<=n:=by omega
 have h4:0<n:=by omega
 have h5:¬20<n:=by omega
 have h6:¬n<0:=by omega
 go_enter func131,ntmps131;go_wp2;refine wp_loop_rounds 3 ?_;rw[rounds_succ];go_wp2;rw[rounds_succ];go_wp2;rw[rounds_succ];go_wp2;refine wp_loop_rounds 2 ?_;rw[rounds_succ];go_wp2;rw[rounds_succ];go_wp2;go_ret;refine⟨?_,rfl⟩;rw[A.o]
 first|rfl|(simp;try omega)
theorem AR(n:Int)(w:K)(h:20<n)(A0:n<=24):
  Calls prog 131 #[H G n] w λe w'=>e=N (H G (RA n))/\w=w':=by
 have A:Hid (RA n=n+1+1+1+1+1+1):=by
  refine VG (k:=n) ?_ 1 1 1 ?_ ?_ ?_
  .unfold clampN;split<;>(try split)<;>omega
  all_goals first|rfl|(rw[if_pos (by omega)])|(rw[if_neg (by omega)])
 have h1:¬24<n:=by omega
 have h3:0<=n:=by omega
 have h4:0<n:=by omega
 have h5:10<n:=by omega
 have h6:¬n<0:=by omega
 have h7:¬30<n:=by omega
 have h8:¬40<n:=by omega
 go_enter func131,ntmps131;go_wp2;refine wp_loop_rounds 4 ?_;rw[rounds_succ];go_wp2;rw[rounds_succ];go_wp2;rw[rounds_succ];go_wp2;rw[rounds_succ];go_wp2;refine wp_loop_rounds 3 ?_;rw[rounds_succ];go_wp2;rw[rounds_succ];go_wp2;rw[rounds_succ];go_wp2;go_ret;refine⟨?_,rfl⟩;rw[A.o]
 first|rfl|(simp;try omega)
theorem Ea(n:Int)(w:K)(h:24<n):
  Calls prog 131 #[H G n] w λe w'=>e=N (H G (RA n))/\w=w':=by
 have A:Hid (RA n=24+1+1+1+1+1+1):=by
  refine VG (k:=24) ?_ 1 1 1 ?_ ?_ ?_
  .unfold clampN;split<;>(try split)<;>omega
  all_goals first|rfl|(rw[if_pos (by omega)])|(rw[if_neg (by omega)])
 have h1:¬n<24:=by omega
 have h2:¬n<=24:=by omega
 go_enter func131,ntmps131;go_wp2;refine wp_loop_rounds 4 ?_;rw[rounds_succ];go_wp2;rw[rounds_succ];go_wp2;rw[rounds_succ];go_wp2;rw[rounds_succ];go_wp2;refine wp_loop_rounds 3 ?_;rw[rounds_succ];go_wp2;rw[rounds_succ];go_wp2;rw[rounds_succ];go_wp2;go_ret;refine⟨?_,rfl⟩;rw[A.o]
 first|rfl|(simp;try omega)
theorem DR(n:Int)(w:K):
  Calls prog 131 #[H G n] w λe w'=>e=N (H G (RA n))/\w=w':=by
 by_cases h0:n<0
 .exact PR n w h0
 .by_cases h1:n=0
  .exact JY n w h1
  .by_cases h2:n<=10
   .exact Ib n w (by omega) h2
   .by_cases h3:n<=20
    .exact ZS n w (by omega) h3
    .by_cases h4:n<=24
     .exact AR n w (by omega) h4
     .exact Ea n w (by omega)
def JC (s:ByteArray)(k:Nat):List UInt8:=s.data.toList.take k++List.replicate (32 - k) 0
theorem zL(s:ByteArray)(k:Nat)(h:k<=s.size)(A0:k<=32):(JC s k).length=32:=by
 have:s.data.toList.length=s.size:=rfl;simp[JC];omega
theorem XT(s:ByteArray)(k:Nat)(h:k<s.size)(A0:k<32):(JC s k).set k s[k]=JC s (k+1):=by
 have hl:s.data.toList.length=s.size:=rfl;have A:(s.data.toList.take k).length=k:=by rw[List.length_take];omega
 rw[JC,List.set_append_right _ _ (by omega),A,Nat.sub_self,show 32 - k=(31 - k)+1 from by omega,List.replicate_succ,List.set_cons_zero,JC];rw[show s.data.toList.take (k+1)=s.data.toList.take k++[s[k]] from by rw[List.take_succ_eq_append_getElem (by simpa using h)];rfl];rw[show 32 - (k+1)=31 - k from by omega];simp
theorem mN(s:ByteArray)(k:Nat)(h:k<=s.size)(A0:k<=32)(D:k=s.size\/k=32):JC s k=bD s:=by
 have hl:s.data.toList.length=s.size:=rfl;rw[JC,bD];rcases D with e|e
 .rw[e,List.take_of_length_le (by omega),List.take_of_length_le (by omega)]
 .subst e;rw[show 32 - 32=32 - s.size from by omega]
theorem WR:(#[H .u8 0,H .u8 0,H .u8 0,H .u8 0,H .u8 0,H .u8 0,H .u8 0,H .u8 0,H .u8 0,H .u8 0,H .u8 0,H .u8 0,H .u8 0,H .u8 0,H .u8 0,H .u8 0,H .u8 0,H .u8 0,H .u8 0,H .u8 0,H .u8 0,H .u8 0,H .u8 0,H .u8 0,H .u8 0,H .u8 0,H .u8 0,H .u8 0,H .u8 0,H .u8 0,H .u8 0,H .u8 0]:Array E)=((JC ⟨#[]⟩ 0).map qF).toArray:=rfl
theorem IW(s:ByteArray):JC s 0=JC ⟨#[]⟩ 0:=by simp[JC]
theorem dM(s:ByteArray)(k:Nat)(wr:K)(B:Nat)(D:k<=s.size)(L:k<=32)(R:k=s.size\/k=32)(Q:Hid (wr.heap[B]?=J (T ((JC s k).map qF).toArray 163 (0,0)))):
  (convert 117 9 (M (J ⟨B,0,Z⟩) 32 32)).run prog wr=.ok (A (fitT s)) wr:=by
 have c:(bD s).length=32:=by rw[<-mN s k D L R];exact zL s k D L
 have h:=run_convert_bytes_back (P:=prog) wr 117 9 5 ⟨B,0,Z⟩ 32 (bD s) underlying117 underlying5 underlying9 (λj X=>by
  rw[Addr.add_lit,Nat.zero_add,cell_of_row wr _ _ _ _ _ Q.o,mN s k D L R]
  simp[X,qF])
 rw[c]at h;exact h
theorem iF(s:ByteArray)(w:K):
  Calls prog 71 #[A s] w λe w'=>e=N (A (fitT s))/\Below w.heap.size w w':=by
 go_enter func71,ntmps71;go_wp2;rw[WR,<-IW s]
 go_loopw [4] (λi wr=>∃k:Nat,k<=32/\k<=s.size/\i=H G k/\Hid (wr.heap[w.heap.size]?=J (T ((JC s k).map qF).toArray 163 (0,0)))/\Below w.heap.size w wr) (λi _=>32 - (intOf i).toNat)
 case atStart=>exact⟨0,Nat.zero_le _,Nat.zero_le _,rfl,heap_alloc_new w _,qA _ _⟩
 case round=>
  obtain⟨k,D,B,rfl,L,C⟩:=hrel;by_cases hlt:k<s.size
  .have A1:(k:Int)<(s.size:Int):=by omega
   by_cases h32:k<32
   .have A0:(k:Int)<32:=by omega
    have o0:wr.cell? ⟨w.heap.size,k,Z⟩=J (qF ((JC s k)[k]'(by rw[zL s k B D];exact h32))):=by
     rw[cell_of_row wr _ _ _ _ _ L.o];have E:k<(JC s k).length:=by rw[zL s k B D];exact h32
     simp[E]
    have fz:=frozen_of_row wr _ k _ _ L.o;go_wp2
    go_roundw
    case rel=>
     refine⟨k+1,by omega,by omega,by go_num,?_,C.setCell (by simp) _⟩;show(wr.setCell ⟨w.heap.size,k,Z⟩ (qF s[k])).heap[w.heap.size]?=_;rw[heap_setCell_same wr _ _ _ _ _ L.o,<-XT s k hlt h32,List.map_set];simp
    case measure=>simp[intOf];omega
   .have e:k=32:=by omega
    have F:=dM s k wr w.heap.size B D (.inr e) L;have I:=zA e;subst e;clear L I;go_wp2;go_ret;exact⟨rfl,C⟩
  .have e:k=s.size:=by omega
   have F:=dM s k wr w.heap.size B D (.inl e) L;clear L e;go_wp2;go_ret;exact⟨rfl,C⟩
theorem Ua(k q p:Int)(a:Option Addr)(n c:Nat)(L:Option Addr)(D Q:Nat)(w:K)(h:k<1\/4<k):
  Calls prog 72 #[F #[H G k,H G q,H G p,M a n c,M L D Q]] w λe w'=>e=N (H G 3)/\Below w.heap.size w w':=by
 by_cases h1:k<1
 .go_enter func72,ntmps72;go_wp2;go_ret;exact⟨rfl,qA _ _⟩
 .have h2:4<k:=by omega
  go_enter func72,ntmps72;go_wp2;go_ret;exact⟨rfl,qA _ _⟩
theorem yT(k q p:Int)(a:Option Addr)(n c:Nat)(L:Option Addr)(D Q:Nat)(w:K)(A1:1<=k)(A0:k<=4)(h:q<1\/2147483647<q\/p<0\/23<p):
  Calls prog 72 #[F #[H G k,H G q,H G p,M a n c,M L D Q]] w λe w'=>e=N (H G 2)/\Below w.heap.size w w':=by
 by_cases h1:q<1
 .go_enter func72,ntmps72;go_wp2;go_ret;exact⟨rfl,qA _ _⟩
 .by_cases h2:2147483647<q
  .go_enter func72,ntmps72;go_wp2;go_ret;exact⟨rfl,qA _ _⟩
  .by_cases h3:p<0
   .go_enter func72,ntmps72;go_wp2;go_ret;exact⟨rfl,qA _ _⟩
   .have h4:23<p:=by omega
    go_enter func72,ntmps72;go_wp2;go_ret;exact⟨rfl,qA _ _⟩
theorem XV(k q p:Int)(a:Option Addr)(n c:Nat)(i:Option Addr)(L X:Nat)(w:K)(A3:1<=k)(A2:k<=4)(A0:1<=q)(A4:q<=2147483647)(A1:0<=p)(A5:p<=23)(d:n<=maxLen)(Q:L<=maxLen)
  (h:(k≠1/\p≠0)\/(k≠2/\n≠0)\/(k≠3/\L≠0)):
  Calls prog 72 #[F #[H G k,H G q,H G p,M a n c,M i L X]] w λe w'=>e=N (H G 1)/\Below w.heap.size w w':=by
 unfold maxLen at d Q;have A:(k !=1)=decide (k≠1):=by by_cases e:k=1<;>simp[e]
 by_cases h1:k≠1/\p≠0
 .have J:(k !=1)=I:=by simpa using h1.1
  have R:(p !=0)=I:=by simpa using h1.2
  clear h h1 A;go_enter func72,ntmps72;go_wp2;go_ret;exact⟨rfl,qA _ _⟩
 .by_cases h2:k≠2/\n≠0
  .have R:(k !=2)=I:=by simpa using h2.1
   have m:((n:Int) !=0)=I:=by simp;exact h2.2
   by_cases B:k=1
   .subst B;clear h h1 h2 A R;go_enter func72,ntmps72;go_wp2;go_ret;exact⟨rfl,qA _ _⟩
   .have j:p=0:=by
     by_cases e:p=0
     .exact e
     .exact absurd ⟨B,e⟩ h1
    subst j;have J:(k !=1)=I:=by simpa using B
    clear h h1 h2 A;go_enter func72,ntmps72;go_wp2;go_ret;exact⟨rfl,qA _ _⟩
  .have D:k≠3/\L≠0:=by
    rcases h with h|h|h
    .exact absurd h h1
    .exact absurd h h2
    .exact h
   have m:((L:Int) !=0)=I:=by simp;exact D.2
   have B:k=1\/k=2\/k=4:=by omega
   rcases B with rfl|rfl|rfl
   .have C:n=0:=by omega
    subst C;clear h h1 h2 D A;go_enter func72,ntmps72;go_wp2;go_ret;exact⟨rfl,qA _ _⟩
   .have C:p=0:=by omega
    subst C;clear h h1 h2 D A;go_enter func72,ntmps72;go_wp2;go_ret;exact⟨rfl,qA _ _⟩
   .have C:p=0:=by omega
    have E:n=0:=by omega
    subst C E;clear h h1 h2 D A;go_enter func72,ntmps72;go_wp2;go_ret;exact⟨rfl,qA _ _⟩
theorem XQ(a:Option Addr)(c:Nat)(l:List Int)(n:Nat)(w:K)(h:SegI w a l)(D:l.length=n)(L:n<=maxLen):
  Calls prog 121 #[M a n c] w λe w'=>e=N (Y (iA l))/\w=w':=by
 subst D;exact mI a c l w h L
theorem tI(a:Option Addr)(c:Nat)(w:K):
  Calls prog 121 #[M a 0 c] w λe w'=>e=N (Y I)/\w=w':=mI a c [] w (.inl rfl) (Nat.zero_le _)
theorem kR(k q p:Int)(a:Option Addr)(c:Nat)(Q:Option Addr)(D:Nat)(w:K)(L:k=1\/(k=4/\p=0))(A0:1<=q)(A2:q<=2147483647)(A1:0<=p)(A3:p<=23):
  Calls prog 72 #[F #[H G k,H G q,H G p,M a 0 c,M Q 0 D]] w λe w'=>e=N (H G 0)/\Below w.heap.size w w':=by
 rcases L with rfl|⟨rfl,rfl⟩
 all_goals
  go_enter func72,ntmps72;go_wp2;refine wp_loop_rounds 1 ?_;rw[rounds_succ];go_wp2_with fail;refine(tI _ _ _).mono ?_;rintro e A ⟨rfl,rfl⟩;go_wp2_with fail;refine(tI _ _ _).mono ?_;rintro e A ⟨rfl,rfl⟩;go_wp2;go_ret;exact⟨rfl,qA _ _⟩
theorem cY(q:Int)(a:Option Addr)(c:Nat)(R:Option Addr)(X:Nat)(l:List Int)(w:K)(L:SegI w R l)(Q:l.length<=maxLen)(A0:1<=q)(A1:q<=2147483647):
  Calls prog 72 #[F #[H G 3,H G q,H G 0,M a 0 c,M R l.length X]] w λe w'=>
   e=N (H G (if(l.length<1\/20<l.length)\/iA l=O then 2 else 0))/\Below w.heap.size w w':=by
 have d:=zA L;have E:=zA Q;unfold maxLen at Q;clear L;by_cases h1:l.length<1
 .have C:(l.length:Int)<1:=by omega
  rw[if_pos (.inl (.inl h1))];go_enter func72,ntmps72;go_wp2;refine wp_loop_rounds 1 ?_;rw[rounds_succ];go_wp2;go_ret;exact⟨rfl,qA _ _⟩
 .have C:¬(l.length:Int)<1:=by omega
  by_cases h2:20<l.length
  .have B:20<(l.length:Int):=by omega
   rw[if_pos (.inl (.inr h2))];go_enter func72,ntmps72;go_wp2;refine wp_loop_rounds 1 ?_;rw[rounds_succ];go_wp2;go_ret;exact⟨rfl,qA _ _⟩
  .have B:¬20<(l.length:Int):=by omega
   have A:(if(l.length<1\/20<l.length)\/iA l=O then(2:Int) else 0)=if iA l=O then 2 else 0:=by simp[h1,h2]
   rw[A];clear A h1 h2;cases hr:iA l
   all_goals
    have I:=zA hr;clear hr;go_enter func72,ntmps72;go_wp2;refine wp_loop_rounds 1 ?_;rw[rounds_succ];go_wp2_with fail;refine(tI _ _ _).mono ?_;rintro e D ⟨rfl,rfl⟩;go_wp2_with fail;refine(mI _ _ l _ (d.o.below (qA _ _)) E.o).mono ?_;rintro e D ⟨rfl,rfl⟩;rw[I.o];go_wp2;go_ret;exact⟨rfl,qA _ _⟩
theorem zW(q:Int)(a:Option Addr)(c:Nat)(a':Option Addr)(c':Nat)(l:List (Int×Bool))(w:K)(hl:SegT w a l)(hn:l.length<=maxLen)(h8:l.length*8<=140737488355328)(A8:1<=q)(A9:q<=2147483647):
  Calls prog 72 #[F #[H G 2,H G q,H G 0,M a l.length c,M a' 0 c']] w λe w'=>
   e=N (H G (KE l))/\Below w.heap.size w w':=by
 have HL:=zA hl;have r:=zA hn;unfold maxLen at hn;clear hl;obtain⟨i0,hi,U,A7,d⟩:=info_parts zE;go_enter func72,ntmps72;go_wp2
 go_loopw [3,65] (λv i wr=>∃k:Nat,k<=l.length/\i=H G k/\Hid (wr.ownsRow (w.heap.size+1) 3 1 v k (cellsI (aG l k)))/\Below (w.heap.size+1) (w.alloc (T #[H G 2,H G q,H G 0,M a l.length c,M a' 0 c'] 81)) wr) (λ_ i _=>l.length - (intOf i).toNat)
 case atStart=>exact⟨0,Nat.zero_le _,rfl,World.ownsRow_nil _ _ _ _,Below.refl _ _⟩
 case round=>
  obtain⟨k,Y,rfl,A,B⟩:=hrel;have X:w.heap.size+1<=wr.heap.size:=by have:=B.size;simp at this;omega
  have A4:Below w.heap.size w wr:=(qA _ _).trans (B.mono (by omega));by_cases hlt:k<l.length
  .obtain⟨b,m,rfl,hb,hc⟩:=HL.o.resolve_left (by intro e;rw[e]at hlt;simp at hlt);obtain⟨x,R⟩:∃x,x=l.getD k (0,O):=⟨_,rfl⟩;obtain⟨L,A5⟩:=hc k hlt;rw[<-R]at L A5;have HX:Hid (l[k]?=J x):=by rw[R];exact YA _ _ _ hlt
   have g1:=xA A4 hb L;have g2:=xA A4 hb A5;clear R hc L A5;obtain⟨n,f⟩:=x;have A0:(k:Int)<(l.length:Int):=by omega
   have HT:Hid (cellsI (aG l (k+1))=cellsI (aG l k)++cellsI [n]):=by
    rw[Hid,aG,List.take_add_one,HX.o];simp[cellsI,aG]
   go_wp2_with (at_builtin;refine wpList_append_own _ rfl _ _ 47 rfl (w.heap.size+1) 3 i0 (H G 0) 1 8 underlying47 hi U A7 d rfl (by decide) _ _ _ rfl ((A.o.alloc _).alloc _) ⟨wr.heap.size+1,0,Z⟩ 1 1 (cellsI [n]) rfl ?qc1 ?qc2 ?qc3 ?qc4 ?qc5 ?qc6 ?_)
   case qc1=>rfl
   case qc2=>
    intro j u A3
    match j,A3 with
    |0,A3=>simp[cellsI]at A3;subst A3;simp[go_sem]
   case qc3=>exact CG
   case qc4=>unfold maxLen;omega
   case qc5=>omega
   case qc6=>first|omega|(simp;omega)
   intro v4 w4 D E _
   have z:Below (w.heap.size+1) (w.alloc (T #[H G 2,H G q,H G 0,M (J ⟨b,m,Z⟩) l.length c,M a' 0 c'] 81)) w4:=
    ((B.alloc X _).alloc (by simp;omega) _).grown E (by simp;omega) (λk Y=>(A.o.lt k Y).1)
   rw[<-HT.o]at D;have HO:=zA D;clear D E A B;go_wp2
   go_roundw
   case rel=>exact⟨k+1,by omega,by go_num,HO,z⟩
   case measure=>simp[intOf];omega
  .have e:k=l.length:=by omega
   subst e;have C:=A.o;rw[aG,List.take_length]at C;obtain⟨a2,c2,hv,hS,_⟩:=SegI.of_owns C;have s:=zA hS;rw[List.length_map]at hv;subst hv;have x0:wr.cell? ⟨w.heap.size,0,Z⟩=J (H G 2):=(B.cell (p:=⟨w.heap.size,0,Z⟩) (by simp)).trans (by simp[go_sem]);have x4:wr.cell? ⟨w.heap.size,4,Z⟩=J (M a' 0 c'):=(B.cell (p:=⟨w.heap.size,4,Z⟩) (by simp)).trans (by simp[go_sem]);have A2:=zA A4;clear A C hS B A4 hlt;by_cases h1:l.length<1
   .have y:(l.length:Int)<1:=by omega
    have I:Hid (KE l=2):=by rw[Hid,KE,if_pos (.inl (.inl h1))]
    go_wp2;go_ret;exact⟨by rw[I.o];rfl,A2.o⟩
   .have y:¬(l.length:Int)<1:=by omega
    by_cases h2:10<l.length
    .have h:10<(l.length:Int):=by omega
     have I:Hid (KE l=2):=by rw[Hid,KE,if_pos (.inl (.inr h2))]
     go_wp2;go_ret;exact⟨by rw[I.o];rfl,A2.o⟩
    .have h:¬10<(l.length:Int):=by omega
     have I:Hid (KE l=if iA (l.map (·.1))=O then 2 else 0):=by simp[Hid,KE,h1,h2]
     have Q:(l.map (·.1)).length=l.length:=List.length_map _;have A6:=zA Q;clear h1 h2 Q;cases hr:iA (l.map (·.1))
     .have A1:=zA hr;clear hr;go_wp2_with fail;refine(XQ _ _ (l.map (·.1)) l.length _ s.o A6.o r.o).mono ?_;rintro e S ⟨rfl,rfl⟩;rw[A1.o];go_wp2;go_ret;exact⟨by rw[I.o,A1.o];rfl,A2.o⟩
     .have A1:=zA hr;clear hr;go_wp2_with fail;refine(XQ _ _ (l.map (·.1)) l.length _ s.o A6.o r.o).mono ?_;rintro e S ⟨rfl,rfl⟩;rw[A1.o];go_wp2_with fail;refine(tI _ _ _).mono ?_;rintro e S ⟨rfl,rfl⟩;go_wp2;go_ret;exact⟨by rw[I.o,A1.o];rfl,A2.o⟩
theorem cG(v:E)(m:Mk)(w:K)(h:IsMk w v m)(k:m.tags.length*8<=140737488355328):
  Calls Tryz.prog 72 #[v] w λe w'=>e=N (H G (goodM m))/\Below w.heap.size w w':=by
 obtain⟨a,c,i,D,rfl,R,r,M,I⟩:=h;by_cases h1:m.kind<1\/4<m.kind
 .rw[goodM,if_pos h1];exact Ua _ _ _ _ _ _ _ _ _ w h1
 .by_cases h2:m.seq<1\/2147483647<m.seq\/m.pos<0\/23<m.pos
  .rw[goodM,if_neg h1,if_pos h2];exact yT _ _ _ _ _ _ _ _ _ w (by omega) (by omega) h2
  .by_cases h3:(m.kind≠1/\m.pos≠0)\/(m.kind≠2/\m.tags≠[])\/(m.kind≠3/\m.blocks≠[])
   .rw[goodM,if_neg h1,if_neg h2,if_pos h3];refine XV _ _ _ _ _ _ _ _ _ w (by omega) (by omega) (by omega) (by omega) (by omega) (by omega) M I ?_;rcases h3 with h|⟨h,d⟩|⟨h,d⟩
    .exact .inl h
    .exact .inr (.inl ⟨h,λe=>d (List.eq_nil_of_length_eq_zero e)⟩)
    .exact .inr (.inr ⟨h,λe=>d (List.eq_nil_of_length_eq_zero e)⟩)
   .have q:goodM m=if(m.kind=2/\(m.tags.length<1\/10<m.tags.length))\/(m.kind=3/\(m.blocks.length<1\/20<m.blocks.length))\/iA (m.tags.map (·.1))=O\/iA m.blocks=O then 2 else 0:=by
     rw[goodM,if_neg h1,if_neg h2,if_neg h3]
    have Q:m.kind=1\/m.kind=2\/m.kind=3\/m.kind=4:=by omega
    have f1:m.kind≠1->m.pos=0:=λe=>by
     by_cases x:m.pos=0
     .exact x
     .exact absurd (.inl ⟨e,x⟩) h3
    have j:m.kind≠2->m.tags=[]:=λe=>by
     by_cases x:m.tags=[]
     .exact x
     .exact absurd (.inr (.inl ⟨e,x⟩)) h3
    have L:m.kind≠3->m.blocks=[]:=λe=>by
     by_cases x:m.blocks=[]
     .exact x
     .exact absurd (.inr (.inr ⟨e,x⟩)) h3
    have B:1<=m.seq:=by omega
    have C:m.seq<=2147483647:=by omega
    have F:0<=m.pos:=by omega
    have J:m.pos<=23:=by omega
    clear h1 h2 h3;obtain⟨kind,seq,pos,X,A⟩:=m;dsimp only at *;rw[q];rcases Q with rfl|rfl|rfl|rfl
    .obtain rfl:=j (by decide);obtain rfl:=L (by decide);rw[if_neg (by simp[iA,UA])];exact kR 1 seq pos a c i D w (.inl rfl) B C F J
    .obtain rfl:=f1 (by decide);obtain rfl:=L (by decide);rw[show(if((2:Int)=2/\(X.length<1\/10<X.length))\/((2:Int)=3/\(([]:List Int).length<1\/20<([]:List Int).length))\/iA (X.map (·.1))=O\/iA []=O then(2:Int) else 0)=KE X from by simp[KE,iA,UA]];exact zW seq a c i D X w R M k B C
    .obtain rfl:=f1 (by decide);obtain rfl:=j (by decide);rw[show(if((3:Int)=2/\(([]:List (Int×Bool)).length<1\/10<([]:List (Int×Bool)).length))\/((3:Int)=3/\(A.length<1\/20<A.length))\/iA (([]:List (Int×Bool)).map (·.1))=O\/iA A=O then(2:Int) else 0)=if(A.length<1\/20<A.length)\/iA A=O then 2 else 0 from by simp[iA,UA]];exact cY seq a c i D A w r I B C
    .obtain rfl:=f1 (by decide);obtain rfl:=j (by decide);obtain rfl:=L (by decide);rw[if_neg (by simp[iA,UA])];exact kR 4 seq 0 a c i D w (.inr ⟨rfl,rfl⟩) B C F J
open Go.Proofs.Tryz
theorem nZ(n:Nat)(w:K)(hn:n<256):
  Calls prog 73 #[H G n] w λe w'=>e=N (A (JA n))/\Below w.heap.size w w':=by
 have A0:(convert 117 9 (M (J ⟨w.heap.size,0,Z⟩) 1 1)).run prog (w.alloc (T #[H .u8 (n:Int)] 5))=.ok (A (JA n)) (w.alloc (T #[H .u8 (n:Int)] 5)):=by
  refine run_convert_bytes_back (P:=prog) _ 117 9 5 ⟨w.heap.size,0,Z⟩ 1 [UInt8.ofNat n] underlying117 underlying5 underlying9 (λj D=>?_);have:j=0:=by simp at D;omega
  subst this;have e:(UInt8.ofNat n).toNat=n:=by simp;omega
  simp only[List.getElem_cons_zero,e];simp[Addr.add]
 have h0:(0:Int)<=(n:Int):=by omega
 have h1:(n:Int)<=255:=by omega
 go_enter func73,ntmps73;go_wp2;go_ret;exact⟨rfl,qA _ _⟩
theorem VM(h u:Int)(w:K):
  Calls prog 126 #[F #[H G h,H G u]] w λe w'=>e=N (Y (mB h u))/\Below w.heap.size w w':=by
 by_cases h1:0<=h
 .by_cases h2:h<=23
  .by_cases h3:0<=u
   .by_cases h4:u<=24
    all_goals
     go_enter func126,ntmps126;go_wp2;go_ret;exact⟨by simp[mB,h1,h2,h3,h4],qA _ _⟩
   .go_enter func126,ntmps126;go_wp2;go_ret;exact⟨by simp[mB];omega,qA _ _⟩
  .go_enter func126,ntmps126;go_wp2;go_ret;exact⟨by simp[mB];omega,qA _ _⟩
 .go_enter func126,ntmps126;go_wp2;go_ret;exact⟨by simp[mB];omega,qA _ _⟩
theorem Gb(h u n:Int)(w:K):
  Calls prog 129 #[F #[H G h,H G u],H G n] w λe w'=>∃a2 c2,e=N (S #[F #[H G (takeH h u n),H G (takeU h u n)],M a2 (takeL h u n).length c2,H G (takeE h u n)])/\(SegI w' a2 (takeL h u n)/\∀b A5,a2=J ⟨b,A5,Z⟩->w.heap.size<=b)/\Below w.heap.size w w':=by
 go_enter func129,ntmps129;go_wp2_with fail;refine(VM h u _).mono ?_;rintro e A7 ⟨rfl,A9⟩;have A4:w.heap.size+1<A7.heap.size:=by have:=A9.size;simp at this;omega
 have A1:w.heap.size<A7.heap.size:=by omega
 obtain⟨⟨s,x1⟩,_⟩:=XA (sB A9);obtain⟨⟨L,A8⟩,B5,f1⟩:=XA (JB A9);have B1:=zA (vA (vA (qA _ _) (qA _ _)) A9);clear A9;by_cases hE:mB h u=O\/n<0
 .have E:Hid (takeE h u n=2):=by rw[Hid,takeE,if_pos hE]
  have A:Hid (takeH h u n=h/\takeU h u n=u/\takeL h u n=[]):=by simp[Hid,takeH,takeU,takeL,E.o]
  cases A6:mB h u with
  |false=>
   clear A6 hE;go_wp2;refine bodyPost_ret (v:=S #[F #[H G h,H G u],M Z 0 0,H G 2]) (by simp[results,results129,go_sem,L,A8]) rfl ⟨Z,0,by rw[E.o,A.o.1,A.o.2.1,A.o.2.2];rfl,⟨.inl A.o.2.2,λ_ _ e=>by cases e⟩,?_⟩
   repeat refine Below.setCell ?_ (by simp) _
   exact B1.o
  |true=>
   have hn:n<0:=by rw[A6]at hE;rcases hE with e|e;cases e;exact e
   clear A6 hE;go_wp2;refine bodyPost_ret (v:=S #[F #[H G h,H G u],M Z 0 0,H G 2]) (by simp[results,results129,go_sem,L,A8]) rfl ⟨Z,0,by rw[E.o,A.o.1,A.o.2.1,A.o.2.2];rfl,⟨.inl A.o.2.2,λ_ _ e=>by cases e⟩,?_⟩
   repeat refine Below.setCell ?_ (by simp) _
   exact B1.o
 .have A6:mB h u=I:=by cases e:mB h u;exact absurd (.inl e) hE;rfl
  have hb:=PK A6;have hn:¬n<0:=λe=>hE (.inr e);rw[A6];by_cases hs:24 - u<n
  .have E:Hid (takeE h u n=6):=by rw[Hid,takeE,if_neg hE,if_pos hs]
   have A:Hid (takeH h u n=h/\takeU h u n=u/\takeL h u n=[]):=by simp[Hid,takeH,takeU,takeL,E.o]
   clear A6 hE;go_wp2;refine bodyPost_ret (v:=S #[F #[H G h,H G u],M Z 0 0,H G 6]) (by simp[results,results129,go_sem,L,A8]) rfl ⟨Z,0,by rw[E.o,A.o.1,A.o.2.1,A.o.2.2];rfl,⟨.inl A.o.2.2,λ_ _ e=>by cases e⟩,?_⟩
   repeat refine Below.setCell ?_ (by simp) _
   exact B1.o
  .have E:Hid (takeE h u n=0):=by rw[Hid,takeE,if_neg hE,if_neg hs]
   obtain⟨m,rfl⟩:=Int.eq_ofNat_of_zero_le (show 0<=n by omega);have A:Hid (takeH h u m=(h+m)%24/\takeU h u m=u+m/\takeL h u m=OB h m):=by simp[Hid,takeH,takeU,takeL,E.o]
   clear A6 hE;obtain⟨z,Q,R,Y,c⟩:=info_parts zE;have r1:(h+(m:Int)).tmod 24=(h+(m:Int))%24:=Int.tmod_eq_emod_of_nonneg (by omega);go_wp2
   go_loopw [7,24] (λv i wr=>∃k:Nat,k<=m/\i=H G k/\Hid (wr.ownsRow A7.heap.size 3 1 v k (cellsI (OB h k)))/\Below A7.heap.size A7 wr) (λ_ i _=>m - (intOf i).toNat)
   case atStart=>exact⟨0,Nat.zero_le _,rfl,World.ownsRow_nil _ _ _ _,Below.refl _ _⟩
   case round=>
    obtain⟨k,X,rfl,C,B⟩:=hrel;have U:=B.size;have A3:w.heap.size<wr.heap.size:=by omega
    have A2:w.heap.size+1<wr.heap.size:=by omega
    have z0:=xA B (by omega) s;have y:=xA B (by omega) x1;by_cases B0:k<m
    .have A0:(k:Int)<(m:Int):=by omega
     have r2:(h+(k:Int)).tmod 24=(h+(k:Int))%24:=Int.tmod_eq_emod_of_nonneg (by omega);go_wp2_with (at_builtin;refine wpList_append_own _ rfl _ _ 47 rfl A7.heap.size 3 z (H G 0) 1 8 underlying47 Q R Y c rfl (by decide) _ _ _ rfl (C.o.alloc _) ⟨wr.heap.size,0,Z⟩ 1 1 (cellsI [(h+(k:Int))%24]) rfl ?qc1 ?qc2 ?qc3 ?qc4 ?qc5 ?qc6 ?_)
     case qc1=>rfl
     case qc2=>
      intro j u B2
      match j,B2 with
      |0,B2=>simp[cellsI]at B2;subst B2;simp[go_sem]
     case qc3=>exact CG
     case qc4=>unfold maxLen;omega
     case qc5=>omega
     case qc6=>first|omega|(simp;omega)
     intro v4 x D B4 _;have p:Below A7.heap.size A7 x:=(B.alloc U _).grown B4 (by first|omega|(simp;omega)) (λk X=>(C.o.lt k X).1);rw[<-AF,<-lQ]at D;have l:=zA D;clear D B4 C B z0 y;go_wp2
     go_roundw
     case rel=>exact⟨k+1,by omega,by go_num,l,p⟩
     case measure=>simp[intOf];omega
    .have e:m=k:=by omega
     subst e;obtain⟨a2,c2,q,r,a⟩:=SegI.of_owns C.o;rw[xD]at q;subst q;have HS:=zA r;have B3:=zA a;have d:=zA (vA B1.o B)
     replace L:=xA B (by omega) L
     replace A8:=xA B (by omega) A8
     replace B5:=bA B (by omega) B5
     replace f1:=bA B (by omega) f1
     clear C r a B;go_wp2;refine bodyPost_ret (v:=S #[F #[H G ((h+(m:Int))%24),H G (u+m)],M a2 m c2,H G 0]) (by simp[results,results129,go_sem,L,A8]) rfl ⟨a2,c2,by rw[E.o,A.o.1,A.o.2.1,A.o.2.2,xD],⟨?_,λb A5 e=>(by have:=B3.o b A5 e;omega)⟩,?_⟩
     .rw[A.o.2.2];rcases HS.o with h|⟨b,A5,e,B0,hc⟩
      .exact .inl h
      .have:=B3.o b A5 e;exact .inr ⟨b,A5,e,by simpa[World.setCell] using B0,λi Q=>lC (lC (hc i Q) (by simp;omega)) (by simp;omega)⟩
     .repeat refine Below.setCell ?_ (by simp) _
      exact d.o
