/- -/
import Derived.Test.YtjnpndfpajjihacGreatGrTopMemory10
import Derived.Test.YtjnpndfpajjihacGreatGrTopMemory2
namespace Go.Proofs.YtjnpndfpajjihacGreat
set_option maxRecDepth 100000
set_option maxHeartbeats 40000000
open Go.RowKit
def zbs {α:Type}(z:α)(l:List α)(k:Nat):List α:=l.take k++List.replicate (l.length - k) z
theorem zfa {α:Type}(z:α)(l:List α):zbs z l 0=List.replicate l.length z:=by simp[zbs]
theorem zii {α:Type}(z:α)(l:List α):zbs z l l.length=l:=by simp[zbs]
theorem zej {α:Type}(z:α)(l:List α)(k:Nat)(h:k≤l.length):(zbs z l k).length=l.length:=by simp[zbs];omega
theorem zgd {α:Type}(z:α)(l:List α)(k:Nat)(x:α)(h:l[k]?=some x):(zbs z l k).set k x=zbs z l (k+1):=by
 have hk:k<l.length:=(List.getElem?_eq_some_iff.1 h).1;have hl:(l.take k).length=k:=by rw[List.length_take];omega
 rw[zbs,List.set_append_right _ _ (by omega),hl,Nat.sub_self,show l.length - k=(l.length - (k+1))+1 from by omega,List.replicate_succ,List.set_cons_zero,zbs,List.take_add_one,h];simp
theorem zjf (l:List Int)(k:Nat)(x:Int):(cellsI l).set k (.int .i64 x)=cellsI (l.set k x):=by simp[cellsI,List.map_set]
theorem zu1 (n:Nat):cellsI (List.replicate n 0)=List.replicate n (.int .i64 0):=by simp[cellsI]
theorem z24 (n:Nat)(h:n≤1000)(w:World):(Instr.makeSlice 35 (.int .i64 (n:Int)) (.int .i64 (n:Int))).run Tryz.prog w=.ok (.slice (some ⟨w.heap.size,0,none⟩) n n) (w.alloc (.cells (cellsI (List.replicate n 0)).toArray 3)):=by
 obtain⟨i0,hi,hz0,hz1,hz2⟩:=info_parts zrs;have:=run_make (P:=Tryz.prog) w 35 3 i0 (.int .i64 0) Tryz.underlying35 hi hz0 .i64 .i64 n n (by omega) (by omega) (by rw[hz2];omega) (by omega);rw[this,hz1,Int.toNat_natCast,zu1]
 congr 3
 apply Array.ext
 ·simp[madeCells]
 ·intro i h1 h2
  have h2':i<n:=by simpa using h2
  simp[madeCells,Nat.mod_one,Value.cells]
theorem zu2 (a:Option Addr)(c:Nat)(l:List (Int×Bool))(w:World)(h:SegT w a l)(hn:l.length≤10):
  Calls Tryz.prog 186 #[.slice a l.length c] w fun e w'=>∃a2 c2,e=.returned (.slice a2 l.length c2)∧SegI w' a2 (l.map (·.1))∧Below w.heap.size w w':=by
 have HS:=zaa h;clear h;have hmk:=z24 l.length (by omega);obtain⟨nums,hnums⟩:∃nums,nums=l.map (·.1):=⟨_,rfl⟩;have hlen:nums.length=l.length:=by rw[hnums,List.length_map]
 have HN:=zaa hnums;have HL:=zaa hlen;go_enter Tryz.func186,Tryz.ntmps186;go_wp2;clear hnums hlen
 go_loopw [11] (fun i wr=>∃k:Nat,k≤l.length∧i=.int .i64 k∧Hid (wr.heap[w.heap.size]?=some (.cells (cellsI (zbs 0 nums k)).toArray 3 (0,0)))∧Below w.heap.size w wr) (fun i _=>l.length - (intOf i).toNat)
 case atStart=>exact⟨0,Nat.zero_le _,rfl,by rw[zfa,HL.o];exact heap_alloc_new w _,zab _ _⟩
 case round=>
  obtain⟨k,hk,rfl,hbox,hbr⟩:=hrel;have hsr:w.heap.size<wr.heap.size:=(Array.getElem?_eq_some_iff.1 hbox.o).1;by_cases hlt:k<l.length
  ·obtain⟨b,off,rfl,hb,hc⟩:=HS.o.resolve_left (by intro e;rw[e] at hlt;simp at hlt)
   obtain⟨x,hx⟩:∃x,x=l.getD k (0,false):=⟨_,rfl⟩;obtain⟨hc1,hc2⟩:=hc k hlt;rw[←hx] at hc1 hc2;have HX:Hid (nums[k]?=some x.1):=by rw[Hid,HN.o,List.getElem?_map,hx,zcb l k (0,false) hlt];rfl
   have g1:=zac hbr hb hc1;have g2:=zac hbr hb hc2;clear hx hc hc1 hc2;obtain⟨n,f⟩:=x;have hlt':(k:Int)<(l.length:Int):=by omega
   obtain⟨y,hy⟩:∃y,wr.cell? ⟨w.heap.size,k,none⟩=some (.int .i64 y):=by
    have hlen:k<(zbs 0 nums k).length:=by rw[zej _ _ _ (by rw[HL.o];omega),HL.o];exact hlt
    refine⟨(zbs 0 nums k)[k],?_⟩;rw[cell_of_row wr _ _ _ _ _ hbox.o];simp[cellsI,hlen]
   have fz:=frozen_of_row wr _ k _ _ hbox.o;go_wp2
   go_roundw
   case rel=>
    refine⟨k+1,by omega,by go_num,?_,(hbr.setCell (by simp) _).alloc (by simp;omega) _⟩;refine(Below.heap_alloc _ _ _ (by simpa using hsr)).trans ?_;rw[heap_setCell_same _ _ _ _ _ _ hbox.o,←zgd 0 nums k n HX.o,←zjf];simp
   case measure=>simp[intOf];omega
  ·have e:k=l.length:=by omega
   subst e;have hf:=hbox.o;rw[←HL.o,zii] at hf;have HF:=zaa hf;clear hf hbox;go_wp2;go_ret;refine⟨_,_,rfl,?_,hbr⟩;rw[←HN.o];by_cases h0:nums=[]
   ·exact .inl h0
   ·refine .inr ⟨w.heap.size,0,rfl,hsr,fun i hi=>?_⟩
    rw[cell_of_row wr _ _ _ _ _ HF.o,Nat.zero_add];have:=zga nums i hi
    simpa using this
theorem z03 (a:Option Addr)(c:Nat)(l:List Int)(n:Nat)(w:World)(h:SegI w a l)(hl:l.length=n)(hn:n≤maxLen):
  Calls Tryz.prog 185 #[.slice a n c] w fun e w'=>e=.returned (.bool (zbg l))∧w=w':=by
 subst hl;exact zph a c l w h hn
theorem zu3 (q p:Int)(a:Option Addr)(c:Nat)(a':Option Addr)(n' c':Nat)(l:List (Int×Bool))(w:World)(h:SegT w a l)(hn:l.length≤maxLen):
  Calls Tryz.prog 140 #[.agg #[.int .i64 2,.int .i64 q,.int .i64 p,.slice a l.length c,.slice a' n' c']] w fun e w'=>e=.returned (.bool (zam l.length 1 10&&zbg (l.map (·.1))))∧Below w.heap.size w w':=by
 have HS:=zaa h;unfold maxLen at hn;clear h;go_enter Tryz.func140,Tryz.ntmps140;go_wp2_with fail;refine(zdx l.length 1 10 _).mono ?_;rintro e w1 ⟨rfl,rfl⟩
 cases hw:zam l.length 1 10 with
 |false=>
  have HW:=zaa hw;clear hw;go_wp2;go_ret;exact⟨by rw[HW.o,Bool.false_and];rfl,zab _ _⟩
 |true=>
  have hle:=zc9 hw;have h10:l.length≤10:=by omega
  have HW:=zaa hw;clear hle hw;go_wp2_with fail;refine(zu2 _ _ l _ (HS.o.below (zab _ _)) h10).mono ?_;rintro e w1 ⟨a2,c2,rfl,hS2,hb1⟩;have HS2:=zaa hS2;have HB:=zaa (zae (zab _ _) hb1);clear hS2 hb1;go_wp2_with fail;refine(z03 _ _ (l.map (·.1)) l.length _ HS2.o (List.length_map _) (by unfold maxLen;omega)).mono ?_;rintro e w2 ⟨rfl,rfl⟩;go_wp2;go_ret;exact⟨by rw[HW.o,Bool.true_and];rfl,HB.o⟩
theorem zu4 (q p:Int)(a:Option Addr)(n c:Nat)(a':Option Addr)(c':Nat)(l:List Int)(w:World)(h:SegI w a' l)(hn:l.length≤maxLen):
  Calls Tryz.prog 140 #[.agg #[.int .i64 3,.int .i64 q,.int .i64 p,.slice a n c,.slice a' l.length c']] w fun e w'=>e=.returned (.bool (zam l.length 1 20&&zbg l))∧Below w.heap.size w w':=by
 have HS:=zaa h;have HN:=zaa hn;unfold maxLen at hn;clear h;go_enter Tryz.func140,Tryz.ntmps140;go_wp2_with fail;refine(zdx l.length 1 20 _).mono ?_;rintro e w1 ⟨rfl,rfl⟩
 cases hw:zam l.length 1 20 with
 |false=>
  have HW:=zaa hw;clear hw;go_wp2;go_ret;exact⟨by rw[HW.o,Bool.false_and];rfl,zab _ _⟩
 |true=>
  have HW:=zaa hw;clear hw;go_wp2_with fail;refine(zph _ _ l _ (HS.o.below (zab _ _)) HN.o).mono ?_;rintro e w2 ⟨rfl,rfl⟩;go_wp2;go_ret;exact⟨by rw[HW.o,Bool.true_and];rfl,zab _ _⟩
theorem zk7 (k q p:Int)(a:Option Addr)(n c:Nat)(a':Option Addr)(n' c':Nat)(w:World)(hk:k=1∨k=4):
  Calls Tryz.prog 140 #[.agg #[.int .i64 k,.int .i64 q,.int .i64 p,.slice a n c,.slice a' n' c']] w fun e w'=>e=.returned (.bool true)∧Below w.heap.size w w':=by
 rcases hk with rfl|rfl
 all_goals
  go_enter Tryz.func140,Tryz.ntmps140;go_wp2;go_ret;exact⟨rfl,zab _ _⟩
def zmx (m:Mk):Bool:=if m.kind=2 then zam m.tags.length 1 10&&zbg (m.tags.map (·.1)) else if m.kind=3 then zam m.blocks.length 1 20&&zbg m.blocks else true
theorem zu5 {m:Mk}(h:¬((m.kind≠1∧m.pos≠0)∨(m.kind≠2∧m.tags≠[])∨(m.kind≠3∧m.blocks≠[])))(hb:zmx m=true):
  ¬((m.kind=2∧(m.tags.length<1∨10<m.tags.length))∨(m.kind=3∧(m.blocks.length<1∨20<m.blocks.length))∨zbg (m.tags.map (·.1))=false∨zbg m.blocks=false):=by
 have t0:m.kind≠2→m.tags=[]:=fun e=>Classical.byContradiction fun x=>h (.inr (.inl ⟨e,x⟩));have b0:m.kind≠3→m.blocks=[]:=fun e=>Classical.byContradiction fun x=>h (.inr (.inr ⟨e,x⟩));unfold zmx at hb;rintro(⟨hk,hl⟩|⟨hk,hl⟩|hr|hr)
 ·rw[if_pos hk,Bool.and_eq_true] at hb
  have:=zc9 hb.1;omega
 ·rw[if_neg (by omega),if_pos hk,Bool.and_eq_true] at hb
  have:=zc9 hb.1;omega
 ·by_cases hk:m.kind=2
  ·rw[if_pos hk,Bool.and_eq_true] at hb
   rw[hr] at hb;cases hb.2
  ·rw[t0 hk] at hr;cases hr
 ·by_cases hk:m.kind=3
  ·rw[if_neg (by omega),if_pos hk,Bool.and_eq_true] at hb
   rw[hr] at hb;cases hb.2
  ·rw[b0 hk] at hr;cases hr
theorem zxr {m:Mk}(hb:zmx m=false):
  (m.kind=2∧(m.tags.length<1∨10<m.tags.length))∨(m.kind=3∧(m.blocks.length<1∨20<m.blocks.length))∨zbg (m.tags.map (·.1))=false∨zbg m.blocks=false:=by
 unfold zmx at hb;by_cases hk:m.kind=2
 ·rw[if_pos hk,Bool.and_eq_false_iff] at hb
  rcases hb with hb|hb
  ·have:=zec hb
   exact .inl ⟨hk,by omega⟩
  ·exact .inr (.inr (.inl hb))
 ·rw[if_neg hk] at hb
  by_cases hk3:m.kind=3
  ·rw[if_pos hk3,Bool.and_eq_false_iff] at hb
   rcases hb with hb|hb
   ·have:=zec hb
    exact .inr (.inl ⟨hk3,by omega⟩)
   ·exact .inr (.inr (.inr hb))
  ·rw[if_neg hk3] at hb;cases hb
theorem zxs (v:Value)(m:Mk)(w:World)(h:IsMk w v m)(hk:m.kind=1∨m.kind=2∨m.kind=3∨m.kind=4):
  Calls Tryz.prog 140 #[v] w fun e w'=>e=.returned (.bool (zmx m))∧Below w.heap.size w w':=by
 obtain⟨a,c,a',c',rfl,hS,hW,hn,hm⟩:=h;obtain⟨kind,seq,pos,tags,blocks⟩:=m;dsimp only at hk;rcases hk with rfl|rfl|rfl|rfl
 ·exact zk7 1 seq pos a _ c a' _ c' w (.inl rfl)
 ·exact zu3 seq pos a c a' _ c' tags w hS hn
 ·exact zu4 seq pos a _ c a' c' blocks w hW hm
 ·exact zk7 4 seq pos a _ c a' _ c' w (.inr rfl)
theorem zij (v:Value)(m:Mk)(w:World)(h:IsMk w v m):
  Calls Tryz.prog 105 #[v] w fun e w'=>e=.returned (.int .i64 (goodM m))∧Below w.heap.size w w':=by
 have HI:=zaa h;obtain⟨a,c,a',c',rfl,_,_,hn,hm⟩:=h;go_enter Tryz.func105,Tryz.ntmps105;go_wp2_with fail;refine(zdx m.kind 1 4 _).mono ?_;rintro e w1 ⟨rfl,rfl⟩
 cases h1:zam m.kind 1 4 with
 |false=>
  have HE:Hid (goodM m=3):=by rw[Hid,goodM,if_pos (by have:=zec h1;omega)]
  clear h1;go_wp2;go_ret;exact⟨by rw[HE.o];rfl,zab _ _⟩
 |true=>
  have hk:=zc9 h1;clear h1;have n1:¬(m.kind<1∨4<m.kind):=by omega
  go_wp2_with fail;refine(zdx m.seq 1 2147483647 _).mono ?_;rintro e w1 ⟨rfl,rfl⟩
  cases h2:zam m.seq 1 2147483647 with
  |false=>
   have HE:Hid (goodM m=2):=by rw[Hid,goodM,if_neg n1,if_pos (by have:=zec h2;omega)]
   clear h2 n1;go_wp2;go_ret;exact⟨by rw[HE.o];rfl,zab _ _⟩
  |true=>
   have hq:=zc9 h2;clear h2;go_wp2_with fail;refine(zdx m.pos 0 23 _).mono ?_;rintro e w1 ⟨rfl,rfl⟩
   cases h3:zam m.pos 0 23 with
   |false=>
    have HE:Hid (goodM m=2):=by rw[Hid,goodM,if_neg n1,if_pos (by have:=zec h3;omega)]
    clear h3 n1;go_wp2;go_ret;exact⟨by rw[HE.o];rfl,zab _ _⟩
   |true=>
    have hp:=zc9 h3;clear h3;have n2:¬(m.seq<1∨2147483647<m.seq∨m.pos<0∨23<m.pos):=by omega
    have hk4:m.kind=1∨m.kind=2∨m.kind=3∨m.kind=4:=by omega
    have HK4:=zaa hk4;have HN1:=zaa n1;have HN2:=zaa n2;clear hk4 n1 n2 hk hq hp;go_wp2_with fail;refine(zr1 m.kind m.pos a m.tags.length c a' m.blocks.length c' _ HK4.o m.seq hn hm).mono ?_;rintro e w1 ⟨rfl,hb1⟩;have hs1:w.heap.size<w1.heap.size:=by have:=hb1.size;simp at this;omega
    obtain⟨⟨x0,x1,x2,x3,x4⟩,_⟩:=zie (z2j hb1);have HB:=zaa (zae (zab _ _) hb1);clear hb1
    cases h4:zg8 m.kind m.pos m.tags.length m.blocks.length with
    |true=>
     have HE:Hid (goodM m=1):=by
      rw[Hid,goodM,if_neg HN1.o,if_neg HN2.o,if_pos];simp only[zg8,decide_eq_true_eq] at h4;rcases h4 with h|h|h
      ·exact .inl ⟨h.2,h.1⟩
      ·exact .inr (.inl ⟨h.2,fun e=>by rw[e] at h;simp at h⟩)
      ·exact .inr (.inr ⟨h.2,fun e=>by rw[e] at h;simp at h⟩)
     clear h4;go_wp2;go_ret;exact⟨by rw[HE.o];rfl,HB.o⟩
    |false=>
     have H4:Hid (¬((m.kind≠1∧m.pos≠0)∨(m.kind≠2∧m.tags≠[])∨(m.kind≠3∧m.blocks≠[]))):=by
      intro h
      have:zg8 m.kind m.pos m.tags.length m.blocks.length=true:=by
       simp only[zg8,decide_eq_true_eq];rcases h with h|h|h
       ·exact .inl ⟨h.2,h.1⟩
       ·exact .inr (.inl ⟨List.length_pos_iff.2 h.2,h.1⟩)
       ·exact .inr (.inr ⟨List.length_pos_iff.2 h.2,h.1⟩)
      rw[h4] at this;cases this
     clear h4;go_wp2_with fail;refine(zxs _ m _ (HI.o.below HB.o) HK4.o).mono ?_;rintro e w2 ⟨rfl,hb2⟩;have HB2:=zaa (zae HB.o hb2);clear hb2 x0 x1 x2 x3 x4
     cases h5:zmx m with
     |true=>
      have HE:Hid (goodM m=0):=by
       rw[Hid,goodM,if_neg HN1.o,if_neg HN2.o,if_neg H4.o,if_neg];exact zu5 H4.o h5
      clear h5;go_wp2;go_ret;exact⟨by rw[HE.o];rfl,HB2.o⟩
     |false=>
      have HE:Hid (goodM m=2):=by
       rw[Hid,goodM,if_neg HN1.o,if_neg HN2.o,if_neg H4.o,if_pos];exact zxr h5
      clear h5;go_wp2;go_ret;exact⟨by rw[HE.o];rfl,HB2.o⟩
end Go.Proofs.YtjnpndfpajjihacGreat

