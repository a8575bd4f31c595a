/- -/
import Derived.Test.YtjnpndfpajjihacGreatGrTopAnywhere10
import Derived.Test.YtjnpndfpajjihacGreatGrTopAnywhere2
namespace Go.Proofs.YtjnpndfpajjihacGreat
open Go.Proofs.Tryz
set_option maxRecDepth 100000
set_option maxHeartbeats 40000000
open Go.RowKit
def zbt {α:Type}(z:α)(l:List α)(k:Nat):List α:=l.take k++List.replicate (l.length - k) z
theorem zfn{α:Type}(z:α)(l:List α):zbt z l 0=List.replicate l.length z:=by simp[zbt]
theorem ziv{α:Type}(z:α)(l:List α):zbt z l l.length=l:=by simp[zbt]
theorem zex{α:Type}(z:α)(l:List α)(k:Nat)(h:k≤l.length):(zbt z l k).length=l.length:=by simp[zbt];omega
theorem zgq{α:Type}(z:α)(l:List α)(k:Nat)(x:α)(h:l[k]?=some x):(zbt z l k).set k x=zbt z l (k+1):=by
 have hk:k<l.length:=(List.getElem?_eq_some_iff.1 h).1;have A:(l.take k).length=k:=by rw[List.length_take];omega
 rw[zbt,List.set_append_right _ _ (by omega),A,Nat.sub_self,show l.length - k=(l.length - (k+1))+1 from by omega,List.replicate_succ,List.set_cons_zero,zbt,List.take_add_one,h];simp
theorem zjs(l:List Int)(k:Nat)(x:Int):(cellsI l).set k (.int .i64 x)=cellsI (l.set k x):=by simp[cellsI,List.map_set]
theorem zvu(n:Nat):cellsI (List.replicate n 0)=List.replicate n (.int .i64 0):=by simp[cellsI]
theorem z4f(n:Nat)(h:n≤1000)(w:World):(Instr.makeSlice 35 (.int .i64 (n:Int)) (.int .i64 (n:Int))).run prog w=.ok (.slice (some ⟨w.heap.size,0,none⟩) n n) (w.alloc (.cells (cellsI (List.replicate n 0)).toArray 3)):=by
 obtain⟨E,F,C,A,B⟩:=info_parts zsc;have:=run_make (P:=prog) w 35 3 E (.int .i64 0) underlying35 F C .i64 .i64 n n (by omega) (by omega) (by rw[B];omega) (by omega);rw[this,A,Int.toNat_natCast,zvu]
 congr 3
 apply Array.ext
 ·simp[madeCells]
 ·intro i h1 D;have A0:i<n:=by simpa using D
  simp[madeCells,Nat.mod_one,Value.cells]
theorem zvv(a:Option Addr)(c:Nat)(l:List (Int×Bool))(w:World)(h:SegT w a l)(hn:l.length≤10):
  Calls prog 186 #[.slice a l.length c] w fun e w'=>∃a2 c2,e=.returned (.slice a2 l.length c2)∧SegI w' a2 (l.map (·.1))∧Below w.heap.size w w':=by
 have O:=zaa h;clear h;have A1:=z4f l.length (by omega);obtain⟨nums,C⟩:∃nums,nums=l.map (·.1):=⟨_,rfl⟩;have B:nums.length=l.length:=by rw[C,List.length_map]
 have N:=zaa C;have I:=zaa B;go_enter func186,ntmps186;go_wp2;clear C B
 go_loopw [11] (fun i wr=>∃k:Nat,k≤l.length∧i=.int .i64 k∧Hid (wr.heap[w.heap.size]?=some (.cells (cellsI (zbt 0 nums k)).toArray 3 (0,0)))∧Below w.heap.size w wr) (fun i _=>l.length - (intOf i).toNat)
 case atStart=>exact⟨0,Nat.zero_le _,rfl,by rw[zfn,I.o];exact heap_alloc_new w _,zab _ _⟩
 case round=>
  obtain⟨k,hk,rfl,A,D⟩:=hrel;have J:w.heap.size<wr.heap.size:=(Array.getElem?_eq_some_iff.1 A.o).1;by_cases hlt:k<l.length
  ·obtain⟨b,A2,rfl,hb,M⟩:=O.o.resolve_left (by intro e;rw[e]at hlt;simp at hlt);obtain⟨x,L⟩:∃x,x=l.getD k (0,false):=⟨_,rfl⟩;obtain⟨E,F⟩:=M k hlt;rw[←L]at E F;have Q:Hid (nums[k]?=some x.1):=by rw[Hid,N.o,List.getElem?_map,L,zcf l k (0,false) hlt];rfl
   have g1:=zac D hb E;have g2:=zac D hb F;clear L M E F;obtain⟨n,f⟩:=x;have A0:(k:Int)<(l.length:Int):=by omega
   obtain⟨y,hy⟩:∃y,wr.cell? ⟨w.heap.size,k,none⟩=some (.int .i64 y):=by
    have B:k<(zbt 0 nums k).length:=by rw[zex _ _ _ (by rw[I.o];omega),I.o];exact hlt
    refine⟨(zbt 0 nums k)[k],?_⟩;rw[cell_of_row wr _ _ _ _ _ A.o];simp[cellsI,B]
   have fz:=frozen_of_row wr _ k _ _ A.o;go_wp2
   go_roundw
   case rel=>
    refine⟨k+1,by omega,by go_num,?_,(D.setCell (by simp) _).alloc (by simp;omega) _⟩;refine(Below.heap_alloc _ _ _ (by simpa using J)).trans ?_;rw[heap_setCell_same _ _ _ _ _ _ A.o,←zgq 0 nums k n Q.o,←zjs];simp
   case measure=>simp[intOf];omega
  ·have e:k=l.length:=by omega
   subst e;have K:=A.o;rw[←I.o,ziv]at K;have R:=zaa K;clear K A;go_wp2;go_ret;refine⟨_,_,rfl,?_,D⟩;rw[←N.o];by_cases h0:nums=[]
   ·exact .inl h0
   ·refine .inr ⟨w.heap.size,0,rfl,J,fun i hi=>?_⟩;rw[cell_of_row wr _ _ _ _ _ R.o,Nat.zero_add];have:=zgp nums i hi
    simpa using this
theorem z2d(a:Option Addr)(c:Nat)(l:List Int)(n:Nat)(w:World)(h:SegI w a l)(hl:l.length=n)(hn:n≤maxLen):
  Calls prog 185 #[.slice a n c] w fun e w'=>e=.returned (.bool (zbk l))∧w=w':=by
 subst hl;exact zp7 a c l w h hn
theorem zvw(q p:Int)(a:Option Addr)(c:Nat)(a':Option Addr)(n' c':Nat)(l:List (Int×Bool))(w:World)(h:SegT w a l)(hn:l.length≤maxLen):
  Calls prog 140 #[.agg #[.int .i64 2,.int .i64 q,.int .i64 p,.slice a l.length c,.slice a' n' c']] w fun e w'=>e=.returned (.bool (zao l.length 1 10&&zbk (l.map (·.1))))∧Below w.heap.size w w':=by
 have J:=zaa h;unfold maxLen at hn;clear h;go_enter func140,ntmps140;go_wp2_with fail;refine(zd2 l.length 1 10 _).mono ?_;rintro e K ⟨rfl,rfl⟩
 cases hw:zao l.length 1 10 with
 |false=>
  have C:=zaa hw;clear hw;go_wp2;go_ret;exact⟨by rw[C.o,Bool.false_and];rfl,zab _ _⟩
 |true=>
  have D:=zdd hw;have E:l.length≤10:=by omega
  have C:=zaa hw;clear D hw;go_wp2_with fail;refine(zvv _ _ l _ (J.o.below (zab _ _)) E).mono ?_;rintro e K ⟨a2,c2,rfl,B,A⟩;have F:=zaa B;have I:=zaa (zae (zab _ _) A);clear B A;go_wp2_with fail;refine(z2d _ _ (l.map (·.1)) l.length _ F.o (List.length_map _) (by unfold maxLen;omega)).mono ?_;rintro e w2 ⟨rfl,rfl⟩;go_wp2;go_ret;exact⟨by rw[C.o,Bool.true_and];rfl,I.o⟩
theorem zvx(q p:Int)(a:Option Addr)(n c:Nat)(a':Option Addr)(c':Nat)(l:List Int)(w:World)(h:SegI w a' l)(hn:l.length≤maxLen):
  Calls prog 140 #[.agg #[.int .i64 3,.int .i64 q,.int .i64 p,.slice a n c,.slice a' l.length c']] w fun e w'=>e=.returned (.bool (zao l.length 1 20&&zbk l))∧Below w.heap.size w w':=by
 have B:=zaa h;have C:=zaa hn;unfold maxLen at hn;clear h;go_enter func140,ntmps140;go_wp2_with fail;refine(zd2 l.length 1 20 _).mono ?_;rintro e w1 ⟨rfl,rfl⟩
 cases hw:zao l.length 1 20 with
 |false=>
  have A:=zaa hw;clear hw;go_wp2;go_ret;exact⟨by rw[A.o,Bool.false_and];rfl,zab _ _⟩
 |true=>
  have A:=zaa hw;clear hw;go_wp2_with fail;refine(zp7 _ _ l _ (B.o.below (zab _ _)) C.o).mono ?_;rintro e w2 ⟨rfl,rfl⟩;go_wp2;go_ret;exact⟨by rw[A.o,Bool.true_and];rfl,zab _ _⟩
theorem zlp(k q p:Int)(a:Option Addr)(n c:Nat)(a':Option Addr)(n' c':Nat)(w:World)(hk:k=1∨k=4):
  Calls prog 140 #[.agg #[.int .i64 k,.int .i64 q,.int .i64 p,.slice a n c,.slice a' n' c']] w fun e w'=>e=.returned (.bool true)∧Below w.heap.size w w':=by
 rcases hk with rfl|rfl
 all_goals
  go_enter func140,ntmps140;go_wp2;go_ret;exact⟨rfl,zab _ _⟩
def znh (m:Mk):Bool:=if m.kind=2 then zao m.tags.length 1 10&&zbk (m.tags.map (·.1)) else if m.kind=3 then zao m.blocks.length 1 20&&zbk m.blocks else true
theorem zvy{m:Mk}(h:¬((m.kind≠1∧m.pos≠0)∨(m.kind≠2∧m.tags≠[])∨(m.kind≠3∧m.blocks≠[])))(hb:znh m=true):
  ¬((m.kind=2∧(m.tags.length<1∨10<m.tags.length))∨(m.kind=3∧(m.blocks.length<1∨20<m.blocks.length))∨zbk (m.tags.map (·.1))=false∨zbk m.blocks=false):=by
 have E:m.kind≠2→m.tags=[]:=fun e=>Classical.byContradiction fun x=>h (.inr (.inl ⟨e,x⟩));have D:m.kind≠3→m.blocks=[]:=fun e=>Classical.byContradiction fun x=>h (.inr (.inr ⟨e,x⟩));unfold znh at hb;rintro(⟨A,C⟩|⟨A,C⟩|B|B)
 ·rw[if_pos A,Bool.and_eq_true]at hb;have:=zdd hb.1;omega
 ·rw[if_neg (by omega),if_pos A,Bool.and_eq_true]at hb;have:=zdd hb.1;omega
 ·by_cases A:m.kind=2
  ·rw[if_pos A,Bool.and_eq_true]at hb;rw[B]at hb;cases hb.2
  ·rw[E A]at B;cases B
 ·by_cases A:m.kind=3
  ·rw[if_neg (by omega),if_pos A,Bool.and_eq_true]at hb;rw[B]at hb;cases hb.2
  ·rw[D A]at B;cases B
theorem zyl{m:Mk}(hb:znh m=false):
  (m.kind=2∧(m.tags.length<1∨10<m.tags.length))∨(m.kind=3∧(m.blocks.length<1∨20<m.blocks.length))∨zbk (m.tags.map (·.1))=false∨zbk m.blocks=false:=by
 unfold znh at hb;by_cases hk:m.kind=2
 ·rw[if_pos hk,Bool.and_eq_false_iff]at hb;rcases hb with hb|hb
  ·have:=zen hb;exact .inl ⟨hk,by omega⟩
  ·exact .inr (.inr (.inl hb))
 ·rw[if_neg hk]at hb;by_cases hk3:m.kind=3
  ·rw[if_pos hk3,Bool.and_eq_false_iff]at hb;rcases hb with hb|hb
   ·have:=zen hb;exact .inr (.inl ⟨hk3,by omega⟩)
   ·exact .inr (.inr (.inr hb))
  ·rw[if_neg hk3]at hb;cases hb
theorem zym(v:Value)(m:Mk)(w:World)(h:IsMk w v m)(hk:m.kind=1∨m.kind=2∨m.kind=3∨m.kind=4):
  Calls prog 140 #[v] w fun e w'=>e=.returned (.bool (znh m))∧Below w.heap.size w w':=by
 obtain⟨a,c,B,C,rfl,F,E,J,I⟩:=h;obtain⟨kind,seq,pos,D,A⟩:=m;dsimp only at hk;rcases hk with rfl|rfl|rfl|rfl
 ·exact zlp 1 seq pos a _ c B _ C w (.inl rfl)
 ·exact zvw seq pos a c B _ C D w F J
 ·exact zvx seq pos a _ c B C A w E I
 ·exact zlp 4 seq pos a _ c B _ C w (.inr rfl)
theorem ziw(v:Value)(m:Mk)(w:World)(h:IsMk w v m):
  Calls prog 105 #[v] w fun e w'=>e=.returned (.int .i64 (goodM m))∧Below w.heap.size w w':=by
 have j:=zaa h;obtain⟨a,c,Z,l,rfl,_,_,R,b⟩:=h;go_enter func105,ntmps105;go_wp2_with fail;refine(zd2 m.kind 1 4 _).mono ?_;rintro e F ⟨rfl,rfl⟩
 cases h1:zao m.kind 1 4 with
 |false=>
  have A:Hid (goodM m=3):=by rw[Hid,goodM,if_pos (by have:=zen h1;omega)]
  clear h1;go_wp2;go_ret;exact⟨by rw[A.o];rfl,zab _ _⟩
 |true=>
  have Y:=zdd h1;clear h1;have C:¬(m.kind<1∨4<m.kind):=by omega
  go_wp2_with fail;refine(zd2 m.seq 1 2147483647 _).mono ?_;rintro e F ⟨rfl,rfl⟩
  cases h2:zao m.seq 1 2147483647 with
  |false=>
   have A:Hid (goodM m=2):=by rw[Hid,goodM,if_neg C,if_pos (by have:=zen h2;omega)]
   clear h2 C;go_wp2;go_ret;exact⟨by rw[A.o];rfl,zab _ _⟩
  |true=>
   have X:=zdd h2;clear h2;go_wp2_with fail;refine(zd2 m.pos 0 23 _).mono ?_;rintro e F ⟨rfl,rfl⟩
   cases h3:zao m.pos 0 23 with
   |false=>
    have A:Hid (goodM m=2):=by rw[Hid,goodM,if_neg C,if_pos (by have:=zen h3;omega)]
    clear h3 C;go_wp2;go_ret;exact⟨by rw[A.o];rfl,zab _ _⟩
   |true=>
    have U:=zdd h3;clear h3;have O:¬(m.seq<1∨2147483647<m.seq∨m.pos<0∨23<m.pos):=by omega
    have L:m.kind=1∨m.kind=2∨m.kind=3∨m.kind=4:=by omega
    have K:=zaa L;have E:=zaa C;have D:=zaa O;clear L C O Y X U;go_wp2_with fail;refine(zsl m.kind m.pos a m.tags.length c Z m.blocks.length l _ K.o m.seq R b).mono ?_;rintro e F ⟨rfl,B⟩;have A0:w.heap.size<F.heap.size:=by have:=B.size;simp at this;omega
    obtain⟨⟨k,d,Q,S,i⟩,_⟩:=zhn (z4b B);have N:=zaa (zae (zab _ _) B);clear B
    cases h4:zhr m.kind m.pos m.tags.length m.blocks.length with
    |true=>
     have A:Hid (goodM m=1):=by
      rw[Hid,goodM,if_neg E.o,if_neg D.o,if_pos];simp only[zhr,decide_eq_true_eq]at h4;rcases h4 with h|h|h
      ·exact .inl ⟨h.2,h.1⟩
      ·exact .inr (.inl ⟨h.2,fun e=>by rw[e]at h;simp at h⟩)
      ·exact .inr (.inr ⟨h.2,fun e=>by rw[e]at h;simp at h⟩)
     clear h4;go_wp2;go_ret;exact⟨by rw[A.o];rfl,N.o⟩
    |false=>
     have M:Hid (¬((m.kind≠1∧m.pos≠0)∨(m.kind≠2∧m.tags≠[])∨(m.kind≠3∧m.blocks≠[]))):=by
      intro h
      have:zhr m.kind m.pos m.tags.length m.blocks.length=true:=by
       simp only[zhr,decide_eq_true_eq];rcases h with h|h|h
       ·exact .inl ⟨h.2,h.1⟩
       ·exact .inr (.inl ⟨List.length_pos_iff.2 h.2,h.1⟩)
       ·exact .inr (.inr ⟨List.length_pos_iff.2 h.2,h.1⟩)
      rw[h4]at this;cases this
     clear h4;go_wp2_with fail;refine(zym _ m _ (j.o.below N.o) K.o).mono ?_;rintro e w2 ⟨rfl,I⟩;have J:=zaa (zae N.o I);clear I k d Q S i
     cases h5:znh m with
     |true=>
      have A:Hid (goodM m=0):=by
       rw[Hid,goodM,if_neg E.o,if_neg D.o,if_neg M.o,if_neg];exact zvy M.o h5
      clear h5;go_wp2;go_ret;exact⟨by rw[A.o];rfl,J.o⟩
     |false=>
      have A:Hid (goodM m=2):=by
       rw[Hid,goodM,if_neg E.o,if_neg D.o,if_neg M.o,if_pos];exact zyl h5
      clear h5;go_wp2;go_ret;exact⟨by rw[A.o];rfl,J.o⟩
