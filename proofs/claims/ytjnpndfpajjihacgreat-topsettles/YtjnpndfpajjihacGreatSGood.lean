/- -/
import Derived.Test.YtjnpndfpajjihacGreatGrTopSettles9
import Derived.Test.YtjnpndfpajjihacGreatGrTopSettles2
namespace Go.Proofs.YtjnpndfpajjihacGreat
open Go.Proofs.Tryz
set_option maxRecDepth 100000
set_option maxHeartbeats 40000000
open Go.RowKit
def zbv {α:Type}(z:α)(l:List α)(k:Nat):List α:=l.take k++List.replicate (l.length - k) z
theorem zfs{α:Type}(z:α)(l:List α):zbv z l 0=List.replicate l.length z:=by simp[zbv]
theorem ziu{α:Type}(z:α)(l:List α):zbv z l l.length=l:=by simp[zbv]
theorem ze4{α:Type}(z:α)(l:List α)(k:Nat)(h:k≤l.length):(zbv z l k).length=l.length:=by simp[zbv];omega
theorem zgu{α:Type}(z:α)(l:List α)(k:Nat)(x:α)(h:l[k]?=some x):(zbv z l k).set k x=zbv z l (k+1):=by
 have hk:k<l.length:=(List.getElem?_eq_some_iff.1 h).1;have A:(l.take k).length=k:=by rw[List.length_take];omega
 rw[zbv,List.set_append_right _ _ (by omega),A,Nat.sub_self,show l.length - k=(l.length - (k+1))+1 from by omega,List.replicate_succ,List.set_cons_zero,zbv,List.take_add_one,h];simp
theorem zjq(l:List Int)(k:Nat)(x:Int):(cellsI l).set k (.int .i64 x)=cellsI (l.set k x):=by simp[cellsI,List.map_set]
theorem zvs(n:Nat):cellsI (List.replicate n 0)=List.replicate n (.int .i64 0):=by simp[cellsI]
theorem z3z(n:Nat)(h:n≤1000)(w:World):(Instr.makeSlice 35 (.int .i64 (n:Int)) (.int .i64 (n:Int))).run prog w=.ok (.slice (some ⟨w.heap.size,0,none⟩) n n) (w.alloc (.cells (cellsI (List.replicate n 0)).toArray 3)):=by
 obtain⟨D,E,C,A,B⟩:=info_parts zsa;have:=run_make (P:=prog) w 35 3 D (.int .i64 0) underlying35 E C .i64 .i64 n n (by omega) (by omega) (by rw[B];omega) (by omega);rw[this,A,Int.toNat_natCast,zvs]
 congr 3
 apply Array.ext
 ·simp[madeCells]
 ·intro i h1 F;have A0:i<n:=by simpa using F
  simp[madeCells,Nat.mod_one,Value.cells]
theorem zvt(a:Option Addr)(c:Nat)(l:List (Int×Bool))(w:World)(h:SegT w a l)(hn:l.length≤10):
  Calls prog 186 #[.slice a l.length c] w fun e w'=>∃a2 c2,e=.returned (.slice a2 l.length c2)∧SegI w' a2 (l.map (·.1))∧Below w.heap.size w w':=by
 have Q:=zaa h;clear h;have A1:=z3z l.length (by omega);obtain⟨nums,B⟩:∃nums,nums=l.map (·.1):=⟨_,rfl⟩;have C:nums.length=l.length:=by rw[B,List.length_map]
 have M:=zaa B;have I:=zaa C;go_enter func186,ntmps186;go_wp2;clear B C
 go_loopw [11] (fun i wr=>∃k:Nat,k≤l.length∧i=.int .i64 k∧Hid (wr.heap[w.heap.size]?=some (.cells (cellsI (zbv 0 nums k)).toArray 3 (0,0)))∧Below w.heap.size w wr) (fun i _=>l.length - (intOf i).toNat)
 case atStart=>exact⟨0,Nat.zero_le _,rfl,by rw[zfs,I.o];exact heap_alloc_new w _,zab _ _⟩
 case round=>
  obtain⟨k,hk,rfl,A,D⟩:=hrel;have J:w.heap.size<wr.heap.size:=(Array.getElem?_eq_some_iff.1 A.o).1;by_cases hlt:k<l.length
  ·obtain⟨b,off,rfl,hb,N⟩:=Q.o.resolve_left (by intro e;rw[e]at hlt;simp at hlt);obtain⟨x,L⟩:∃x,x=l.getD k (0,false):=⟨_,rfl⟩;obtain⟨F,E⟩:=N k hlt;rw[←L]at F E;have R:Hid (nums[k]?=some x.1):=by rw[Hid,M.o,List.getElem?_map,L,zce l k (0,false) hlt];rfl
   have g1:=zac D hb F;have g2:=zac D hb E;clear L N F E;obtain⟨n,f⟩:=x;have A0:(k:Int)<(l.length:Int):=by omega
   obtain⟨y,hy⟩:∃y,wr.cell? ⟨w.heap.size,k,none⟩=some (.int .i64 y):=by
    have C:k<(zbv 0 nums k).length:=by rw[ze4 _ _ _ (by rw[I.o];omega),I.o];exact hlt
    refine⟨(zbv 0 nums k)[k],?_⟩;rw[cell_of_row wr _ _ _ _ _ A.o];simp[cellsI,C]
   have fz:=frozen_of_row wr _ k _ _ A.o;go_wp2
   go_roundw
   case rel=>
    refine⟨k+1,by omega,by go_num,?_,(D.setCell (by simp) _).alloc (by simp;omega) _⟩;refine(Below.heap_alloc _ _ _ (by simpa using J)).trans ?_;rw[heap_setCell_same _ _ _ _ _ _ A.o,←zgu 0 nums k n R.o,←zjq];simp
   case measure=>simp[intOf];omega
  ·have e:k=l.length:=by omega
   subst e;have K:=A.o;rw[←I.o,ziu]at K;have O:=zaa K;clear K A;go_wp2;go_ret;refine⟨_,_,rfl,?_,D⟩;rw[←M.o];by_cases h0:nums=[]
   ·exact .inl h0
   ·refine .inr ⟨w.heap.size,0,rfl,J,fun i hi=>?_⟩;rw[cell_of_row wr _ _ _ _ _ O.o,Nat.zero_add];have:=zgs nums i hi
    simpa using this
theorem z1x(a:Option Addr)(c:Nat)(l:List Int)(n:Nat)(w:World)(h:SegI w a l)(hl:l.length=n)(hn:n≤maxLen):
  Calls prog 185 #[.slice a n c] w fun e w'=>e=.returned (.bool (zbl l))∧w=w':=by
 subst hl;exact zpx a c l w h hn
theorem zvu(q p:Int)(a:Option Addr)(c:Nat)(a':Option Addr)(n' c':Nat)(l:List (Int×Bool))(w:World)(h:SegT w a l)(hn:l.length≤maxLen):
  Calls prog 140 #[.agg #[.int .i64 2,.int .i64 q,.int .i64 p,.slice a l.length c,.slice a' n' c']] w fun e w'=>e=.returned (.bool (zap l.length 1 10&&zbl (l.map (·.1))))∧Below w.heap.size w w':=by
 have K:=zaa h;unfold maxLen at hn;clear h;go_enter func140,ntmps140;go_wp2_with fail;refine(zd5 l.length 1 10 _).mono ?_;rintro e I ⟨rfl,rfl⟩
 cases hw:zap l.length 1 10 with
 |false=>
  have C:=zaa hw;clear hw;go_wp2;go_ret;exact⟨by rw[C.o,Bool.false_and];rfl,zab _ _⟩
 |true=>
  have E:=zdg hw;have D:l.length≤10:=by omega
  have C:=zaa hw;clear E hw;go_wp2_with fail;refine(zvt _ _ l _ (K.o.below (zab _ _)) D).mono ?_;rintro e I ⟨a2,c2,rfl,A,B⟩;have F:=zaa A;have J:=zaa (zae (zab _ _) B);clear A B;go_wp2_with fail;refine(z1x _ _ (l.map (·.1)) l.length _ F.o (List.length_map _) (by unfold maxLen;omega)).mono ?_;rintro e w2 ⟨rfl,rfl⟩;go_wp2;go_ret;exact⟨by rw[C.o,Bool.true_and];rfl,J.o⟩
theorem zvv(q p:Int)(a:Option Addr)(n c:Nat)(a':Option Addr)(c':Nat)(l:List Int)(w:World)(h:SegI w a' l)(hn:l.length≤maxLen):
  Calls prog 140 #[.agg #[.int .i64 3,.int .i64 q,.int .i64 p,.slice a n c,.slice a' l.length c']] w fun e w'=>e=.returned (.bool (zap l.length 1 20&&zbl l))∧Below w.heap.size w w':=by
 have C:=zaa h;have B:=zaa hn;unfold maxLen at hn;clear h;go_enter func140,ntmps140;go_wp2_with fail;refine(zd5 l.length 1 20 _).mono ?_;rintro e w1 ⟨rfl,rfl⟩
 cases hw:zap l.length 1 20 with
 |false=>
  have A:=zaa hw;clear hw;go_wp2;go_ret;exact⟨by rw[A.o,Bool.false_and];rfl,zab _ _⟩
 |true=>
  have A:=zaa hw;clear hw;go_wp2_with fail;refine(zpx _ _ l _ (C.o.below (zab _ _)) B.o).mono ?_;rintro e w2 ⟨rfl,rfl⟩;go_wp2;go_ret;exact⟨by rw[A.o,Bool.true_and];rfl,zab _ _⟩
theorem zlg(k q p:Int)(a:Option Addr)(n c:Nat)(a':Option Addr)(n' c':Nat)(w:World)(hk:k=1∨k=4):
  Calls prog 140 #[.agg #[.int .i64 k,.int .i64 q,.int .i64 p,.slice a n c,.slice a' n' c']] w fun e w'=>e=.returned (.bool true)∧Below w.heap.size w w':=by
 rcases hk with rfl|rfl
 all_goals
  go_enter func140,ntmps140;go_wp2;go_ret;exact⟨rfl,zab _ _⟩
def zm3 (m:Mk):Bool:=if m.kind=2 then zap m.tags.length 1 10&&zbl (m.tags.map (·.1)) else if m.kind=3 then zap m.blocks.length 1 20&&zbl m.blocks else true
theorem zvw{m:Mk}(h:¬((m.kind≠1∧m.pos≠0)∨(m.kind≠2∧m.tags≠[])∨(m.kind≠3∧m.blocks≠[])))(hb:zm3 m=true):
  ¬((m.kind=2∧(m.tags.length<1∨10<m.tags.length))∨(m.kind=3∧(m.blocks.length<1∨20<m.blocks.length))∨zbl (m.tags.map (·.1))=false∨zbl m.blocks=false):=by
 have C:m.kind≠2→m.tags=[]:=fun e=>Classical.byContradiction fun x=>h (.inr (.inl ⟨e,x⟩));have D:m.kind≠3→m.blocks=[]:=fun e=>Classical.byContradiction fun x=>h (.inr (.inr ⟨e,x⟩));unfold zm3 at hb;rintro(⟨A,E⟩|⟨A,E⟩|B|B)
 ·rw[if_pos A,Bool.and_eq_true]at hb;have:=zdg hb.1;omega
 ·rw[if_neg (by omega),if_pos A,Bool.and_eq_true]at hb;have:=zdg hb.1;omega
 ·by_cases A:m.kind=2
  ·rw[if_pos A,Bool.and_eq_true]at hb;rw[B]at hb;cases hb.2
  ·rw[C A]at B;cases B
 ·by_cases A:m.kind=3
  ·rw[if_neg (by omega),if_pos A,Bool.and_eq_true]at hb;rw[B]at hb;cases hb.2
  ·rw[D A]at B;cases B
theorem zyg{m:Mk}(hb:zm3 m=false):
  (m.kind=2∧(m.tags.length<1∨10<m.tags.length))∨(m.kind=3∧(m.blocks.length<1∨20<m.blocks.length))∨zbl (m.tags.map (·.1))=false∨zbl m.blocks=false:=by
 unfold zm3 at hb;by_cases hk:m.kind=2
 ·rw[if_pos hk,Bool.and_eq_false_iff]at hb;rcases hb with hb|hb
  ·have:=zev hb;exact .inl ⟨hk,by omega⟩
  ·exact .inr (.inr (.inl hb))
 ·rw[if_neg hk]at hb;by_cases hk3:m.kind=3
  ·rw[if_pos hk3,Bool.and_eq_false_iff]at hb;rcases hb with hb|hb
   ·have:=zev hb;exact .inr (.inl ⟨hk3,by omega⟩)
   ·exact .inr (.inr (.inr hb))
  ·rw[if_neg hk3]at hb;cases hb
theorem zyh(v:Value)(m:Mk)(w:World)(h:IsMk w v m)(hk:m.kind=1∨m.kind=2∨m.kind=3∨m.kind=4):
  Calls prog 140 #[v] w fun e w'=>e=.returned (.bool (zm3 m))∧Below w.heap.size w w':=by
 obtain⟨a,c,C,B,rfl,E,F,I,J⟩:=h;obtain⟨kind,seq,pos,D,A⟩:=m;dsimp only at hk;rcases hk with rfl|rfl|rfl|rfl
 ·exact zlg 1 seq pos a _ c C _ B w (.inl rfl)
 ·exact zvu seq pos a c C _ B D w E I
 ·exact zvv seq pos a _ c C B A w F J
 ·exact zlg 4 seq pos a _ c C _ B w (.inr rfl)
theorem ziv(v:Value)(m:Mk)(w:World)(h:IsMk w v m):
  Calls prog 105 #[v] w fun e w'=>e=.returned (.int .i64 (goodM m))∧Below w.heap.size w w':=by
 have R:=zaa h;obtain⟨a,c,k,S,rfl,_,_,Z,l⟩:=h;go_enter func105,ntmps105;go_wp2_with fail;refine(zd5 m.kind 1 4 _).mono ?_;rintro e F ⟨rfl,rfl⟩
 cases h1:zap m.kind 1 4 with
 |false=>
  have A:Hid (goodM m=3):=by rw[Hid,goodM,if_pos (by have:=zev h1;omega)]
  clear h1;go_wp2;go_ret;exact⟨by rw[A.o];rfl,zab _ _⟩
 |true=>
  have d:=zdg h1;clear h1;have C:¬(m.kind<1∨4<m.kind):=by omega
  go_wp2_with fail;refine(zd5 m.seq 1 2147483647 _).mono ?_;rintro e F ⟨rfl,rfl⟩
  cases h2:zap m.seq 1 2147483647 with
  |false=>
   have A:Hid (goodM m=2):=by rw[Hid,goodM,if_neg C,if_pos (by have:=zev h2;omega)]
   clear h2 C;go_wp2;go_ret;exact⟨by rw[A.o];rfl,zab _ _⟩
  |true=>
   have X:=zdg h2;clear h2;go_wp2_with fail;refine(zd5 m.pos 0 23 _).mono ?_;rintro e F ⟨rfl,rfl⟩
   cases h3:zap m.pos 0 23 with
   |false=>
    have A:Hid (goodM m=2):=by rw[Hid,goodM,if_neg C,if_pos (by have:=zev h3;omega)]
    clear h3 C;go_wp2;go_ret;exact⟨by rw[A.o];rfl,zab _ _⟩
   |true=>
    have i:=zdg h3;clear h3;have O:¬(m.seq<1∨2147483647<m.seq∨m.pos<0∨23<m.pos):=by omega
    have J:m.kind=1∨m.kind=2∨m.kind=3∨m.kind=4:=by omega
    have I:=zaa J;have D:=zaa C;have E:=zaa O;clear J C O d X i;go_wp2_with fail;refine(zsj m.kind m.pos a m.tags.length c k m.blocks.length S _ I.o m.seq Z l).mono ?_;rintro e F ⟨rfl,B⟩;have A0:w.heap.size<F.heap.size:=by have:=B.size;simp at this;omega
    obtain⟨⟨b,Y,Q,j,U⟩,_⟩:=zjn (z3v B);have N:=zaa (zae (zab _ _) B);clear B
    cases h4:zhp m.kind m.pos m.tags.length m.blocks.length with
    |true=>
     have A:Hid (goodM m=1):=by
      rw[Hid,goodM,if_neg D.o,if_neg E.o,if_pos];simp only[zhp,decide_eq_true_eq]at h4;rcases h4 with h|h|h
      ·exact .inl ⟨h.2,h.1⟩
      ·exact .inr (.inl ⟨h.2,fun e=>by rw[e]at h;simp at h⟩)
      ·exact .inr (.inr ⟨h.2,fun e=>by rw[e]at h;simp at h⟩)
     clear h4;go_wp2;go_ret;exact⟨by rw[A.o];rfl,N.o⟩
    |false=>
     have M:Hid (¬((m.kind≠1∧m.pos≠0)∨(m.kind≠2∧m.tags≠[])∨(m.kind≠3∧m.blocks≠[]))):=by
      intro h
      have:zhp m.kind m.pos m.tags.length m.blocks.length=true:=by
       simp only[zhp,decide_eq_true_eq];rcases h with h|h|h
       ·exact .inl ⟨h.2,h.1⟩
       ·exact .inr (.inl ⟨List.length_pos_iff.2 h.2,h.1⟩)
       ·exact .inr (.inr ⟨List.length_pos_iff.2 h.2,h.1⟩)
      rw[h4]at this;cases this
     clear h4;go_wp2_with fail;refine(zyh _ m _ (R.o.below N.o) I.o).mono ?_;rintro e w2 ⟨rfl,L⟩;have K:=zaa (zae N.o L);clear L b Y Q j U
     cases h5:zm3 m with
     |true=>
      have A:Hid (goodM m=0):=by
       rw[Hid,goodM,if_neg D.o,if_neg E.o,if_neg M.o,if_neg];exact zvw M.o h5
      clear h5;go_wp2;go_ret;exact⟨by rw[A.o];rfl,K.o⟩
     |false=>
      have A:Hid (goodM m=2):=by
       rw[Hid,goodM,if_neg D.o,if_neg E.o,if_neg M.o,if_pos];exact zyg h5
      clear h5;go_wp2;go_ret;exact⟨by rw[A.o];rfl,K.o⟩
