/- -/
import Derived.Test.YtjnpndfpajjihacGreatGrTopOrdered9
import Derived.Test.YtjnpndfpajjihacGreatGrTopOrdered2
namespace Go.Proofs.YtjnpndfpajjihacGreat
open Go.Proofs.Tryz
set_option maxRecDepth 100000
set_option maxHeartbeats 40000000
open Go.RowKit
def zbt {α:Type}(z:α)(l:List α)(k:Nat):List α:=l.take k++List.replicate (l.length - k) z
theorem zfp{α:Type}(z:α)(l:List α):zbt z l 0=List.replicate l.length z:=by simp[zbt]
theorem ziw{α:Type}(z:α)(l:List α):zbt z l l.length=l:=by simp[zbt]
theorem zev{α:Type}(z:α)(l:List α)(k:Nat)(h:k≤l.length):(zbt z l k).length=l.length:=by simp[zbt];omega
theorem zgt{α:Type}(z:α)(l:List α)(k:Nat)(x:α)(h:l[k]?=some x):(zbt z l k).set k x=zbt z l (k+1):=by
 have hk:k<l.length:=(List.getElem?_eq_some_iff.1 h).1;have A:(l.take k).length=k:=by rw[List.length_take];omega
 rw[zbt,List.set_append_right _ _ (by omega),A,Nat.sub_self,show l.length - k=(l.length - (k+1))+1 from by omega,List.replicate_succ,List.set_cons_zero,zbt,List.take_add_one,h];simp
theorem zju(l:List Int)(k:Nat)(x:Int):(cellsI l).set k (.int .i64 x)=cellsI (l.set k x):=by simp[cellsI,List.map_set]
theorem zvv(n:Nat):cellsI (List.replicate n 0)=List.replicate n (.int .i64 0):=by simp[cellsI]
theorem z36(n:Nat)(h:n≤1000)(w:World):(Instr.makeSlice 35 (.int .i64 (n:Int)) (.int .i64 (n:Int))).run prog w=.ok (.slice (some ⟨w.heap.size,0,none⟩) n n) (w.alloc (.cells (cellsI (List.replicate n 0)).toArray 3)):=by
 obtain⟨D,F,B,C,A⟩:=info_parts zse;have:=run_make (P:=prog) w 35 3 D (.int .i64 0) underlying35 F B .i64 .i64 n n (by omega) (by omega) (by rw[A];omega) (by omega);rw[this,C,Int.toNat_natCast,zvv]
 congr 3
 apply Array.ext
 ·simp[madeCells]
 ·intro i h1 E;have A0:i<n:=by simpa using E
  simp[madeCells,Nat.mod_one,Value.cells]
theorem zvw(a:Option Addr)(c:Nat)(l:List (Int×Bool))(w:World)(h:SegT w a l)(hn:l.length≤10):
  Calls prog 186 #[.slice a l.length c] w fun e w'=>∃a2 c2,e=.returned (.slice a2 l.length c2)∧SegI w' a2 (l.map (·.1))∧Below w.heap.size w w':=by
 have R:=zab h;clear h;have A2:=z36 l.length (by omega);obtain⟨nums,B⟩:∃nums,nums=l.map (·.1):=⟨_,rfl⟩;have C:nums.length=l.length:=by rw[B,List.length_map]
 have M:=zab B;have I:=zab C;go_enter func186,ntmps186;go_wp2;clear B C
 go_loopw [11] (fun i wr=>∃k:Nat,k≤l.length∧i=.int .i64 k∧Hid (wr.heap[w.heap.size]?=some (.cells (cellsI (zbt 0 nums k)).toArray 3 (0,0)))∧Below w.heap.size w wr) (fun i _=>l.length - (intOf i).toNat)
 case atStart=>exact⟨0,Nat.zero_le _,rfl,by rw[zfp,I.o];exact heap_alloc_new w _,zaa _ _⟩
 case round=>
  obtain⟨k,hk,rfl,A,D⟩:=hrel;have J:w.heap.size<wr.heap.size:=(Array.getElem?_eq_some_iff.1 A.o).1;by_cases hlt:k<l.length
  ·obtain⟨b,A1,rfl,hb,N⟩:=R.o.resolve_left (by intro e;rw[e]at hlt;simp at hlt);obtain⟨x,L⟩:∃x,x=l.getD k (0,false):=⟨_,rfl⟩;obtain⟨E,F⟩:=N k hlt;rw[←L]at E F;have O:Hid (nums[k]?=some x.1):=by rw[Hid,M.o,List.getElem?_map,L,zcd l k (0,false) hlt];rfl
   have g1:=zac D hb E;have g2:=zac D hb F;clear L N E F;obtain⟨n,f⟩:=x;have A0:(k:Int)<(l.length:Int):=by omega
   obtain⟨y,hy⟩:∃y,wr.cell? ⟨w.heap.size,k,none⟩=some (.int .i64 y):=by
    have C:k<(zbt 0 nums k).length:=by rw[zev _ _ _ (by rw[I.o];omega),I.o];exact hlt
    refine⟨(zbt 0 nums k)[k],?_⟩;rw[cell_of_row wr _ _ _ _ _ A.o];simp[cellsI,C]
   have fz:=frozen_of_row wr _ k _ _ A.o;go_wp2
   go_roundw
   case rel=>
    refine⟨k+1,by omega,by go_num,?_,(D.setCell (by simp) _).alloc (by simp;omega) _⟩;refine(Below.heap_alloc _ _ _ (by simpa using J)).trans ?_;rw[heap_setCell_same _ _ _ _ _ _ A.o,←zgt 0 nums k n O.o,←zju];simp
   case measure=>simp[intOf];omega
  ·have e:k=l.length:=by omega
   subst e;have K:=A.o;rw[←I.o,ziw]at K;have Q:=zab K;clear K A;go_wp2;go_ret;refine⟨_,_,rfl,?_,D⟩;rw[←M.o];by_cases h0:nums=[]
   ·exact .inl h0
   ·refine .inr ⟨w.heap.size,0,rfl,J,fun i hi=>?_⟩;rw[cell_of_row wr _ _ _ _ _ Q.o,Nat.zero_add];have:=zgs nums i hi
    simpa using this
theorem z16(a:Option Addr)(c:Nat)(l:List Int)(n:Nat)(w:World)(h:SegI w a l)(hl:l.length=n)(hn:n≤maxLen):
  Calls prog 185 #[.slice a n c] w fun e w'=>e=.returned (.bool (zbk l))∧w=w':=by
 subst hl;exact zp5 a c l w h hn
theorem zvx(q p:Int)(a:Option Addr)(c:Nat)(a':Option Addr)(n' c':Nat)(l:List (Int×Bool))(w:World)(h:SegT w a l)(hn:l.length≤maxLen):
  Calls prog 140 #[.agg #[.int .i64 2,.int .i64 q,.int .i64 p,.slice a l.length c,.slice a' n' c']] w fun e w'=>e=.returned (.bool (zap l.length 1 10&&zbk (l.map (·.1))))∧Below w.heap.size w w':=by
 have K:=zab h;unfold maxLen at hn;clear h;go_enter func140,ntmps140;go_wp2_with fail;refine(zd2 l.length 1 10 _).mono ?_;rintro e I ⟨rfl,rfl⟩
 cases hw:zap l.length 1 10 with
 |false=>
  have C:=zab hw;clear hw;go_wp2;go_ret;exact⟨by rw[C.o,Bool.false_and];rfl,zaa _ _⟩
 |true=>
  have F:=zdg hw;have E:l.length≤10:=by omega
  have C:=zab hw;clear F hw;go_wp2_with fail;refine(zvw _ _ l _ (K.o.below (zaa _ _)) E).mono ?_;rintro e I ⟨a2,c2,rfl,B,A⟩;have D:=zab B;have J:=zab (zae (zaa _ _) A);clear B A;go_wp2_with fail;refine(z16 _ _ (l.map (·.1)) l.length _ D.o (List.length_map _) (by unfold maxLen;omega)).mono ?_;rintro e w2 ⟨rfl,rfl⟩;go_wp2;go_ret;exact⟨by rw[C.o,Bool.true_and];rfl,J.o⟩
theorem zvy(q p:Int)(a:Option Addr)(n c:Nat)(a':Option Addr)(c':Nat)(l:List Int)(w:World)(h:SegI w a' l)(hn:l.length≤maxLen):
  Calls prog 140 #[.agg #[.int .i64 3,.int .i64 q,.int .i64 p,.slice a n c,.slice a' l.length c']] w fun e w'=>e=.returned (.bool (zap l.length 1 20&&zbk l))∧Below w.heap.size w w':=by
 have C:=zab h;have B:=zab hn;unfold maxLen at hn;clear h;go_enter func140,ntmps140;go_wp2_with fail;refine(zd2 l.length 1 20 _).mono ?_;rintro e w1 ⟨rfl,rfl⟩
 cases hw:zap l.length 1 20 with
 |false=>
  have A:=zab hw;clear hw;go_wp2;go_ret;exact⟨by rw[A.o,Bool.false_and];rfl,zaa _ _⟩
 |true=>
  have A:=zab hw;clear hw;go_wp2_with fail;refine(zp5 _ _ l _ (C.o.below (zaa _ _)) B.o).mono ?_;rintro e w2 ⟨rfl,rfl⟩;go_wp2;go_ret;exact⟨by rw[A.o,Bool.true_and];rfl,zaa _ _⟩
theorem zlq(k q p:Int)(a:Option Addr)(n c:Nat)(a':Option Addr)(n' c':Nat)(w:World)(hk:k=1∨k=4):
  Calls prog 140 #[.agg #[.int .i64 k,.int .i64 q,.int .i64 p,.slice a n c,.slice a' n' c']] w fun e w'=>e=.returned (.bool true)∧Below w.heap.size w w':=by
 rcases hk with rfl|rfl
 all_goals
  go_enter func140,ntmps140;go_wp2;go_ret;exact⟨rfl,zaa _ _⟩
def znh (m:Mk):Bool:=if m.kind=2 then zap m.tags.length 1 10&&zbk (m.tags.map (·.1)) else if m.kind=3 then zap m.blocks.length 1 20&&zbk m.blocks else true
theorem zvz{m:Mk}(h:¬((m.kind≠1∧m.pos≠0)∨(m.kind≠2∧m.tags≠[])∨(m.kind≠3∧m.blocks≠[])))(hb:znh m=true):
  ¬((m.kind=2∧(m.tags.length<1∨10<m.tags.length))∨(m.kind=3∧(m.blocks.length<1∨20<m.blocks.length))∨zbk (m.tags.map (·.1))=false∨zbk m.blocks=false):=by
 have D:m.kind≠2→m.tags=[]:=fun e=>Classical.byContradiction fun x=>h (.inr (.inl ⟨e,x⟩));have C:m.kind≠3→m.blocks=[]:=fun e=>Classical.byContradiction fun x=>h (.inr (.inr ⟨e,x⟩));unfold znh at hb;rintro(⟨A,E⟩|⟨A,E⟩|B|B)
 ·rw[if_pos A,Bool.and_eq_true]at hb;have:=zdg hb.1;omega
 ·rw[if_neg (by omega),if_pos A,Bool.and_eq_true]at hb;have:=zdg hb.1;omega
 ·by_cases A:m.kind=2
  ·rw[if_pos A,Bool.and_eq_true]at hb;rw[B]at hb;cases hb.2
  ·rw[D A]at B;cases B
 ·by_cases A:m.kind=3
  ·rw[if_neg (by omega),if_pos A,Bool.and_eq_true]at hb;rw[B]at hb;cases hb.2
  ·rw[C A]at B;cases B
theorem zyl{m:Mk}(hb:znh m=false):
  (m.kind=2∧(m.tags.length<1∨10<m.tags.length))∨(m.kind=3∧(m.blocks.length<1∨20<m.blocks.length))∨zbk (m.tags.map (·.1))=false∨zbk m.blocks=false:=by
 unfold znh at hb;by_cases hk:m.kind=2
 ·rw[if_pos hk,Bool.and_eq_false_iff]at hb;rcases hb with hb|hb
  ·have:=zek hb;exact .inl ⟨hk,by omega⟩
  ·exact .inr (.inr (.inl hb))
 ·rw[if_neg hk]at hb;by_cases hk3:m.kind=3
  ·rw[if_pos hk3,Bool.and_eq_false_iff]at hb;rcases hb with hb|hb
   ·have:=zek hb;exact .inr (.inl ⟨hk3,by omega⟩)
   ·exact .inr (.inr (.inr hb))
  ·rw[if_neg hk3]at hb;cases hb
theorem zym(v:Value)(m:Mk)(w:World)(h:IsMk w v m)(hk:m.kind=1∨m.kind=2∨m.kind=3∨m.kind=4):
  Calls prog 140 #[v] w fun e w'=>e=.returned (.bool (znh m))∧Below w.heap.size w w':=by
 obtain⟨a,c,B,C,rfl,E,I,F,J⟩:=h;obtain⟨kind,seq,pos,D,A⟩:=m;dsimp only at hk;rcases hk with rfl|rfl|rfl|rfl
 ·exact zlq 1 seq pos a _ c B _ C w (.inl rfl)
 ·exact zvx seq pos a c B _ C D w E F
 ·exact zvy seq pos a _ c B C A w I J
 ·exact zlq 4 seq pos a _ c B _ C w (.inr rfl)
theorem zix(v:Value)(m:Mk)(w:World)(h:IsMk w v m):
  Calls prog 105 #[v] w fun e w'=>e=.returned (.int .i64 (goodM m))∧Below w.heap.size w w':=by
 have X:=zab h;obtain⟨a,c,Y,U,rfl,_,_,b,S⟩:=h;go_enter func105,ntmps105;go_wp2_with fail;refine(zd2 m.kind 1 4 _).mono ?_;rintro e F ⟨rfl,rfl⟩
 cases h1:zap m.kind 1 4 with
 |false=>
  have A:Hid (goodM m=3):=by rw[Hid,goodM,if_pos (by have:=zek h1;omega)]
  clear h1;go_wp2;go_ret;exact⟨by rw[A.o];rfl,zaa _ _⟩
 |true=>
  have Q:=zdg h1;clear h1;have C:¬(m.kind<1∨4<m.kind):=by omega
  go_wp2_with fail;refine(zd2 m.seq 1 2147483647 _).mono ?_;rintro e F ⟨rfl,rfl⟩
  cases h2:zap m.seq 1 2147483647 with
  |false=>
   have A:Hid (goodM m=2):=by rw[Hid,goodM,if_neg C,if_pos (by have:=zek h2;omega)]
   clear h2 C;go_wp2;go_ret;exact⟨by rw[A.o];rfl,zaa _ _⟩
  |true=>
   have R:=zdg h2;clear h2;go_wp2_with fail;refine(zd2 m.pos 0 23 _).mono ?_;rintro e F ⟨rfl,rfl⟩
   cases h3:zap m.pos 0 23 with
   |false=>
    have A:Hid (goodM m=2):=by rw[Hid,goodM,if_neg C,if_pos (by have:=zek h3;omega)]
    clear h3 C;go_wp2;go_ret;exact⟨by rw[A.o];rfl,zaa _ _⟩
   |true=>
    have j:=zdg h3;clear h3;have O:¬(m.seq<1∨2147483647<m.seq∨m.pos<0∨23<m.pos):=by omega
    have J:m.kind=1∨m.kind=2∨m.kind=3∨m.kind=4:=by omega
    have L:=zab J;have E:=zab C;have D:=zab O;clear J C O Q R j;go_wp2_with fail;refine(zso m.kind m.pos a m.tags.length c Y m.blocks.length U _ L.o m.seq b S).mono ?_;rintro e F ⟨rfl,B⟩;have A0:w.heap.size<F.heap.size:=by have:=B.size;simp at this;omega
    obtain⟨⟨Z,k,l,d,i⟩,_⟩:=zis (z32 B);have M:=zab (zae (zaa _ _) B);clear B
    cases h4:zho m.kind m.pos m.tags.length m.blocks.length with
    |true=>
     have A:Hid (goodM m=1):=by
      rw[Hid,goodM,if_neg E.o,if_neg D.o,if_pos];simp only[zho,decide_eq_true_eq]at h4;rcases h4 with h|h|h
      ·exact .inl ⟨h.2,h.1⟩
      ·exact .inr (.inl ⟨h.2,fun e=>by rw[e]at h;simp at h⟩)
      ·exact .inr (.inr ⟨h.2,fun e=>by rw[e]at h;simp at h⟩)
     clear h4;go_wp2;go_ret;exact⟨by rw[A.o];rfl,M.o⟩
    |false=>
     have N:Hid (¬((m.kind≠1∧m.pos≠0)∨(m.kind≠2∧m.tags≠[])∨(m.kind≠3∧m.blocks≠[]))):=by
      intro h
      have:zho m.kind m.pos m.tags.length m.blocks.length=true:=by
       simp only[zho,decide_eq_true_eq];rcases h with h|h|h
       ·exact .inl ⟨h.2,h.1⟩
       ·exact .inr (.inl ⟨List.length_pos_iff.2 h.2,h.1⟩)
       ·exact .inr (.inr ⟨List.length_pos_iff.2 h.2,h.1⟩)
      rw[h4]at this;cases this
     clear h4;go_wp2_with fail;refine(zym _ m _ (X.o.below M.o) L.o).mono ?_;rintro e w2 ⟨rfl,I⟩;have K:=zab (zae M.o I);clear I Z k l d i
     cases h5:znh m with
     |true=>
      have A:Hid (goodM m=0):=by
       rw[Hid,goodM,if_neg E.o,if_neg D.o,if_neg N.o,if_neg];exact zvz N.o h5
      clear h5;go_wp2;go_ret;exact⟨by rw[A.o];rfl,K.o⟩
     |false=>
      have A:Hid (goodM m=2):=by
       rw[Hid,goodM,if_neg E.o,if_neg D.o,if_neg N.o,if_pos];exact zyl h5
      clear h5;go_wp2;go_ret;exact⟨by rw[A.o];rfl,K.o⟩
