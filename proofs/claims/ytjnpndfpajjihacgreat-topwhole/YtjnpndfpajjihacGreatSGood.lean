/- -/
import Derived.Test.YtjnpndfpajjihacGreatGrTopWhole10
import Derived.Test.YtjnpndfpajjihacGreatGrTopWhole2
namespace Go.Proofs.YtjnpndfpajjihacGreat
open Tryz
set_option maxRecDepth 100000
set_option maxHeartbeats 40000000
open Go.RowKit
def zbt {α:Type}(z:α)(l:List α)(k:Nat):List α:=l.take k++List.replicate (l.length - k) z
theorem zfm {α:Type}(z:α)(l:List α):zbt z l 0=List.replicate l.length z:=by simp[zbt]
theorem zio {α:Type}(z:α)(l:List α):zbt z l l.length=l:=by simp[zbt]
theorem zet {α:Type}(z:α)(l:List α)(k:Nat)(h:k≤l.length):(zbt z l k).length=l.length:=by simp[zbt];omega
theorem zgm {α:Type}(z:α)(l:List α)(k:Nat)(x:α)(h:l[k]?=some x):(zbt z l k).set k x=zbt z l (k+1):=by
 have hk:k<l.length:=(List.getElem?_eq_some_iff.1 h).1;have A:(l.take k).length=k:=by rw[List.length_take];omega
 rw[zbt,List.set_append_right _ _ (by omega),A,Nat.sub_self,show l.length - k=(l.length - (k+1))+1 from by omega,List.replicate_succ,List.set_cons_zero,zbt,List.take_add_one,h];simp
theorem zjl (l:List Int)(k:Nat)(x:Int):(cellsI l).set k (.int .i64 x)=cellsI (l.set k x):=by simp[cellsI,List.map_set]
theorem zvo (n:Nat):cellsI (List.replicate n 0)=List.replicate n (.int .i64 0):=by simp[cellsI]
theorem z34 (n:Nat)(h:n≤1000)(w:World):(Instr.makeSlice 35 (.int .i64 (n:Int)) (.int .i64 (n:Int))).run prog w=.ok (.slice (some ⟨w.heap.size,0,none⟩) n n) (w.alloc (.cells (cellsI (List.replicate n 0)).toArray 3)):=by
 obtain⟨E,F,B,C,A⟩:=info_parts zr5;have:=run_make (P:=prog) w 35 3 E (.int .i64 0) underlying35 F B .i64 .i64 n n (by omega) (by omega) (by rw[A];omega) (by omega);rw[this,C,Int.toNat_natCast,zvo]
 congr 3
 apply Array.ext
 ·simp[madeCells]
 ·intro i h1 D;have A0:i<n:=by simpa using D
  simp[madeCells,Nat.mod_one,Value.cells]
theorem zvp (a:Option Addr)(c:Nat)(l:List (Int×Bool))(w:World)(h:SegT w a l)(hn:l.length≤10):
  Calls prog 186 #[.slice a l.length c] w fun e w'=>∃a2 c2,e=.returned (.slice a2 l.length c2)∧SegI w' a2 (l.map (·.1))∧Below w.heap.size w w':=by
 have O:=zab h;clear h;have A2:=z34 l.length (by omega);obtain⟨nums,B⟩:∃nums,nums=l.map (·.1):=⟨_,rfl⟩;have C:nums.length=l.length:=by rw[B,List.length_map]
 have M:=zab B;have I:=zab C;go_enter func186,ntmps186;go_wp2;clear B C
 go_loopw [11] (fun i wr=>∃k:Nat,k≤l.length∧i=.int .i64 k∧Hid (wr.heap[w.heap.size]?=some (.cells (cellsI (zbt 0 nums k)).toArray 3 (0,0)))∧Below w.heap.size w wr) (fun i _=>l.length - (intOf i).toNat)
 case atStart=>exact⟨0,Nat.zero_le _,rfl,by rw[zfm,I.o];exact heap_alloc_new w _,zaa _ _⟩
 case round=>
  obtain⟨k,hk,rfl,A,D⟩:=hrel;have J:w.heap.size<wr.heap.size:=(Array.getElem?_eq_some_iff.1 A.o).1;by_cases hlt:k<l.length
  ·obtain⟨b,A1,rfl,hb,N⟩:=O.o.resolve_left (by intro e;rw[e] at hlt;simp at hlt);obtain⟨x,L⟩:∃x,x=l.getD k (0,false):=⟨_,rfl⟩;obtain⟨F,E⟩:=N k hlt;rw[←L] at F E;have Q:Hid (nums[k]?=some x.1):=by rw[Hid,M.o,List.getElem?_map,L,zcg l k (0,false) hlt];rfl
   have g1:=zac D hb F;have g2:=zac D hb E;clear L N F E;obtain⟨n,f⟩:=x;have A0:(k:Int)<(l.length:Int):=by omega
   obtain⟨y,hy⟩:∃y,wr.cell? ⟨w.heap.size,k,none⟩=some (.int .i64 y):=by
    have C:k<(zbt 0 nums k).length:=by rw[zet _ _ _ (by rw[I.o];omega),I.o];exact hlt
    refine⟨(zbt 0 nums k)[k],?_⟩;rw[cell_of_row wr _ _ _ _ _ A.o];simp[cellsI,C]
   have fz:=frozen_of_row wr _ k _ _ A.o;go_wp2
   go_roundw
   case rel=>
    refine⟨k+1,by omega,by go_num,?_,(D.setCell (by simp) _).alloc (by simp;omega) _⟩;refine(Below.heap_alloc _ _ _ (by simpa using J)).trans ?_;rw[heap_setCell_same _ _ _ _ _ _ A.o,←zgm 0 nums k n Q.o,←zjl];simp
   case measure=>simp[intOf];omega
  ·have e:k=l.length:=by omega
   subst e;have K:=A.o;rw[←I.o,zio] at K;have R:=zab K;clear K A;go_wp2;go_ret;refine⟨_,_,rfl,?_,D⟩;rw[←M.o];by_cases h0:nums=[]
   ·exact .inl h0
   ·refine .inr ⟨w.heap.size,0,rfl,J,fun i hi=>?_⟩;rw[cell_of_row wr _ _ _ _ _ R.o,Nat.zero_add];have:=zgl nums i hi
    simpa using this
theorem z15 (a:Option Addr)(c:Nat)(l:List Int)(n:Nat)(w:World)(h:SegI w a l)(hl:l.length=n)(hn:n≤maxLen):
  Calls prog 185 #[.slice a n c] w fun e w'=>e=.returned (.bool (zbk l))∧w=w':=by
 subst hl;exact zp1 a c l w h hn
theorem zvq (q p:Int)(a:Option Addr)(c:Nat)(a':Option Addr)(n' c':Nat)(l:List (Int×Bool))(w:World)(h:SegT w a l)(hn:l.length≤maxLen):
  Calls prog 140 #[.agg #[.int .i64 2,.int .i64 q,.int .i64 p,.slice a l.length c,.slice a' n' c']] w fun e w'=>e=.returned (.bool (zao l.length 1 10&&zbk (l.map (·.1))))∧Below w.heap.size w w':=by
 have J:=zab h;unfold maxLen at hn;clear h;go_enter func140,ntmps140;go_wp2_with fail;refine(zd3 l.length 1 10 _).mono ?_;rintro e I ⟨rfl,rfl⟩
 cases hw:zao l.length 1 10 with
 |false=>
  have C:=zab hw;clear hw;go_wp2;go_ret;exact⟨by rw[C.o,Bool.false_and];rfl,zaa _ _⟩
 |true=>
  have E:=zdc hw;have D:l.length≤10:=by omega
  have C:=zab hw;clear E hw;go_wp2_with fail;refine(zvp _ _ l _ (J.o.below (zaa _ _)) D).mono ?_;rintro e I ⟨a2,c2,rfl,B,A⟩;have F:=zab B;have K:=zab (zae (zaa _ _) A);clear B A;go_wp2_with fail;refine(z15 _ _ (l.map (·.1)) l.length _ F.o (List.length_map _) (by unfold maxLen;omega)).mono ?_;rintro e w2 ⟨rfl,rfl⟩;go_wp2;go_ret;exact⟨by rw[C.o,Bool.true_and];rfl,K.o⟩
theorem zvr (q p:Int)(a:Option Addr)(n c:Nat)(a':Option Addr)(c':Nat)(l:List Int)(w:World)(h:SegI w a' l)(hn:l.length≤maxLen):
  Calls prog 140 #[.agg #[.int .i64 3,.int .i64 q,.int .i64 p,.slice a n c,.slice a' l.length c']] w fun e w'=>e=.returned (.bool (zao l.length 1 20&&zbk l))∧Below w.heap.size w w':=by
 have B:=zab h;have C:=zab hn;unfold maxLen at hn;clear h;go_enter func140,ntmps140;go_wp2_with fail;refine(zd3 l.length 1 20 _).mono ?_;rintro e w1 ⟨rfl,rfl⟩
 cases hw:zao l.length 1 20 with
 |false=>
  have A:=zab hw;clear hw;go_wp2;go_ret;exact⟨by rw[A.o,Bool.false_and];rfl,zaa _ _⟩
 |true=>
  have A:=zab hw;clear hw;go_wp2_with fail;refine(zp1 _ _ l _ (B.o.below (zaa _ _)) C.o).mono ?_;rintro e w2 ⟨rfl,rfl⟩;go_wp2;go_ret;exact⟨by rw[A.o,Bool.true_and];rfl,zaa _ _⟩
theorem zlg (k q p:Int)(a:Option Addr)(n c:Nat)(a':Option Addr)(n' c':Nat)(w:World)(hk:k=1∨k=4):
  Calls prog 140 #[.agg #[.int .i64 k,.int .i64 q,.int .i64 p,.slice a n c,.slice a' n' c']] w fun e w'=>e=.returned (.bool true)∧Below w.heap.size w w':=by
 rcases hk with rfl|rfl
 all_goals
  go_enter func140,ntmps140;go_wp2;go_ret;exact⟨rfl,zaa _ _⟩
def zm9 (m:Mk):Bool:=if m.kind=2 then zao m.tags.length 1 10&&zbk (m.tags.map (·.1)) else if m.kind=3 then zao m.blocks.length 1 20&&zbk m.blocks else true
theorem zvs {m:Mk}(h:¬((m.kind≠1∧m.pos≠0)∨(m.kind≠2∧m.tags≠[])∨(m.kind≠3∧m.blocks≠[])))(hb:zm9 m=true):
  ¬((m.kind=2∧(m.tags.length<1∨10<m.tags.length))∨(m.kind=3∧(m.blocks.length<1∨20<m.blocks.length))∨zbk (m.tags.map (·.1))=false∨zbk m.blocks=false):=by
 have C:m.kind≠2→m.tags=[]:=fun e=>Classical.byContradiction fun x=>h (.inr (.inl ⟨e,x⟩));have E:m.kind≠3→m.blocks=[]:=fun e=>Classical.byContradiction fun x=>h (.inr (.inr ⟨e,x⟩));unfold zm9 at hb;rintro(⟨A,D⟩|⟨A,D⟩|B|B)
 ·rw[if_pos A,Bool.and_eq_true] at hb;have:=zdc hb.1;omega
 ·rw[if_neg (by omega),if_pos A,Bool.and_eq_true] at hb;have:=zdc hb.1;omega
 ·by_cases A:m.kind=2
  ·rw[if_pos A,Bool.and_eq_true] at hb;rw[B] at hb;cases hb.2
  ·rw[C A] at B;cases B
 ·by_cases A:m.kind=3
  ·rw[if_neg (by omega),if_pos A,Bool.and_eq_true] at hb;rw[B] at hb;cases hb.2
  ·rw[E A] at B;cases B
theorem zyg {m:Mk}(hb:zm9 m=false):
  (m.kind=2∧(m.tags.length<1∨10<m.tags.length))∨(m.kind=3∧(m.blocks.length<1∨20<m.blocks.length))∨zbk (m.tags.map (·.1))=false∨zbk m.blocks=false:=by
 unfold zm9 at hb;by_cases hk:m.kind=2
 ·rw[if_pos hk,Bool.and_eq_false_iff] at hb;rcases hb with hb|hb
  ·have:=zek hb;exact .inl ⟨hk,by omega⟩
  ·exact .inr (.inr (.inl hb))
 ·rw[if_neg hk] at hb;by_cases hk3:m.kind=3
  ·rw[if_pos hk3,Bool.and_eq_false_iff] at hb;rcases hb with hb|hb
   ·have:=zek hb;exact .inr (.inl ⟨hk3,by omega⟩)
   ·exact .inr (.inr (.inr hb))
  ·rw[if_neg hk3] at hb;cases hb
theorem zyh (v:Value)(m:Mk)(w:World)(h:IsMk w v m)(hk:m.kind=1∨m.kind=2∨m.kind=3∨m.kind=4):
  Calls prog 140 #[v] w fun e w'=>e=.returned (.bool (zm9 m))∧Below w.heap.size w w':=by
 obtain⟨a,c,B,C,rfl,F,E,I,J⟩:=h;obtain⟨kind,seq,pos,D,A⟩:=m;dsimp only at hk;rcases hk with rfl|rfl|rfl|rfl
 ·exact zlg 1 seq pos a _ c B _ C w (.inl rfl)
 ·exact zvq seq pos a c B _ C D w F I
 ·exact zvr seq pos a _ c B C A w E J
 ·exact zlg 4 seq pos a _ c B _ C w (.inr rfl)
theorem ziq (v:Value)(m:Mk)(w:World)(h:IsMk w v m):
  Calls prog 105 #[v] w fun e w'=>e=.returned (.int .i64 (goodM m))∧Below w.heap.size w w':=by
 have i:=zab h;obtain⟨a,c,Q,Y,rfl,_,_,U,d⟩:=h;go_enter func105,ntmps105;go_wp2_with fail;refine(zd3 m.kind 1 4 _).mono ?_;rintro e F ⟨rfl,rfl⟩
 cases h1:zao m.kind 1 4 with
 |false=>
  have A:Hid (goodM m=3):=by rw[Hid,goodM,if_pos (by have:=zek h1;omega)]
  clear h1;go_wp2;go_ret;exact⟨by rw[A.o];rfl,zaa _ _⟩
 |true=>
  have l:=zdc h1;clear h1;have C:¬(m.kind<1∨4<m.kind):=by omega
  go_wp2_with fail;refine(zd3 m.seq 1 2147483647 _).mono ?_;rintro e F ⟨rfl,rfl⟩
  cases h2:zao m.seq 1 2147483647 with
  |false=>
   have A:Hid (goodM m=2):=by rw[Hid,goodM,if_neg C,if_pos (by have:=zek h2;omega)]
   clear h2 C;go_wp2;go_ret;exact⟨by rw[A.o];rfl,zaa _ _⟩
  |true=>
   have Z:=zdc h2;clear h2;go_wp2_with fail;refine(zd3 m.pos 0 23 _).mono ?_;rintro e F ⟨rfl,rfl⟩
   cases h3:zao m.pos 0 23 with
   |false=>
    have A:Hid (goodM m=2):=by rw[Hid,goodM,if_neg C,if_pos (by have:=zek h3;omega)]
    clear h3 C;go_wp2;go_ret;exact⟨by rw[A.o];rfl,zaa _ _⟩
   |true=>
    have R:=zdc h3;clear h3;have O:¬(m.seq<1∨2147483647<m.seq∨m.pos<0∨23<m.pos):=by omega
    have I:m.kind=1∨m.kind=2∨m.kind=3∨m.kind=4:=by omega
    have K:=zab I;have D:=zab C;have E:=zab O;clear I C O l Z R;go_wp2_with fail;refine(zse m.kind m.pos a m.tags.length c Q m.blocks.length Y _ K.o m.seq U d).mono ?_;rintro e F ⟨rfl,B⟩;have A0:w.heap.size<F.heap.size:=by have:=B.size;simp at this;omega
    obtain⟨⟨b,X,S,j,k⟩,_⟩:=zhy (z30 B);have M:=zab (zae (zaa _ _) B);clear B
    cases h4:zhi m.kind m.pos m.tags.length m.blocks.length with
    |true=>
     have A:Hid (goodM m=1):=by
      rw[Hid,goodM,if_neg D.o,if_neg E.o,if_pos];simp only[zhi,decide_eq_true_eq] at h4;rcases h4 with h|h|h
      ·exact .inl ⟨h.2,h.1⟩
      ·exact .inr (.inl ⟨h.2,fun e=>by rw[e] at h;simp at h⟩)
      ·exact .inr (.inr ⟨h.2,fun e=>by rw[e] at h;simp at h⟩)
     clear h4;go_wp2;go_ret;exact⟨by rw[A.o];rfl,M.o⟩
    |false=>
     have N:Hid (¬((m.kind≠1∧m.pos≠0)∨(m.kind≠2∧m.tags≠[])∨(m.kind≠3∧m.blocks≠[]))):=by
      intro h
      have:zhi m.kind m.pos m.tags.length m.blocks.length=true:=by
       simp only[zhi,decide_eq_true_eq];rcases h with h|h|h
       ·exact .inl ⟨h.2,h.1⟩
       ·exact .inr (.inl ⟨List.length_pos_iff.2 h.2,h.1⟩)
       ·exact .inr (.inr ⟨List.length_pos_iff.2 h.2,h.1⟩)
      rw[h4] at this;cases this
     clear h4;go_wp2_with fail;refine(zyh _ m _ (i.o.below M.o) K.o).mono ?_;rintro e w2 ⟨rfl,L⟩;have J:=zab (zae M.o L);clear L b X S j k
     cases h5:zm9 m with
     |true=>
      have A:Hid (goodM m=0):=by
       rw[Hid,goodM,if_neg D.o,if_neg E.o,if_neg N.o,if_neg];exact zvs N.o h5
      clear h5;go_wp2;go_ret;exact⟨by rw[A.o];rfl,J.o⟩
     |false=>
      have A:Hid (goodM m=2):=by
       rw[Hid,goodM,if_neg D.o,if_neg E.o,if_neg N.o,if_pos];exact zyg h5
      clear h5;go_wp2;go_ret;exact⟨by rw[A.o];rfl,J.o⟩
end Go.Proofs.YtjnpndfpajjihacGreat

