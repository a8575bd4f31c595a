/-
  
-/
import Derived.Test.YtjnpndfpajjihacGreatGrTopOrdered0
import Derived.Laws.OwnMore
set_option maxRecDepth 100000
set_option maxHeartbeats 40000000
namespace Go.Proofs.YtjnpndfpajjihacGreat
open Go.Proofs.Tryz
open Go.RowKit
theorem zdg{n a b:Int}(h:zap n a b=true):a≤n∧n≤b:=by simpa[zap] using h
theorem zek{n a b:Int}(h:zap n a b=false):n<a∨b<n:=by
 by_cases h1:a≤n
 ·by_cases h2:n≤b
  ·simp[zap,h1,h2]at h
  ·omega
 ·omega
theorem zd2(n a b:Int)(w:World):
  Calls prog 138 #[.int .i64 n,.int .i64 a,.int .i64 b] w fun e w'=>e=.returned (.bool (zap n a b))∧w=w':=by
 by_cases h1:a≤n
 ·by_cases h2:n≤b
  ·have A:Hid (zap n a b=true):=by simp[Hid,zap,h1,h2]
   go_enter func138,ntmps138;go_wp2;go_ret;exact⟨by rw[A.o];rfl,rfl⟩
  ·have A:Hid (zap n a b=false):=by simp[Hid,zap,h1,h2]
   go_enter func138,ntmps138;go_wp2;go_ret;exact⟨by rw[A.o];rfl,rfl⟩
 ·have A:Hid (zap n a b=false):=by simp[Hid,zap,h1]
  go_enter func138,ntmps138;go_wp2;go_ret;exact⟨by rw[A.o];rfl,rfl⟩
theorem zvu(q:Int)(l:List Int)(h:za1 q l=true)(hq: -1≤q∧q≤11): -1≤zdz q l∧zdz q l≤11:=by
 induction l generalizing q with
 |nil=>exact hq
 |cons x r ih=>
  by_cases e:x≤q∨11<x
  ·simp[za1,e]at h
  ·simp only[za1,if_neg e]at h;exact ih x h (by omega)
theorem zp5(a:Option Addr)(c:Nat)(l:List Int)(w:World)(h:SegI w a l)(hn:l.length≤maxLen):
  Calls prog 185 #[.slice a l.length c] w fun e w'=>e=.returned (.bool (zbk l))∧w=w':=by
 unfold maxLen at hn;have R:=zab h;clear h;go_enter func185,ntmps185;go_wp2
 go_loop [3,8] (fun q i=>∃k:Nat,k≤l.length∧i=.int .i64 k∧q=.int .i64 (zdz (-1) (l.take k)+1)∧Hid (za1 (-1) (l.take k)=true)) (fun _ i=>l.length - (intOf i).toNat)
 case atStart=>exact⟨0,Nat.zero_le _,rfl,rfl,by simp[Hid,za1]⟩
 case round=>
  obtain⟨k,hk,rfl,rfl,C⟩:=hrel;by_cases hlt:k<l.length
  ·obtain⟨b,A1,rfl,hb,J⟩:=R.o.resolve_left (by intro e;rw[e]at hlt;simp at hlt);obtain⟨x,A⟩:∃x,x=l.getD k 0:=⟨_,rfl⟩;have K:=J k hlt;rw[←A]at K;have Q:Hid (l[k]?=some x):=by rw[A];exact zcd _ _ _ hlt
   have I:Hid (l.take (k+1)=l.take k++[x]):=by rw[Hid,List.take_add_one,Q.o];rfl
   clear A J;obtain⟨q,F⟩:∃q,q=zdz (-1) (l.take k):=⟨_,rfl⟩;have M:=zvu _ _ C.o (by omega);rw[←F]at M⊢;have L:=zab F;clear F;have A0:(k:Int)<(l.length:Int):=by omega
   go_wp2_with fail;refine(zd2 x (q+1) 11 _).mono ?_;rintro e w1 ⟨rfl,rfl⟩
   cases hw:zap x (q+1) 11 with
   |false=>
    have A:=zek hw;have D:x≤q∨11<x:=by omega
    have B:Hid (zbk l=false):=zup (-1) l (k+1) (by rw[I.o,zhk,←L.o];simp[D]);clear D;clear hw A;go_wp2;go_ret;exact⟨by rw[B.o];rfl,rfl⟩
   |true=>
    have A:=zdg hw
    have B:Hid (za1 (-1) (l.take (k+1))=true):=by
     have O:¬x≤q:=by omega
     have N:¬11<x:=by omega
     rw[Hid,I.o,zhk,C.o,←L.o];simp[O,N]
    clear hw;go_wp2
    go_round
    case rel=>exact⟨k+1,by omega,by go_num,by rw[I.o,zgp],B⟩
    case measure=>simp[intOf];omega
  ·have e:k=l.length:=by omega
   have E:zbk l=true:=by have:=C.o;rw[e,List.take_length]at this;exact this
   have B:=zab E;clear C E;go_wp2;go_ret;exact⟨by rw[B.o];rfl,rfl⟩
def zho (k p:Int)(n n':Nat):Bool:=decide ((p≠0∧k≠1)∨(0<n∧k≠2)∨(0<n'∧k≠3))
theorem zso(k p:Int)(a:Option Addr)(n c:Nat)(a':Option Addr)(n' c':Nat)(w:World)(hk:k=1∨k=2∨k=3∨k=4)(q:Int)(hn:n≤maxLen)(hn':n'≤maxLen):
  Calls prog 139 #[.agg #[.int .i64 k,.int .i64 q,.int .i64 p,.slice a n c,.slice a' n' c']] w fun e w'=>e=.returned (.bool (zho k p n n'))∧Below w.heap.size w w':=by
 unfold maxLen at hn hn';have B:p=0∨(¬p=0∧(p !=0)=true):=by by_cases e:p=0<;>simp[e]
 have C:n=0∨0<(n:Int):=by omega
 have A:n'=0∨0<(n':Int):=by omega
 rcases hk with rfl|rfl|rfl|rfl
 all_goals
  rcases B with rfl|⟨hp',B⟩
  all_goals
   rcases C with rfl|C
   all_goals
    rcases A with rfl|A
    all_goals
     go_enter func139,ntmps139;go_wp2;go_ret;refine⟨?_,zaa _ _⟩
     first|rfl|(simp[zho]<;>omega)
def ze7 (l:List Int)(m:Nat):List Value:=cellsI l++List.replicate m (.int .i64 0)
theorem zy4(l:List Int)(m:Nat)(x:Int):(ze7 l (m+1)).set l.length (.int .i64 x)=ze7 (l++[x]) m:=by
 have A:(cellsI l).length=l.length:=by simp[cellsI]
 rw[ze7,List.set_append_right _ _ (by omega),A,Nat.sub_self,List.replicate_succ,List.set_cons_zero,ze7,zf7,List.append_assoc];rfl
theorem znq(l:List Int):ze7 l 0=cellsI l:=by simp[ze7]
theorem zwc(m:Nat):ze7 [] m=List.replicate m (.int .i64 0):=rfl
theorem z2f(l:List Int)(m k:Nat)(h:k<l.length+m):∃u,(ze7 l m)[k]?=some u:=by
 have:k<(ze7 l m).length:=by simp[ze7,cellsI];omega
 exact⟨_,List.getElem?_eq_getElem this⟩
theorem znr{w:World}{base g n:Nat}{l:List Int}{m:Nat}(h:w.ownsRow base 3 1 (.slice (some ⟨g,0,none⟩) n n) n (ze7 l (m+1)))(x:Int):
  (w.setCell ⟨g,l.length,none⟩ (.int .i64 x)).ownsRow base 3 1 (.slice (some ⟨g,0,none⟩) n n) n (ze7 (l++[x]) m):=by
 have:=(h.stored l.length (.int .i64 x)).1
 rwa [zy4]at this
theorem zns{w:World}{base g n:Nat}{l:List Int}{m:Nat}(h:w.ownsRow base 3 1 (.slice (some ⟨g,0,none⟩) n n) n (ze7 l (m+1))):
  (∃u,w.cell? ⟨g,l.length,none⟩=some u)∧w.frozen? ⟨g,l.length,none⟩=false∧base≤g∧g<w.heap.size∧l.length+(m+1)=n:=by
 have B:l.length+(m+1)=n:=by have:=h.1;simp[ze7,cellsI]at this;omega
 obtain⟨u,C⟩:=z2f l (m+1) l.length (by omega);have A:=h.lt g rfl;exact⟨⟨u,by rw[h.cellAt _ (by omega)];exact C⟩,h.frozenAt _,A.1,A.2,B⟩
theorem z5b(n:Nat)(h:n≤17592186044416)(w:World):(Instr.makeSlice 35 (.int .i64 n) (.int .i64 n)).run Tryz.prog w=.ok (.slice (some ⟨w.heap.size,0,none⟩) n n) (w.alloc (.cells (ze7 [] n).toArray 3)):=by
 obtain⟨F,D,A,C,B⟩:=info_parts zse;have E:=run_make (P:=Tryz.prog) w 35 3 F (.int .i64 0) Tryz.underlying35 D A .i64 .i64 n n (by omega) (by omega) (by rw[B];omega) (by omega)
 have e:madeCells (Value.cells (.int .i64 0)) n=(ze7 [] n).toArray:=by
  apply Array.toList_inj.1;rw[show Value.cells (.int .i64 0)=#[.int .i64 0] from rfl,toList_madeCells_one,zwc]
 rw[E,C,Int.toNat_natCast,Nat.mul_one,e]
theorem znt(n:Nat)(h:n≤17592186044416)(w:World)(base:Nat)(hb:base≤w.heap.size):(w.alloc (.cells (ze7 [] n).toArray 3)).ownsRow base 3 1 (.slice (some ⟨w.heap.size,0,none⟩) n n) n (ze7 [] n):=by
 have:=World.ownsRow_lit (e:=3) (size:=1) w (ze7 [] n).toArray n hb (by unfold maxLen;omega) (by simp[ze7,cellsI])
 simpa using this
