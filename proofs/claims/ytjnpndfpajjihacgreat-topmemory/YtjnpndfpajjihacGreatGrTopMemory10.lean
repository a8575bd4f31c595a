/-
  
-/
import Derived.Test.YtjnpndfpajjihacGreatGrTopMemory0
import Derived.Laws.OwnMore
set_option maxRecDepth 100000
set_option maxHeartbeats 40000000
namespace Go.Proofs.YtjnpndfpajjihacGreat
open Go.RowKit
theorem zc9 {n a b:Int}(h:zam n a b=true):a≤n∧n≤b:=by simpa[zam] using h
theorem zec {n a b:Int}(h:zam n a b=false):n<a∨b<n:=by
 by_cases h1:a≤n
 ·by_cases h2:n≤b
  ·simp[zam,h1,h2] at h
  ·omega
 ·omega
theorem zdx (n a b:Int)(w:World):
  Calls Tryz.prog 138 #[.int .i64 n,.int .i64 a,.int .i64 b] w fun e w'=>e=.returned (.bool (zam n a b))∧w=w':=by
 by_cases h1:a≤n
 ·by_cases h2:n≤b
  ·have HE:Hid (zam n a b=true):=by simp[Hid,zam,h1,h2]
   go_enter Tryz.func138,Tryz.ntmps138;go_wp2;go_ret;exact⟨by rw[HE.o];rfl,rfl⟩
  ·have HE:Hid (zam n a b=false):=by simp[Hid,zam,h1,h2]
   go_enter Tryz.func138,Tryz.ntmps138;go_wp2;go_ret;exact⟨by rw[HE.o];rfl,rfl⟩
 ·have HE:Hid (zam n a b=false):=by simp[Hid,zam,h1]
  go_enter Tryz.func138,Tryz.ntmps138;go_wp2;go_ret;exact⟨by rw[HE.o];rfl,rfl⟩
theorem zu0 (q:Int)(l:List Int)(h:zaz q l=true)(hq: -1≤q∧q≤11): -1≤zdu q l∧zdu q l≤11:=by
 induction l generalizing q with
 |nil=>exact hq
 |cons x r ih=>
  by_cases e:x≤q∨11<x
  ·simp[zaz,e] at h
  ·simp only[zaz,if_neg e] at h
   exact ih x h (by omega)
theorem zph (a:Option Addr)(c:Nat)(l:List Int)(w:World)(h:SegI w a l)(hn:l.length≤maxLen):
  Calls Tryz.prog 185 #[.slice a l.length c] w fun e w'=>e=.returned (.bool (zbg l))∧w=w':=by
 unfold maxLen at hn;have HS:=zaa h;clear h;go_enter Tryz.func185,Tryz.ntmps185;go_wp2
 go_loop [3,8] (fun q i=>∃k:Nat,k≤l.length∧i=.int .i64 k∧q=.int .i64 (zdu (-1) (l.take k)+1)∧Hid (zaz (-1) (l.take k)=true)) (fun _ i=>l.length - (intOf i).toNat)
 case atStart=>exact⟨0,Nat.zero_le _,rfl,rfl,by simp[Hid,zaz]⟩
 case round=>
  obtain⟨k,hk,rfl,rfl,hr⟩:=hrel;by_cases hlt:k<l.length
  ·obtain⟨b,off,rfl,hb,hc⟩:=HS.o.resolve_left (by intro e;rw[e] at hlt;simp at hlt)
   obtain⟨x,hx⟩:∃x,x=l.getD k 0:=⟨_,rfl⟩;have hck:=hc k hlt;rw[←hx] at hck;have HX:Hid (l[k]?=some x):=by rw[hx];exact zcb _ _ _ hlt
   have HT:Hid (l.take (k+1)=l.take k++[x]):=by rw[Hid,List.take_add_one,HX.o];rfl
   clear hx hc;obtain⟨q,hq⟩:∃q,q=zdu (-1) (l.take k):=⟨_,rfl⟩;have hqi:=zu0 _ _ hr.o (by omega);rw[←hq] at hqi⊢;have HQ:=zaa hq;clear hq;have hlt':(k:Int)<(l.length:Int):=by omega
   go_wp2_with fail;refine(zdx x (q+1) 11 _).mono ?_;rintro e w1 ⟨rfl,rfl⟩
   cases hw:zam x (q+1) 11 with
   |false=>
    have hx:=zec hw;have hx2:x≤q∨11<x:=by omega
    have HR:Hid (zbg l=false):=zt0 (-1) l (k+1) (by rw[HT.o,zg2,←HQ.o];simp[hx2]);clear hx2;clear hw hx;go_wp2;go_ret;exact⟨by rw[HR.o];rfl,rfl⟩
   |true=>
    have hx:=zc9 hw
    have HR:Hid (zaz (-1) (l.take (k+1))=true):=by
     have h1:¬x≤q:=by omega
     have h2:¬11<x:=by omega
     rw[Hid,HT.o,zg2,hr.o,←HQ.o];simp[h1,h2]
    clear hw;go_wp2
    go_round
    case rel=>exact⟨k+1,by omega,by go_num,by rw[HT.o,zf8],HR⟩
    case measure=>simp[intOf];omega
  ·have e:k=l.length:=by omega
   have hr':zbg l=true:=by have:=hr.o;rw[e,List.take_length] at this;exact this
   have HR:=zaa hr';clear hr hr';go_wp2;go_ret;exact⟨by rw[HR.o];rfl,rfl⟩
def zg8 (k p:Int)(n n':Nat):Bool:=decide ((p≠0∧k≠1)∨(0<n∧k≠2)∨(0<n'∧k≠3))
theorem zr1 (k p:Int)(a:Option Addr)(n c:Nat)(a':Option Addr)(n' c':Nat)(w:World)(hk:k=1∨k=2∨k=3∨k=4)(q:Int)(hn:n≤maxLen)(hn':n'≤maxLen):
  Calls Tryz.prog 139 #[.agg #[.int .i64 k,.int .i64 q,.int .i64 p,.slice a n c,.slice a' n' c']] w fun e w'=>e=.returned (.bool (zg8 k p n n'))∧Below w.heap.size w w':=by
 unfold maxLen at hn hn';have hp:p=0∨(¬p=0∧(p !=0)=true):=by by_cases e:p=0<;>simp[e]
 have h1:n=0∨0<(n:Int):=by omega
 have h2:n'=0∨0<(n':Int):=by omega
 rcases hk with rfl|rfl|rfl|rfl
 all_goals
  rcases hp with rfl|⟨hp',hp⟩
  all_goals
   rcases h1 with rfl|h1
   all_goals
    rcases h2 with rfl|h2
    all_goals
     go_enter Tryz.func139,Tryz.ntmps139;go_wp2;go_ret;refine⟨?_,zab _ _⟩
     first|rfl|(simp[zg8]<;>omega)
def zet (l:List Int)(m:Nat):List Value:=cellsI l++List.replicate m (.int .i64 0)
theorem zya (l:List Int)(m:Nat)(x:Int):(zet l (m+1)).set l.length (.int .i64 x)=zet (l++[x]) m:=by
 have hl:(cellsI l).length=l.length:=by simp[cellsI]
 rw[zet,List.set_append_right _ _ (by omega),hl,Nat.sub_self,List.replicate_succ,List.set_cons_zero,zet,zfm,List.append_assoc];rfl
theorem zm6 (l:List Int):zet l 0=cellsI l:=by simp[zet]
theorem zvi (m:Nat):zet [] m=List.replicate m (.int .i64 0):=rfl
theorem z1c (l:List Int)(m k:Nat)(h:k<l.length+m):∃u,(zet l m)[k]?=some u:=by
 have:k<(zet l m).length:=by simp[zet,cellsI];omega
 exact⟨_,List.getElem?_eq_getElem this⟩
theorem zm7 {w:World}{base g n:Nat}{l:List Int}{m:Nat}(h:w.ownsRow base 3 1 (.slice (some ⟨g,0,none⟩) n n) n (zet l (m+1)))(x:Int):
  (w.setCell ⟨g,l.length,none⟩ (.int .i64 x)).ownsRow base 3 1 (.slice (some ⟨g,0,none⟩) n n) n (zet (l++[x]) m):=by
 have:=(h.stored l.length (.int .i64 x)).1
 rwa [zya] at this
theorem zm8 {w:World}{base g n:Nat}{l:List Int}{m:Nat}(h:w.ownsRow base 3 1 (.slice (some ⟨g,0,none⟩) n n) n (zet l (m+1))):
  (∃u,w.cell? ⟨g,l.length,none⟩=some u)∧w.frozen? ⟨g,l.length,none⟩=false∧base≤g∧g<w.heap.size∧l.length+(m+1)=n:=by
 have hlen:l.length+(m+1)=n:=by have:=h.1;simp[zet,cellsI] at this;omega
 obtain⟨u,hu⟩:=z1c l (m+1) l.length (by omega);have hlt:=h.lt g rfl;exact⟨⟨u,by rw[h.cellAt _ (by omega)];exact hu⟩,h.frozenAt _,hlt.1,hlt.2,hlen⟩
theorem z34 (n:Nat)(h:n≤17592186044416)(w:World):(Instr.makeSlice 35 (.int .i64 n) (.int .i64 n)).run Tryz.prog w=.ok (.slice (some ⟨w.heap.size,0,none⟩) n n) (w.alloc (.cells (zet [] n).toArray 3)):=by
 obtain⟨i0,hi,hz0,hz1,hz2⟩:=info_parts zrs;have hr:=run_make (P:=Tryz.prog) w 35 3 i0 (.int .i64 0) Tryz.underlying35 hi hz0 .i64 .i64 n n (by omega) (by omega) (by rw[hz2];omega) (by omega)
 have e:madeCells (Value.cells (.int .i64 0)) n=(zet [] n).toArray:=by
  apply Array.toList_inj.1;rw[show Value.cells (.int .i64 0)=#[.int .i64 0] from rfl,toList_madeCells_one,zvi]
 rw[hr,hz1,Int.toNat_natCast,Nat.mul_one,e]
theorem zm9 (n:Nat)(h:n≤17592186044416)(w:World)(base:Nat)(hb:base≤w.heap.size):(w.alloc (.cells (zet [] n).toArray 3)).ownsRow base 3 1 (.slice (some ⟨w.heap.size,0,none⟩) n n) n (zet [] n):=by
 have:=World.ownsRow_lit (e:=3) (size:=1) w (zet [] n).toArray n hb (by unfold maxLen;omega) (by simp[zet,cellsI])
 simpa using this
end Go.Proofs.YtjnpndfpajjihacGreat

