/-
  
-/
import Derived.Test.YtjnpndfpajjihacGreatGrTopWhole8
import Derived.Laws.CopyOwn
set_option maxRecDepth 100000
set_option maxHeartbeats 40000000
namespace Go.Proofs.YtjnpndfpajjihacGreat
open Go.RowKit
def row (s:ByteArray)(n m:Nat):List Value:=List.replicate n (.string s)++List.replicate m (.string ⟨#[]⟩)
def reps (s:ByteArray)(k:Nat):List Value:=List.replicate k (.string s)
theorem zdb (s:ByteArray)(k:Nat):(reps s k).length=k:=by simp[reps]
theorem zyb {s:ByteArray}{k j:Nat}{u:Value}(h:(reps s k)[j]?=some u):j<k∧u=.string s:=by
 rw[reps,List.getElem?_replicate] at h;split at h
 ·exact⟨by assumption,by cases h;rfl⟩
 ·cases h
theorem zm7 (s:ByteArray)(n m:Nat):(row s n m).length=n+m:=by simp[row]
theorem zm8 (s:ByteArray)(n m k:Nat):splice (row s n m) n (reps s k)=row s (n+k) (m - k):=by
 have A:(row s n m).take n=List.replicate n (.string s):=by simp[row]
 have B:(row s n m).drop (n+k)=List.replicate (m - k) (.string ⟨#[]⟩):=by simp[row,List.drop_append]
 rw[splice,A,zdb,B,row,reps,←List.append_assoc,List.replicate_append_replicate]
theorem z1z (s:ByteArray)(n m j:Nat)(h:j<n):(row s n m)[j]?=some (.string s):=by
 rw[row,List.getElem?_append_left (by simpa using h)];simp[h]
theorem zyc (s:ByteArray)(k:Nat):∀u∈reps s k,u.oneCell'=true:=by
 intro u A;rw[List.eq_of_mem_replicate A];rfl
theorem z32 {s:ByteArray}{wr:World}{B n m k:Nat}(HG:Hid (wr.heap[B]?=some (.cells (row s n m).toArray 9 (0,0))))(hk:k≤n):
  ∀j v,(reps s k)[j]?=some v→wr.cell? ((⟨B,0,none⟩:Addr).add j)=some v:=by
 intro j v A;obtain⟨A0,rfl⟩:=zyb A;rw[Addr.add_lit,Nat.zero_add,cell_of_row wr B j _ 9 (0,0) HG.o]
 simpa using z1z s n m j (by omega)
theorem z45:(Tryz.prog.info? 9).map (fun i=>i.size)=some 1:=by kernel_rfl
theorem z10 (w:World):Calls Tryz.prog 88 #[.int .u64 1,.int .u64 37] w fun e w'=>e=.returned (.tuple #[.int .u64 0,.int .u64 37])∧w=w':=by
 refine(Tryz.bits_Mul 1 37 (by decide) (by decide) w).mono ?_;rintro e w' ⟨rfl,rfl⟩;exact⟨rfl,rfl⟩
theorem z47 (s:ByteArray)(w:World):(Instr.makeSlice 43 (.int .i64 37) (.int .i64 37)).run Tryz.prog w=.ok (.slice (some ⟨w.heap.size,0,none⟩) 37 37) (w.alloc (.cells (row s 0 37).toArray 9)):=by kernel_rfl
end Go.Proofs.YtjnpndfpajjihacGreat


namespace Go.Proofs.YtjnpndfpajjihacGreat
open Tryz
open Go.RowKit
def fill (l:List ByteArray)(m:Nat):List Value:=cellsS l++List.replicate m (.string ⟨#[]⟩)
theorem z11 (l:List ByteArray)(m:Nat)(s:ByteArray):(fill l (m+1)).set l.length (.string s)=fill (l++[s]) m:=by
 have A:(cellsS l).length=l.length:=by simp[cellsS]
 rw[fill,List.set_append_right _ _ (by omega),A,Nat.sub_self,List.replicate_succ,List.set_cons_zero,fill,zim,List.append_assoc];rfl
theorem zpx (l:List ByteArray):fill l 0=cellsS l:=by simp[fill]
theorem z33 (l:List ByteArray)(m k:Nat)(h:k<l.length+m):∃u,(fill l m)[k]?=some u:=by
 have:k<(fill l m).length:=by simp[fill,cellsS];omega
 exact⟨_,List.getElem?_eq_getElem this⟩
theorem z3o (w:World):(Instr.makeSlice 43 (.int .i64 37) (.int .i64 37)).run prog w=.ok (.slice (some ⟨w.heap.size,0,none⟩) 37 37) (w.alloc (.cells (fill [] 37).toArray 9)):=by kernel_rfl
theorem zpy (w:World)(base:Nat)(hb:base≤w.heap.size):(w.alloc (.cells (fill [] 37).toArray 9)).ownsRow base 9 1 (.slice (some ⟨w.heap.size,0,none⟩) 37 37) 37 (fill [] 37):=by
 have:=World.ownsRow_lit (e:=9) (size:=1) w (fill [] 37).toArray 37 hb (by decide) (by simp[fill,cellsS])
 simpa using this
theorem zpz {w:World}{base g:Nat}{l:List ByteArray}{m:Nat}(h:w.ownsRow base 9 1 (.slice (some ⟨g,0,none⟩) 37 37) 37 (fill l (m+1)))(s:ByteArray):
  (w.setCell ⟨g,l.length,none⟩ (.string s)).ownsRow base 9 1 (.slice (some ⟨g,0,none⟩) 37 37) 37 (fill (l++[s]) m):=by
 have:=(h.stored l.length (.string s)).1
 rwa [z11] at this
theorem zp0 {w:World}{base g:Nat}{l:List ByteArray}{m:Nat}(h:w.ownsRow base 9 1 (.slice (some ⟨g,0,none⟩) 37 37) 37 (fill l (m+1))):
  (∃u,w.cell? ⟨g,l.length,none⟩=some u)∧w.frozen? ⟨g,l.length,none⟩=false∧base≤g∧g<w.heap.size∧l.length+(m+1)=37:=by
 have B:l.length+(m+1)=37:=by have:=h.1;simp[fill,cellsS] at this;omega
 obtain⟨u,C⟩:=z33 l (m+1) l.length (by omega);have A:=h.lt g rfl;exact⟨⟨u,by rw[h.cellAt _ (by omega)];exact C⟩,h.frozenAt _,A.1,A.2,B⟩
def ze5 (d:Dk)(k:Nat):List ByteArray:=(List.range k).map fun n:Nat=>zck d (n:Int)
def zcp (d:Dk):Dk:=if za2 d=true then⟨ze5 d 37,[]⟩ else d
def zin (d:Dk):Int:=if za2 d=true then 0 else 2
theorem zdq (d:Dk)(k:Nat):(ze5 d k).length=k:=by simp[ze5]
theorem zsa (d:Dk)(k:Nat):ze5 d (k+1)=ze5 d k++[zck d (k:Int)]:=by simp[ze5,List.range_succ]
theorem z12 (v:Value)(d:Dk)(w:World)(h:IsDk w v d)(hg:za2 d=false):
  Calls prog 108 #[v] w fun e w'=>e=.returned (.tuple #[v,.int .i64 2])∧Below w.heap.size w w':=by
 have I:Hid (IsDk w v d):=h;obtain⟨a,c,E,F,rfl,_,_,_,_⟩:=h;go_enter func108,ntmps108;go_wp2_with fail;refine(zc1 _ d _ (I.o.below (zae (zaa _ _) (zaa _ _)))).mono ?_;rintro e B ⟨rfl,A⟩;obtain⟨D,A1⟩:=zpr A;have A0:w.heap.size+1<B.heap.size:=by have:=A.size;simp at this;omega
 go_wp2;refine bodyPost_ret (v:=.tuple #[.agg #[.slice a d.safe.length c,.slice E d.wr.length F],.int .i64 2]) (by simp[results,results108,go_sem,D]) rfl ⟨rfl,?_⟩;have C:Below w.heap.size w B:=zae (zae (zaa _ _) (zaa _ _)) A;exact(C.setCell (by simp) _).setCell (by simp) _
theorem z13 (v:Value)(d:Dk)(w:World)(h:IsDk w v d)(hg:za2 d=true):
  Calls prog 108 #[v] w fun e w'=>∃v2,e=.returned (.tuple #[v2,.int .i64 0])∧IsDk w' v2 ⟨ze5 d 37,[]⟩∧Below w.heap.size w w'∧DkFrom w.heap.size v2:=by
 have l:Hid (IsDk w v d):=h;obtain⟨a,c,x,c',rfl,_,_,_,_⟩:=h;have N:=zab (zeh hg);have M:=z3o;go_enter func108,ntmps108;go_wp2_with fail;refine(zc1 _ d _ (l.o.below (zae (zaa _ _) (zaa _ _)))).mono ?_;rintro e F ⟨rfl,B⟩;have A2:w.heap.size+1<F.heap.size:=by have:=B.size;simp at this;omega
 have j:=zac B (b:=w.heap.size) (o:=0) (v:=.slice a d.safe.length c) (by simp;omega) (by simp[go_sem]);have q:=zac B (b:=w.heap.size) (o:=1) (v:=.slice x d.wr.length c') (by simp;omega) (by simp[go_sem]);have S:=zac B (b:=w.heap.size+1) (o:=0) (v:=.slice none 0 0) (by simp) (by simp[go_sem]);have Y:=zac B (b:=w.heap.size+1) (o:=1) (v:=.slice none 0 0) (by simp) (by simp[go_sem]);have p:=za7 B (b:=w.heap.size+1) (o:=0) (v:=false) (by simp) (by simp[go_sem]);have f1:=za7 B (b:=w.heap.size+1) (o:=1) (v:=false) (by simp) (by simp[go_sem]);have R:Below w.heap.size w F:=zae (zae (zaa _ _) (zaa _ _)) B;clear B;go_wp2
 go_loopw [13] (fun i wr=>∃k:Nat,k≤37∧i=.int .i64 k∧Hid (wr.ownsRow F.heap.size 9 1 (.slice (some ⟨F.heap.size,0,none⟩) 37 37) 37 (fill (ze5 d k) (37 - k)))∧Below F.heap.size F wr) (fun i _=>37 - (intOf i).toNat)
 case atStart=>exact⟨0,Nat.zero_le _,rfl,zpy _ _ (Nat.le_refl _),zaa _ _⟩
 case round=>
  obtain⟨k,hk,rfl,E,A⟩:=hrel;have A5:=A.size;by_cases hlt:k<37
  ·have A0:(k:Int)<37:=by omega
   have y:=zac A (by omega) j;have z:=zac A (by omega) q;clear M;go_wp2_with fail;refine(zuk _ d k _ (l.o.below (zae R A)) N.o.1 hlt N.o.2).mono ?_;rintro e w3 ⟨rfl,O⟩;have C:=zah E.o O;rw[show 37 - k=(36 - k)+1 from by omega] at C;have U:=zp0 C;have K:=zpz C (zck d k);rw[zdq] at U K;obtain⟨⟨u,hu⟩,A3,A4,A7,_⟩:=U;have n:=zab K;clear C K E y z;go_wp2
   go_roundw
   case rel=>
    refine⟨k+1,by omega,by go_num,?_,?_⟩
    ·rw[zsa,show 37 - (k+1)=36 - k from by omega];exact n
    ·exact(zae A O).setCell (by simp) _
   case measure=>simp[intOf];omega
  ·have e:k=37:=by omega
   have D:=E.o;rw[e,show 37 - 37=0 from rfl,zpx] at D;obtain⟨a2,c2,J,Q,L⟩:=SegS.of_owns D;have I:=zab L;have s:=zab Q;have m:=zac A (by omega) S;have Z:=zac A (by omega) Y;have A1:=za7 A (by omega) p;have A6:=za7 A (by omega) f1;rw[zdq] at J;simp only[Value.slice.injEq] at J;obtain⟨r,_,X⟩:=J;subst r X;clear E D Q L S Y p f1 j q M e;go_wp2;refine bodyPost_ret (v:=.tuple #[.agg #[.slice (some ⟨F.heap.size,0,none⟩) 37 37,.slice none 0 0],.int .i64 0]) (by simp[results,results108,go_sem,m,Z]) rfl ⟨_,rfl,⟨some ⟨F.heap.size,0,none⟩,37,none,0,?_,?_,.inl rfl,?_,?_⟩,?_,⟨_,_,_,_,_,_,rfl,fun b off e=>by cases e;omega,fun _ _ e=>by cases e⟩⟩
   ·simp only[zdq];rfl
   ·exact(s.o.setCell I.o (by simp;omega) _).setCell I.o (by simp;omega) _
   ·show(ze5 d 37).length≤maxLen;rw[zdq];decide
   ·exact Nat.zero_le _
   ·exact((zae R A).setCell (by simp) _).setCell (by simp) _
theorem zvm (v:Value)(d:Dk)(w:World)(h:IsDk w v d):
  Calls prog 108 #[v] w fun e w'=>∃v2,e=.returned (.tuple #[v2,.int .i64 (zin d)])∧IsDk w' v2 (zcp d)∧(zin d≠0→v2=v)∧Below w.heap.size w w'∧(v2=v∨DkFrom w.heap.size v2):=by
 cases hg:za2 d with
 |false=>
  have B:zin d=2:=by simp[zin,hg]
  have A:zcp d=d:=by simp[zcp,hg]
  rw[B,A];exact(z12 v d w h hg).mono fun e w' he=>⟨v,he.1,h.below he.2,fun _=>rfl,he.2,.inl rfl⟩
 |true=>
  have B:zin d=0:=by simp[zin,hg]
  have A:zcp d=⟨ze5 d 37,[]⟩:=by simp[zcp,hg]
  rw[B,A]
  exact(z13 v d w h hg).mono fun e w' he=>by
   obtain⟨v2,D,C,F,E⟩:=he;exact⟨v2,D,C,fun h=>absurd rfl h,F,.inr E⟩
end Go.Proofs.YtjnpndfpajjihacGreat


namespace Go.Proofs.YtjnpndfpajjihacGreat
open Go.RowKit
theorem zsn (n:Int)(z:ByteArray)(l:List (Int×ByteArray))(hz:zbd z=true)(h:l.all wrB=true):zbd (zec n z l)=true:=by
 induction l generalizing z with
 |nil=>exact hz
 |cons x r ih=>
  simp only[List.all_cons,Bool.and_eq_true] at h;refine ih _ ?_ h.2;by_cases e:x.1=n
  ·rw[if_pos e];have:=h.1;simp only[wrB,Bool.and_eq_true] at this;exact this.2
  ·rw[if_neg e];exact hz
theorem zhj {d:Dk}(h:za2 d=true):d.safe.length=37∧d.wr.length≤200∧d.safe.all zbd=true∧d.wr.all wrB=true:=by
 simp only[za2,Bool.and_eq_true,decide_eq_true_eq] at h;exact⟨h.1.1.1,h.1.1.2,h.1.2,h.2⟩
theorem zp8 {d:Dk}(h:za2 d=true)(k:Nat)(hk:k<37):zbd (d.safe.getD k ByteArray.empty)=true:=by
 obtain⟨h1,_,A,_⟩:=zhj h;rw[List.all_eq_true] at A;exact A _ (List.mem_of_getElem? (zeo d.safe k ByteArray.empty (by omega)))
theorem zyx {d:Dk}(h:za2 d=true)(k:Nat)(hk:k<37):zbd (zck d k)=true:=
 zsn _ _ _ (by rw[Int.toNat_natCast];exact zp8 h k hk) (zhj h).2.2.2
theorem zso (n:Int)(l:List (Int×ByteArray))(s:ByteArray)(h:s∈zcm n l):(n,s)∈l:=by
 induction l with
 |nil=>simp[zcm] at h
 |cons x r ih=>
  by_cases e:x.1=n
  ·simp only[zcm,if_pos e,List.mem_cons] at h;rcases h with rfl|h
   ·rw[←e];simp
   ·exact List.mem_cons_of_mem _ (ih h)
  ·simp only[zcm,if_neg e] at h;exact List.mem_cons_of_mem _ (ih h)
theorem z2d {d:Dk}{n:Nat}{s:ByteArray}(h:s∈ways d n):s=d.safe.getD n ByteArray.empty∨((n:Int),s)∈d.wr:=by
 simp only[ways,List.mem_cons] at h;rcases h with h|h
 ·exact .inl h
 ·exact .inr (zso _ _ _ h)
theorem zyy {d:Dk}(h:za2 d=true){k:Nat}(hk:k<37){s:ByteArray}(hs:s∈ways d k):zbd s=true:=by
 rcases z2d hs with rfl|hm
 ·exact zp8 h k hk
 ·have:=(zhj h).2.2.2;rw[List.all_eq_true] at this;have:=this _ hm;simp only[wrB,Bool.and_eq_true] at this;exact this.2
theorem zsp {l:List ByteArray}{f:ByteArray→Bool}(h:∀k,k<l.length→f (l.getD k ByteArray.empty)=true):l.all f=true:=by
 rw[List.all_eq_true];intro x C;obtain⟨k,A⟩:=List.getElem?_of_mem C;have B:=(List.getElem?_eq_some_iff.1 A).1;have:=h k B
 rwa [List.getD,A] at this
theorem zp9 {l:List ByteArray}(hl:l.length=37)(h:∀k,k<37→zbd (l.getD k ByteArray.empty)=true):za2 ⟨l,[]⟩=true:=by
 simp only[za2,hl,zsp (l:=l) (f:=zbd) (fun k hk=>h k (by omega))];rfl
theorem zur {d:Dk}(k m:Nat)(hk:k<m):(ze5 d m).getD k ByteArray.empty=zck d k:=by
 rw[ze5,List.getD,List.getElem?_map,List.getElem?_range hk];rfl
theorem zhk {d:Dk}(h:za2 d=true):za2 ⟨ze5 d 37,[]⟩=true:=
 zp9 (zdq d 37) fun k hk=>by rw[zur k 37 hk];exact zyx h k hk
theorem zhl {k:Nat}(hk:k<37):zb0 (k:Int)=true:=by simp[zb0];omega
theorem zgv {l:List ByteArray}(h:za2 ⟨l,[]⟩=true){k:Nat}(hk:k<37):zam ⟨l,[]⟩ k=l.getD k ByteArray.empty:=by
 rw[zam,h,zhl hk];show zck ⟨l,[]⟩ k=_;rw[zck,Int.toNat_natCast];rfl
theorem znh {d:Dk}(h:za2 d=true){k:Nat}(hk:k<37):zam ⟨ze5 d 37,[]⟩ k=zam d k:=by
 rw[zgv (zhk h) hk,zur k 37 hk,zam,h,zhl hk];rfl
theorem zon {d:Dk}{n:Int}{s:ByteArray}(h:zh9 d n s=0):za2 d=true∧zb0 n=true∧zbd s=true∧¬d.wr.length=200:=by
 unfold zh9 at h;by_cases h1:(za2 d&&zb0 n)=true
 ·rw[if_pos h1] at h;by_cases h2:zbd s=true
  ·rw[if_pos h2] at h;by_cases h3:d.wr.length=200
   ·rw[if_pos h3] at h;cases h
   ·simp at h1;exact⟨h1.1,h1.2,h2,h3⟩
  ·rw[if_neg h2] at h;cases h
 ·rw[if_neg h1] at h;cases h
theorem zeu {d:Dk}{n:Int}{s:ByteArray}(h:zh9 d n s=0):zhh d n s=⟨d.safe,d.wr++[(n,s)]⟩:=by rw[zhh,if_pos h]
theorem z4a {d:Dk}{n:Int}{s:ByteArray}(h:zh9 d n s≠0):zhh d n s=d:=by rw[zhh,if_neg h]
theorem zd9 {d:Dk}{n:Int}{s:ByteArray}(h:zh9 d n s=0):za2 (zhh d n s)=true:=by
 rw[zeu h];obtain⟨A,E,B,hl⟩:=zon h;simp only[za2,Bool.and_eq_true,decide_eq_true_eq] at A⊢;obtain⟨⟨⟨C,h2⟩,D⟩,F⟩:=A;refine⟨⟨⟨C,?_⟩,D⟩,?_⟩
 ·simp;omega
 ·rw[List.all_append,F];simp[wrB,E,B]
theorem zk0 (d:Dk)(n m:Int)(s:ByteArray):zck ⟨d.safe,d.wr++[(n,s)]⟩ m=if n=m then s else zck d m:=zh8 _ _ _ _
theorem zoo {d:Dk}{n:Int}{s:ByteArray}(h:zh9 d n s=0):zam (zhh d n s) n=s∧readE (zhh d n s) n=0:=by
 have B:=zd9 h;have A:=(zon h).2.1;rw[zam,readE,B,A];refine⟨?_,rfl⟩;rw[zeu h];simp[zk0]
theorem zv3 {d:Dk}{n:Int}{s:ByteArray}(h:zh9 d n s=0)(m:Int):readE (zhh d n s) m=readE d m∧(m≠n→zam (zhh d n s) m=zam d m):=by
 have B:=zd9 h;have A:=(zon h).1;rw[zam,readE,zam,readE,B,A];refine⟨rfl,fun hne=>?_⟩;have e:zck (zhh d n s) m=zck d m:=by rw[zeu h,zk0,if_neg (fun e=>hne e.symm)]
 rw[e]
end Go.Proofs.YtjnpndfpajjihacGreat


namespace Go.Proofs.YtjnpndfpajjihacGreat
open Tryz
open Go.RowKit
theorem zqt (b off c:Nat)(a':Option Addr)(c':Nat)(d:Dk)(n:Nat)(w:World)(hn:d.safe.length=37)(hp:n<37)(hm:d.wr.length≤200)(hb:b<w.heap.size)
  (hc:∀i,i<d.safe.length→w.cell? ⟨b,off+i,none⟩=some (.string (d.safe.getD i ByteArray.empty))) (hw:SegW w a' d.wr):
  Calls prog 112 #[.agg #[.slice (some ⟨b,off,none⟩) 37 c,.slice a' d.wr.length c'],.int .i64 n] w fun e w'=>∃v',e=.returned v'∧w'.ownsRow w.heap.size 9 1 v' (ways d n).length (cellsS (ways d n))∧Below w.heap.size w w':=by
 have HW:=zab hw;obtain⟨z,Q⟩:∃z,z=d.safe.getD n ByteArray.empty:=⟨_,rfl⟩;have q:=hc n (by omega);rw[←Q] at q;have A1:(n:Int)<37:=by omega
 have H0:Hid (zc9 d n 0=[z]):=by rw[Q];rfl
 clear hn hw hc Q;obtain⟨y,r,Y,Z,X⟩:=info_parts z41;go_enter func112,ntmps112;go_wp2
 go_loopw [5,17] (fun v i wr=>∃k:Nat,k≤d.wr.length∧i=.int .i64 k∧Hid (wr.ownsRow w.heap.size 9 1 v (zc9 d n k).length (cellsS (zc9 d n k)))∧Below w.heap.size w wr) (fun _ i _=>d.wr.length - (intOf i).toNat)
 case atStart=>
  refine⟨0,Nat.zero_le _,rfl,?_,zae (zaa _ _) (zaa _ _)⟩;rw[H0.o];have h:=World.ownsRow_lit (e:=9) (size:=1) (w.alloc (Obj.cells #[.slice (some ⟨b,off,none⟩) 37 c,.slice a' d.wr.length c'] 46)) #[.string z] 1 (zaa w _).size (by decide) rfl;unfold Hid
  simpa[cellsS] using h
 case round=>
  obtain⟨k,p,rfl,A,C⟩:=hrel;have L:=C.size;by_cases hlt:k<d.wr.length
  ·obtain⟨b',A0,rfl,M,N⟩:=HW.o.resolve_left (by intro e;rw[e] at hlt;simp at hlt);obtain⟨x,S⟩:∃x,x=d.wr.getD k (0,ByteArray.empty):=⟨_,rfl⟩;obtain⟨F,E⟩:=N k hlt;rw[←S] at F E;have l:Hid (d.wr[k]?=some x):=by rw[S];exact zeo _ _ _ hlt
   clear S N;have g1:=zac C M F;have g2:=zac C M E;clear F E;have hl:=ziy d n k hm;obtain⟨m,s⟩:=x;by_cases he:m=n
   ·have a:(m==(n:Int))=true:=by rw[he];simp
    have J:Hid (zc9 d n (k+1)=zc9 d n k++[s]):=zv2 d n k (m,s) l.o he;clear he;go_wp2_with (at_builtin;refine wpList_append_own _ rfl _ _ 43 rfl w.heap.size 9 y (.string ⟨#[]⟩) 1 16 underlying43 r Y Z X rfl (by decide) _ _ _ rfl ((A.o.alloc _).alloc _) ⟨wr.heap.size+1,0,none⟩ 1 1 (cellsS [s]) rfl ?qc1 ?qc2 ?qc3 ?qc4 ?qc5 ?qc6 ?_)
    case qc1=>rfl
    case qc2=>
     intro j u I
     match j,I with
     |0,I=>simp[cellsS] at I;subst I;simp[go_sem]
    case qc3=>exact zm3
    case qc4=>unfold maxLen;omega
    case qc5=>omega
    case qc6=>omega
    intro v4 w4 B D _;have U:Below w.heap.size w w4:=((C.alloc L _).alloc (by simp;omega) _).grown D (by simp;omega) (fun k p=>(A.o.lt k p).1);rw[←zim,←J.o] at B;have O:(zc9 d n k).length+1=(zc9 d n (k+1)).length:=by rw[J.o];simp
    rw[O] at B;have R:=zab B;clear B D A C;go_wp2
    go_roundw
    case rel=>exact⟨k+1,by omega,by go_num,R,U⟩
    case measure=>simp[intOf];omega
   ·have a:(m==(n:Int))=false:=by simpa using he
    have J:Hid (zc9 d n (k+1)=zc9 d n k):=zsm d n k (m,s) l.o he;have R:=zab (A.o.alloc (Obj.cells #[Value.int IntKind.i64 m,Value.string s] 82));clear he A;go_wp2
    go_roundw
    case rel=>exact⟨k+1,by omega,by go_num,by rw[J.o];exact R,C.alloc L _⟩
    case measure=>simp[intOf];omega
  ·have e:k=d.wr.length:=by omega
   have K:zc9 d n k=ways d n:=by rw[e,zc9,List.take_length];rfl
   rw[K] at A;clear K e;go_wp2;go_ret;exact⟨_,rfl,A.o,C⟩
theorem zsz (v:Value)(d:Dk)(n:Nat)(w:World)(h:IsDk w v d)(hn:d.safe.length=37)(hp:n<37)(hm:d.wr.length≤200):
  Calls prog 112 #[v,.int .i64 n] w fun e w'=>∃v',e=.returned v'∧w'.ownsRow w.heap.size 9 1 v' (ways d n).length (cellsS (ways d n))∧Below w.heap.size w w':=by
 obtain⟨a,c,C,D,rfl,E,F,h1,h2⟩:=h;obtain⟨b,A,rfl,hb,B⟩:=E.resolve_left (by intro e;rw[e] at hn;simp at hn);have:=zqt b A c C D d n w hn hp hm hb B F;rw[←hn] at this;exact this
open Go.RowKit
def zdk (d:Dk)(q:Nat):Nat→List ByteArray×Nat
 |0=>([],q)
 |k+1=>((zdk d q k).1++[(ways d k).getD ((zdk d q k).2%(ways d k).length) ByteArray.empty],(zdk d q k).2/(ways d k).length)
def crashK (d:Dk)(q:Int):Dk:=if(za2 d&&decide (0≤q))=true then⟨(zdk d q.toNat 37).1,[]⟩ else d
def crashE (d:Dk)(q:Int):Int:=if(za2 d&&decide (0≤q))=true then 0 else 2
theorem zc5 (d:Dk)(q k:Nat):(zdk d q k).1.length=k:=by
 induction k with
 |zero=>rfl
 |succ k ih=>simp[zdk,ih]
theorem zzi (d:Dk)(q k:Nat):(zdk d q k).2≤q:=by
 induction k with
 |zero=>exact Nat.le_refl _
 |succ k ih=>exact Nat.le_trans (Nat.div_le_self _ _) ih
theorem zs0 (d:Dk)(n:Nat)(h:d.wr.length≤200):1≤(ways d n).length∧(ways d n).length≤201:=by
 have:=ziy d n d.wr.length h;rw[zc9,List.take_length] at this;exact this
theorem z2n (v:Value)(d:Dk)(q:Int)(w:World)(h:IsDk w v d)(hno:(za2 d&&decide (0≤q))=false):
  Calls prog 75 #[v,.int .i64 q] w fun e w'=>e=.returned (.tuple #[v,.int .i64 2])∧Below w.heap.size w w':=by
 have J:Hid (IsDk w v d):=h;obtain⟨a,c,E,I,rfl,_,_,_,_⟩:=h
 cases hg:za2 d with
 |false=>
  clear hno;go_enter func75,ntmps75;go_wp2_with fail;refine(zc1 _ d _ (J.o.below (zae (zaa _ _) (zaa _ _)))).mono ?_;rintro e B ⟨rfl,A⟩;obtain⟨C,K⟩:=zpr A;have F:w.heap.size+1<B.heap.size:=by have:=A.size;simp at this;omega
  go_wp2;refine bodyPost_ret (v:=.tuple #[.agg #[.slice a d.safe.length c,.slice E d.wr.length I],.int .i64 2]) (by simp[results,results75,go_sem,C]) rfl ⟨rfl,?_⟩;have D:Below w.heap.size w B:=zae (zae (zaa _ _) (zaa _ _)) A;exact(D.setCell (by simp) _).setCell (by simp) _
 |true=>
  have hq:q<0:=by simpa[hg] using hno
  clear hno;go_enter func75,ntmps75;go_wp2_with fail;refine(zc1 _ d _ (J.o.below (zae (zaa _ _) (zaa _ _)))).mono ?_;rintro e B ⟨rfl,A⟩;obtain⟨C,K⟩:=zpr A;have F:w.heap.size+1<B.heap.size:=by have:=A.size;simp at this;omega
  go_wp2;refine bodyPost_ret (v:=.tuple #[.agg #[.slice a d.safe.length c,.slice E d.wr.length I],.int .i64 2]) (by simp[results,results75,go_sem,C]) rfl ⟨rfl,?_⟩;have D:Below w.heap.size w B:=zae (zae (zaa _ _) (zaa _ _)) A;exact(D.setCell (by simp) _).setCell (by simp) _
theorem z2o (v:Value)(d:Dk)(q:Nat)(w:World)(h:IsDk w v d)(hg:za2 d=true)(hq:q≤9223372036854775807):
  Calls prog 75 #[v,.int .i64 q] w fun e w'=>∃v2,e=.returned (.tuple #[v2,.int .i64 0])∧IsDk w' v2 ⟨(zdk d q 37).1,[]⟩∧Below w.heap.size w w'∧DkFrom w.heap.size v2:=by
 have HI:Hid (IsDk w v d):=h;obtain⟨a,c,a',c',rfl,_,_,_,_⟩:=h;have M:=zab (zeh hg);have j:=z3o;go_enter func75,ntmps75;go_wp2_with fail;refine(zc1 _ d _ (HI.o.below (zae (zaa _ _) (zaa _ _)))).mono ?_;rintro e F ⟨rfl,B⟩;have B7:w.heap.size+1<F.heap.size:=by have:=B.size;simp at this;omega
 have x0:=zac B (b:=w.heap.size) (o:=0) (v:=.slice a d.safe.length c) (by simp;omega) (by simp[go_sem]);have x1:=zac B (b:=w.heap.size) (o:=1) (v:=.slice a' d.wr.length c') (by simp;omega) (by simp[go_sem]);have z:=zac B (b:=w.heap.size+1) (o:=0) (v:=.slice none 0 0) (by simp) (by simp[go_sem]);have y1:=zac B (b:=w.heap.size+1) (o:=1) (v:=.slice none 0 0) (by simp) (by simp[go_sem]);have f0:=za7 B (b:=w.heap.size+1) (o:=0) (v:=false) (by simp) (by simp[go_sem]);have f1:=za7 B (b:=w.heap.size+1) (o:=1) (v:=false) (by simp) (by simp[go_sem]);have n:Below w.heap.size w F:=zae (zae (zaa _ _) (zaa _ _)) B;clear B;go_wp2
 go_loopw [1,20] (fun r i wr=>∃k:Nat,k≤37∧i=.int .i64 k∧r=.int .i64 ((zdk d q k).2:Nat)∧Hid (wr.ownsRow F.heap.size 9 1 (.slice (some ⟨F.heap.size,0,none⟩) 37 37) 37 (fill (zdk d q k).1 (37 - k)))∧Below F.heap.size F wr) (fun _ i _=>37 - (intOf i).toNat)
 case atStart=>exact⟨0,Nat.zero_le _,rfl,rfl,zpy _ _ (Nat.le_refl _),zaa _ _⟩
 case round=>
  obtain⟨k,hk,rfl,rfl,E,A⟩:=hrel;have B9:=A.size;by_cases hlt:k<37
  ·have A7:(k:Int)<37:=by omega
   have z0:=zac A (by omega) x0;have z1:=zac A (by omega) x1;have A4:=zzi d q k;obtain⟨r,p⟩:∃r,r=(zdk d q k).2:=⟨_,rfl⟩;rw[←p] at A4⊢;clear j;go_wp2_with fail;refine(zsz _ d k _ (HI.o.below (zae n A)) M.o.1 hlt M.o.2).mono ?_;rintro e w3 ⟨v3,rfl,I,Q⟩;obtain⟨a3,c3,N,l,_⟩:=SegS.of_owns I;have s:=zs0 d k M.o.2;obtain⟨b3,o3,U,A8,Z⟩:=l.resolve_left (by intro e;rw[e] at s;simp at s);obtain⟨t,x⟩:∃t,t=(ways d k).getD (r%(ways d k).length) ByteArray.empty:=⟨_,rfl⟩;have Y:=Z (r%(ways d k).length) (Nat.mod_lt _ (by omega));rw[←x] at Y;have y:Hid (zdk d q (k+1)=((zdk d q k).1++[t],r/(ways d k).length)):=by rw[x,p];rfl
   obtain⟨L,R⟩:∃L,L=(ways d k).length:=⟨_,rfl⟩;rw[←R] at N s Y y;rw[N,U];have C:=zah E.o Q;rw[show 37 - k=(36 - k)+1 from by omega] at C;have S:=zp0 C;have O:=zpz C t;rw[zc5] at S O;obtain⟨⟨u,hu⟩,B1,B3,B6,_⟩:=S;have A6:=zab O;clear C O E z0 z1 I l Z U N R x p;have B4:0≤(r:Int)%(L:Int):=Int.emod_nonneg _ (by omega);have B2:(r:Int)%(L:Int)<(L:Int):=Int.emod_lt_of_pos _ (by omega);have A9:0≤(r:Int)/(L:Int):=Int.ediv_nonneg (by omega) (by omega);have B8:(r:Int)/(L:Int)≤9223372036854775807:=Int.le_trans (Int.ediv_le_self _ (by omega)) (by omega);go_wp2
   go_roundw
   case rel=>
    refine⟨k+1,by omega,by go_num,?_,?_,?_⟩
    ·rw[y.o];rfl
    ·rw[y.o,show 37 - (k+1)=36 - k from by omega];exact A6
    ·exact(zae A Q).setCell (by simp) _
   case measure=>simp[intOf];omega
  ·have e:k=37:=by omega
   have D:=E.o;rw[e,show 37 - 37=0 from rfl,zpx] at D;obtain⟨a2,c2,K,m,X⟩:=SegS.of_owns D;have J:=zab X;have A2:=zab m;have A5:=zac A (by omega) z;have A3:=zac A (by omega) y1;have B0:=za7 A (by omega) f0;have B5:=za7 A (by omega) f1;rw[zc5] at K;simp only[Value.slice.injEq] at K;obtain⟨A1,_,A0⟩:=K;subst A1 A0;clear E D m X z y1 f0 f1 x0 x1 j e;go_wp2;refine bodyPost_ret (v:=.tuple #[.agg #[.slice (some ⟨F.heap.size,0,none⟩) 37 37,.slice none 0 0],.int .i64 0]) (by simp[results,results75,go_sem,A5,A3]) rfl ⟨_,rfl,⟨some ⟨F.heap.size,0,none⟩,37,none,0,?_,?_,.inl rfl,?_,?_⟩,?_,⟨_,_,_,_,_,_,rfl,fun b off e=>by cases e;omega,fun _ _ e=>by cases e⟩⟩
   ·simp only[zc5];rfl
   ·exact(A2.o.setCell J.o (by simp;omega) _).setCell J.o (by simp;omega) _
   ·show(zdk d q 37).1.length≤maxLen;rw[zc5];decide
   ·exact Nat.zero_le _
   ·exact((zae n A).setCell (by simp) _).setCell (by simp) _
theorem zwj (v:Value)(d:Dk)(q:Int)(w:World)(h:IsDk w v d)(hq:q≤9223372036854775807):
  Calls prog 75 #[v,.int .i64 q] w fun e w'=>∃v2,e=.returned (.tuple #[v2,.int .i64 (crashE d q)])∧IsDk w' v2 (crashK d q)∧(crashE d q≠0→v2=v)∧Below w.heap.size w w'∧(v2=v∨DkFrom w.heap.size v2):=by
 cases hg:(za2 d&&decide (0≤q)) with
 |false=>
  have B:crashE d q=2:=by simp only[crashE,hg];rfl
  have A:crashK d q=d:=by simp only[crashK,hg];rfl
  rw[B,A];exact(z2n v d q w h hg).mono fun e w' he=>⟨v,he.1,h.below he.2,fun _=>rfl,he.2,.inl rfl⟩
 |true=>
  have B:crashE d q=0:=by simp only[crashE,hg];rfl
  have A:crashK d q=⟨(zdk d q.toNat 37).1,[]⟩:=by simp only[crashK,hg];rfl
  simp at hg;obtain⟨n,rfl⟩:=Int.eq_ofNat_of_zero_le hg.2;rw[B,A];rw[Int.toNat_natCast]
  exact(z2o v d n w h hg.1 (by omega)).mono fun e w' he=>by
   obtain⟨v2,D,C,E,F⟩:=he;exact⟨v2,D,C,fun h=>absurd rfl h,E,.inr F⟩
end Go.Proofs.YtjnpndfpajjihacGreat


namespace Go.Proofs.YtjnpndfpajjihacGreat
open Go.RowKit
theorem zux {d:Dk}(q k m:Nat)(hk:k<m):(zdk d q m).1.getD k ByteArray.empty∈ways d k:=by
 induction m with
 |zero=>omega
 |succ m ih=>
  rw[zdk];have B:=zc5 d q m;by_cases e:k<m
  ·have:=ih e
   rwa [List.getD,List.getElem?_append_left (by omega)]
  ·have C:k=m:=by omega
   subst C;rw[List.getD,List.getElem?_append_right (by omega),B,Nat.sub_self];have A:(zdk d q k).2%(ways d k).length<(ways d k).length:=Nat.mod_lt _ (by simp[ways]);exact List.mem_of_getElem? (zeo _ _ ByteArray.empty A)
theorem znq {d:Dk}(h:za2 d=true)(q:Nat):za2 ⟨(zdk d q 37).1,[]⟩=true:=
 zp9 (zc5 d q 37) fun k hk=>zyy h hk (zux q k 37 hk)
end Go.Proofs.YtjnpndfpajjihacGreat


namespace Go.Proofs.YtjnpndfpajjihacGreat
open Tryz
open Go.RowKit
theorem z4k (b off c:Nat)(s:ByteArray)(w:World)(hb:b<w.heap.size)(hc:w.cell? ⟨b,off,none⟩=some (.string s)):
  Calls prog 104 #[.slice (some ⟨b,off,none⟩) 1 c,.int .i64 37] w fun e w'=>∃v',e=.returned v'∧w'.ownsRow w.heap.size 9 1 v' 37 (cellsS (List.replicate 37 s))∧Below w.heap.size w w':=by
 have A4:=z47 s;go_enter func104,ntmps104;go_wp2_with fail;refine(z10 _).mono ?_;rintro e w1 ⟨rfl,rfl⟩;go_wp2_with (refine wpList_copy_splice rfl (.tmp 31) (.tmp 32) 43 43 rfl 9 underlying43 z45 _ _ _ _ _ _ rfl rfl w.heap.size 0 (row s 0 37) 9 ?qc1 (reps s 1) ?qc2 ?qc3 ?qc4 (zyc s 1) w.heap.size w ?qc5 (Nat.le_refl _) ?_)
 case qc1=>exact heap_alloc_new w _
 case qc2=>rw[zdb];rfl
 case qc3=>
  intro _ j v J;obtain⟨h0,rfl⟩:=zyb J;rw[show j=0 from by omega,Nat.add_zero];exact hc
 case qc4=>rw[zm7,zdb];decide
 case qc5=>exact zaa _ _
 intro w2 A C;rw[zm8] at A;go_wp2
 go_loopw [8] (fun i wr=>∃n:Nat,1≤n∧n≤37∧i=.int .i64 n∧Hid (wr.heap[w.heap.size]?=some (.cells (row s n (37 - n)).toArray 9 (0,0)))∧Below w.heap.size w wr) (fun i _=>37 - (intOf i).toNat)
 case atStart=>exact⟨1,by omega,by omega,rfl,A,C⟩
 case round=>
  obtain⟨n,h1,A5,rfl,B,F⟩:=hrel;clear A C;by_cases hlt:n<37
  ·have A2:(n:Int)<37:=by omega
   have A0:(n:Int)≤37:=by omega
   have A3:¬37=n:=by omega
   have A1:(reps s (min n (37 - n))).length≤37:=by rw[zdb];omega
   go_wp2
   go_region_law (refine step_copy_splice rfl (.tmp 41) (.tmp 44) 43 43 rfl 9 underlying43 z45 (some ⟨w.heap.size,n,none⟩) (some ⟨w.heap.size,0,none⟩) (37 - n) (37 - n) n 37 (by simp[Act.eval,Act.put]) (by simp[Act.eval,Act.put]) w.heap.size n (row s n (37 - n)) 9 B.o (reps s (min n (37 - n))) (by rw[zdb]) (fun _=>⟨rfl,⟨w.heap.size,0,none⟩,rfl,z32 B (Nat.min_le_left _ _)⟩) (by rw[zm7,zdb];omega) (zyc s _) w.heap.size w F.drew (Nat.le_refl _) ?_;intro w4 D E)
   rw[zm8] at D;go_wp2
   have I:IntKind.i64.wrap ((n:Int)+((reps s (min n (37 - n))).length:Int))=((n+min n (37 - n):Nat):Int):=by
    rw[zdb];rw[IntKind.wrap_i64];omega
   rw[I];refine⟨?_,?_⟩
   ·(repeat apply Exists.intro)
    exact⟨⟨n+min n (37 - n),by omega,by omega,rfl,by rw[show 37 - (n+min n (37 - n))=37 - n - min n (37 - n) from by omega];exact D,E⟩,rfl⟩
   ·simp[Act.put,intOf];omega
  ·have e:n=37:=by omega
   have K:Hid (wr.heap[w.heap.size]?=some (.cells (row s 37 0).toArray 9 (0,0))):=by have:=B.o;rw[e] at this;exact this
   clear e B;go_wp2;go_ret;refine⟨_,rfl,⟨by simp[cellsS],.inr ⟨w.heap.size,37,(row s 37 0).toArray,rfl,Nat.le_refl _,K.o,by omega,by decide,by simp[row],?_⟩⟩,F⟩;simp[row,cellsS]
theorem z4l (w:World):
  Calls prog 69 #[] w fun e w'=>∃g c,e=.returned (.agg #[.slice (some ⟨g,0,none⟩) 37 c,.slice none 0 0])∧w'.ownsRow w.heap.size 9 1 (.slice (some ⟨g,0,none⟩) 37 c) 37 (cellsS (List.replicate 37 (fitT ⟨#[]⟩)))∧Below w.heap.size w w':=by
 go_enter func69,ntmps69;go_wp2_with fail;refine(zf6 ⟨#[]⟩ _ (by decide)).mono ?_;rintro e F ⟨rfl,B⟩;have D:w.heap.size<F.heap.size:=by have:=B.size;simp at this;omega
 generalize hz:fitT ⟨#[]⟩=z;have R:Hid (fitT ⟨#[]⟩=z):=hz;clear hz;go_wp2_with fail;refine(z4k _ _ _ z _ (by simp) (by simp[go_sem])).mono ?_;rintro e Q ⟨U,rfl,C,E⟩;have K:=zab C
 obtain⟨g,c2,I⟩:∃g c2,U=.slice (some ⟨g,0,none⟩) 37 c2:=by
  rcases C.2 with⟨_,h0⟩|⟨g,cap,cur,e,_⟩
  ·cases h0
  ·exact⟨g,cap,e⟩
 subst I;have J:=zac B (b:=w.heap.size) (o:=0) (v:=.slice none 0 0) (by simp) (by simp[go_sem]);have L:=zac B (b:=w.heap.size) (o:=1) (v:=.slice none 0 0) (by simp) (by simp[go_sem]);have N:=za7 B (b:=w.heap.size) (o:=0) (v:=false) (by simp) (by simp[go_sem]);have f1:=za7 B (b:=w.heap.size) (o:=1) (v:=false) (by simp) (by simp[go_sem]);have A:Below F.heap.size F Q:=zae (zaa _ _) E;have O:=zac A D J;have M:=zac A D L;have A1:=za7 A D N;have A0:=za7 A D f1;have S:Hid (Below w.heap.size w Q):=zae (zae (zaa _ _) B) A;clear C J L N f1 E;go_wp2;refine bodyPost_ret (v:=.agg #[.slice (some ⟨g,0,none⟩) 37 c2,.slice none 0 0]) (by simp[results,results69,go_sem,O,M]) rfl ⟨g,c2,rfl,?_,?_⟩
 ·rw[←R.o] at K;exact za9 (ownsRow_setCell_below (ownsRow_setCell_below K.o (a:=⟨w.heap.size,0,none⟩) (by simp;omega) _) (a:=⟨w.heap.size,1,none⟩) (by simp;omega) _) (by simp;omega)
 ·exact(S.o.setCell (by simp) _).setCell (by simp) _
end Go.Proofs.YtjnpndfpajjihacGreat

