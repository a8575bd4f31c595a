/-
  
-/
import Derived.Test.YtjnpndfpajjihacGreatGrTopAnywhere8
import Derived.Laws.CopyOwn
set_option maxRecDepth 100000
set_option maxHeartbeats 40000000
namespace Go.Proofs.YtjnpndfpajjihacGreat
open Go.RowKit
def row (s:ByteArray)(n m:Nat):List Value:=List.replicate n (.string s)++List.replicate m (.string ⟨#[]⟩)
def reps (s:ByteArray)(k:Nat):List Value:=List.replicate k (.string s)
theorem zdc(s:ByteArray)(k:Nat):(reps s k).length=k:=by simp[reps]
theorem zyg{s:ByteArray}{k j:Nat}{u:Value}(h:(reps s k)[j]?=some u):j<k∧u=.string s:=by
 rw[reps,List.getElem?_replicate]at h;split at h
 ·exact⟨by assumption,by cases h;rfl⟩
 ·cases h
theorem znf(s:ByteArray)(n m:Nat):(row s n m).length=n+m:=by simp[row]
theorem zng(s:ByteArray)(n m k:Nat):splice (row s n m) n (reps s k)=row s (n+k) (m - k):=by
 have B:(row s n m).take n=List.replicate n (.string s):=by simp[row]
 have A:(row s n m).drop (n+k)=List.replicate (m - k) (.string ⟨#[]⟩):=by simp[row,List.drop_append]
 rw[splice,B,zdc,A,row,reps,←List.append_assoc,List.replicate_append_replicate]
theorem z17(s:ByteArray)(n m j:Nat)(h:j<n):(row s n m)[j]?=some (.string s):=by
 rw[row,List.getElem?_append_left (by simpa using h)];simp[h]
theorem zyh(s:ByteArray)(k:Nat):∀u∈reps s k,u.oneCell'=true:=by
 intro u A;rw[List.eq_of_mem_replicate A];rfl
theorem z4d{s:ByteArray}{wr:World}{B n m k:Nat}(HG:Hid (wr.heap[B]?=some (.cells (row s n m).toArray 9 (0,0))))(hk:k≤n):
  ∀j v,(reps s k)[j]?=some v→wr.cell? ((⟨B,0,none⟩:Addr).add j)=some v:=by
 intro j v A;obtain⟨A0,rfl⟩:=zyg A;rw[Addr.add_lit,Nat.zero_add,cell_of_row wr B j _ 9 (0,0) HG.o]
 simpa using z17 s n m j (by omega)
theorem z5h:(Tryz.prog.info? 9).map (fun i=>i.size)=some 1:=by kernel_rfl
theorem z18(w:World):Calls Tryz.prog 88 #[.int .u64 1,.int .u64 37] w fun e w'=>e=.returned (.tuple #[.int .u64 0,.int .u64 37])∧w=w':=by
 refine(Tryz.bits_Mul 1 37 (by decide) (by decide) w).mono ?_;rintro e w' ⟨rfl,rfl⟩;exact⟨rfl,rfl⟩
theorem z5i(s:ByteArray)(w:World):(Instr.makeSlice 43 (.int .i64 37) (.int .i64 37)).run Tryz.prog w=.ok (.slice (some ⟨w.heap.size,0,none⟩) 37 37) (w.alloc (.cells (row s 0 37).toArray 9)):=by kernel_rfl
open Go.Proofs.Tryz
def fill (l:List ByteArray)(m:Nat):List Value:=cellsS l++List.replicate m (.string ⟨#[]⟩)
theorem z19(l:List ByteArray)(m:Nat)(s:ByteArray):(fill l (m+1)).set l.length (.string s)=fill (l++[s]) m:=by
 have A:(cellsS l).length=l.length:=by simp[cellsS]
 rw[fill,List.set_append_right _ _ (by omega),A,Nat.sub_self,List.replicate_succ,List.set_cons_zero,fill,ziu,List.append_assoc];rfl
theorem zp3(l:List ByteArray):fill l 0=cellsS l:=by simp[fill]
theorem z4e(l:List ByteArray)(m k:Nat)(h:k<l.length+m):∃u,(fill l m)[k]?=some u:=by
 have:k<(fill l m).length:=by simp[fill,cellsS];omega
 exact⟨_,List.getElem?_eq_getElem this⟩
theorem z3y(w:World):(Instr.makeSlice 43 (.int .i64 37) (.int .i64 37)).run prog w=.ok (.slice (some ⟨w.heap.size,0,none⟩) 37 37) (w.alloc (.cells (fill [] 37).toArray 9)):=by kernel_rfl
theorem zp4(w:World)(base:Nat)(hb:base≤w.heap.size):(w.alloc (.cells (fill [] 37).toArray 9)).ownsRow base 9 1 (.slice (some ⟨w.heap.size,0,none⟩) 37 37) 37 (fill [] 37):=by
 have:=World.ownsRow_lit (e:=9) (size:=1) w (fill [] 37).toArray 37 hb (by decide) (by simp[fill,cellsS])
 simpa using this
theorem zp5{w:World}{base g:Nat}{l:List ByteArray}{m:Nat}(h:w.ownsRow base 9 1 (.slice (some ⟨g,0,none⟩) 37 37) 37 (fill l (m+1)))(s:ByteArray):
  (w.setCell ⟨g,l.length,none⟩ (.string s)).ownsRow base 9 1 (.slice (some ⟨g,0,none⟩) 37 37) 37 (fill (l++[s]) m):=by
 have:=(h.stored l.length (.string s)).1
 rwa [z19]at this
theorem zp6{w:World}{base g:Nat}{l:List ByteArray}{m:Nat}(h:w.ownsRow base 9 1 (.slice (some ⟨g,0,none⟩) 37 37) 37 (fill l (m+1))):
  (∃u,w.cell? ⟨g,l.length,none⟩=some u)∧w.frozen? ⟨g,l.length,none⟩=false∧base≤g∧g<w.heap.size∧l.length+(m+1)=37:=by
 have B:l.length+(m+1)=37:=by have:=h.1;simp[fill,cellsS]at this;omega
 obtain⟨u,C⟩:=z4e l (m+1) l.length (by omega);have A:=h.lt g rfl;exact⟨⟨u,by rw[h.cellAt _ (by omega)];exact C⟩,h.frozenAt _,A.1,A.2,B⟩
def ze8 (d:Dk)(k:Nat):List ByteArray:=(List.range k).map fun n:Nat=>zcj d (n:Int)
def zcp (d:Dk):Dk:=if za0 d=true then⟨ze8 d 37,[]⟩ else d
def zh7 (d:Dk):Int:=if za0 d=true then 0 else 2
theorem zdq(d:Dk)(k:Nat):(ze8 d k).length=k:=by simp[ze8]
theorem zsh(d:Dk)(k:Nat):ze8 d (k+1)=ze8 d k++[zcj d (k:Int)]:=by simp[ze8,List.range_succ]
theorem z2a(v:Value)(d:Dk)(w:World)(h:IsDk w v d)(hg:za0 d=false):
  Calls prog 108 #[v] w fun e w'=>e=.returned (.tuple #[v,.int .i64 2])∧Below w.heap.size w w':=by
 have F:Hid (IsDk w v d):=h;obtain⟨a,c,I,E,rfl,_,_,_,_⟩:=h;go_enter func108,ntmps108;go_wp2_with fail;refine(zc1 _ d _ (F.o.below (zae (zab _ _) (zab _ _)))).mono ?_;rintro e B ⟨rfl,A⟩;obtain⟨C,A1⟩:=zpx A;have A0:w.heap.size+1<B.heap.size:=by have:=A.size;simp at this;omega
 go_wp2;refine bodyPost_ret (v:=.tuple #[.agg #[.slice a d.safe.length c,.slice I d.wr.length E],.int .i64 2]) (by simp[results,results108,go_sem,C]) rfl ⟨rfl,?_⟩;have D:Below w.heap.size w B:=zae (zae (zab _ _) (zab _ _)) A;exact(D.setCell (by simp) _).setCell (by simp) _
theorem z2b(v:Value)(d:Dk)(w:World)(h:IsDk w v d)(hg:za0 d=true):
  Calls prog 108 #[v] w fun e w'=>∃v2,e=.returned (.tuple #[v2,.int .i64 0])∧IsDk w' v2 ⟨ze8 d 37,[]⟩∧Below w.heap.size w w'∧DkFrom w.heap.size v2:=by
 have q:Hid (IsDk w v d):=h;obtain⟨a,c,a',z,rfl,_,_,_,_⟩:=h;have O:=zaa (zek hg);have Q:=z3y;go_enter func108,ntmps108;go_wp2_with fail;refine(zc1 _ d _ (q.o.below (zae (zab _ _) (zab _ _)))).mono ?_;rintro e F ⟨rfl,B⟩;have A6:w.heap.size+1<F.heap.size:=by have:=B.size;simp at this;omega
 have r:=zac B (b:=w.heap.size) (o:=0) (v:=.slice a d.safe.length c) (by simp;omega) (by simp[go_sem]);have Y:=zac B (b:=w.heap.size) (o:=1) (v:=.slice a' d.wr.length z) (by simp;omega) (by simp[go_sem]);have m:=zac B (b:=w.heap.size+1) (o:=0) (v:=.slice none 0 0) (by simp) (by simp[go_sem]);have l:=zac B (b:=w.heap.size+1) (o:=1) (v:=.slice none 0 0) (by simp) (by simp[go_sem]);have p:=za8 B (b:=w.heap.size+1) (o:=0) (v:=false) (by simp) (by simp[go_sem]);have f1:=za8 B (b:=w.heap.size+1) (o:=1) (v:=false) (by simp) (by simp[go_sem]);have R:Below w.heap.size w F:=zae (zae (zab _ _) (zab _ _)) B;clear B;go_wp2
 go_loopw [13] (fun i wr=>∃k:Nat,k≤37∧i=.int .i64 k∧Hid (wr.ownsRow F.heap.size 9 1 (.slice (some ⟨F.heap.size,0,none⟩) 37 37) 37 (fill (ze8 d k) (37 - k)))∧Below F.heap.size F wr) (fun i _=>37 - (intOf i).toNat)
 case atStart=>exact⟨0,Nat.zero_le _,rfl,zp4 _ _ (Nat.le_refl _),zab _ _⟩
 case round=>
  obtain⟨k,hk,rfl,D,A⟩:=hrel;have A1:=A.size;by_cases hlt:k<37
  ·have A0:(k:Int)<37:=by omega
   have x:=zac A (by omega) r;have y:=zac A (by omega) Y;clear Q;go_wp2_with fail;refine(zuq _ d k _ (q.o.below (zae R A)) O.o.1 hlt O.o.2).mono ?_;rintro e w3 ⟨rfl,N⟩;have C:=zah D.o N;rw[show 37 - k=(36 - k)+1 from by omega]at C;have S:=zp6 C;have J:=zp5 C (zcj d k);rw[zdq]at S J;obtain⟨⟨u,hu⟩,A7,A3,A4,_⟩:=S;have X:=zaa J;clear C J D x y;go_wp2
   go_roundw
   case rel=>
    refine⟨k+1,by omega,by go_num,?_,?_⟩
    ·rw[zsh,show 37 - (k+1)=36 - k from by omega];exact X
    ·exact(zae A N).setCell (by simp) _
   case measure=>simp[intOf];omega
  ·have e:k=37:=by omega
   have E:=D.o;rw[e,show 37 - 37=0 from rfl,zp3]at E;obtain⟨a2,c2,I,M,L⟩:=SegS.of_owns E;have K:=zaa L;have s:=zaa M;have U:=zac A (by omega) m;have j:=zac A (by omega) l;have A2:=za8 A (by omega) p;have A5:=za8 A (by omega) f1;rw[zdq]at I;simp only[Value.slice.injEq]at I;obtain⟨Z,_,n⟩:=I;subst Z n;clear D E M L m l p f1 r Y Q e;go_wp2;refine bodyPost_ret (v:=.tuple #[.agg #[.slice (some ⟨F.heap.size,0,none⟩) 37 37,.slice none 0 0],.int .i64 0]) (by simp[results,results108,go_sem,U,j]) rfl ⟨_,rfl,⟨some ⟨F.heap.size,0,none⟩,37,none,0,?_,?_,.inl rfl,?_,?_⟩,?_,⟨_,_,_,_,_,_,rfl,fun b off e=>by cases e;omega,fun _ _ e=>by cases e⟩⟩
   ·simp only[zdq];rfl
   ·exact(s.o.setCell K.o (by simp;omega) _).setCell K.o (by simp;omega) _
   ·show(ze8 d 37).length≤maxLen;rw[zdq];decide
   ·exact Nat.zero_le _
   ·exact((zae R A).setCell (by simp) _).setCell (by simp) _
theorem zvs(v:Value)(d:Dk)(w:World)(h:IsDk w v d):
  Calls prog 108 #[v] w fun e w'=>∃v2,e=.returned (.tuple #[v2,.int .i64 (zh7 d)])∧IsDk w' v2 (zcp d)∧(zh7 d≠0→v2=v)∧Below w.heap.size w w'∧(v2=v∨DkFrom w.heap.size v2):=by
 cases hg:za0 d with
 |false=>
  have A:zh7 d=2:=by simp[zh7,hg]
  have B:zcp d=d:=by simp[zcp,hg]
  rw[A,B];exact(z2a v d w h hg).mono fun e w' he=>⟨v,he.1,h.below he.2,fun _=>rfl,he.2,.inl rfl⟩
 |true=>
  have A:zh7 d=0:=by simp[zh7,hg]
  have B:zcp d=⟨ze8 d 37,[]⟩:=by simp[zcp,hg]
  rw[A,B]
  exact(z2b v d w h hg).mono fun e w' he=>by
   obtain⟨v2,E,C,F,D⟩:=he;exact⟨v2,E,C,fun h=>absurd rfl h,F,.inr D⟩
theorem zsu(n:Int)(z:ByteArray)(l:List (Int×ByteArray))(hz:zbc z=true)(h:l.all wrB=true):zbc (zef n z l)=true:=by
 induction l generalizing z with
 |nil=>exact hz
 |cons x r ih=>
  simp only[List.all_cons,Bool.and_eq_true]at h;refine ih _ ?_ h.2;by_cases e:x.1=n
  ·rw[if_pos e];have:=h.1;simp only[wrB,Bool.and_eq_true]at this;exact this.2
  ·rw[if_neg e];exact hz
theorem zhs{d:Dk}(h:za0 d=true):d.safe.length=37∧d.wr.length≤200∧d.safe.all zbc=true∧d.wr.all wrB=true:=by
 simp only[za0,Bool.and_eq_true,decide_eq_true_eq]at h;exact⟨h.1.1.1,h.1.1.2,h.1.2,h.2⟩
theorem zqe{d:Dk}(h:za0 d=true)(k:Nat)(hk:k<37):zbc (d.safe.getD k ByteArray.empty)=true:=by
 obtain⟨h1,_,A,_⟩:=zhs h;rw[List.all_eq_true]at A;exact A _ (List.mem_of_getElem? (zes d.safe k ByteArray.empty (by omega)))
theorem zy2{d:Dk}(h:za0 d=true)(k:Nat)(hk:k<37):zbc (zcj d k)=true:=
 zsu _ _ _ (by rw[Int.toNat_natCast];exact zqe h k hk) (zhs h).2.2.2
theorem zsv(n:Int)(l:List (Int×ByteArray))(s:ByteArray)(h:s∈zcl n l):(n,s)∈l:=by
 induction l with
 |nil=>simp[zcl]at h
 |cons x r ih=>
  by_cases e:x.1=n
  ·simp only[zcl,if_pos e,List.mem_cons]at h;rcases h with rfl|h
   ·rw[←e];simp
   ·exact List.mem_cons_of_mem _ (ih h)
  ·simp only[zcl,if_neg e]at h;exact List.mem_cons_of_mem _ (ih h)
theorem z2l{d:Dk}{n:Nat}{s:ByteArray}(h:s∈ways d n):s=d.safe.getD n ByteArray.empty∨((n:Int),s)∈d.wr:=by
 simp only[ways,List.mem_cons]at h;rcases h with h|h
 ·exact .inl h
 ·exact .inr (zsv _ _ _ h)
theorem zy3{d:Dk}(h:za0 d=true){k:Nat}(hk:k<37){s:ByteArray}(hs:s∈ways d k):zbc s=true:=by
 rcases z2l hs with rfl|hm
 ·exact zqe h k hk
 ·have:=(zhs h).2.2.2;rw[List.all_eq_true]at this;have:=this _ hm;simp only[wrB,Bool.and_eq_true]at this;exact this.2
theorem zsw{l:List ByteArray}{f:ByteArray→Bool}(h:∀k,k<l.length→f (l.getD k ByteArray.empty)=true):l.all f=true:=by
 rw[List.all_eq_true];intro x C;obtain⟨k,A⟩:=List.getElem?_of_mem C;have B:=(List.getElem?_eq_some_iff.1 A).1;have:=h k B
 rwa [List.getD,A]at this
theorem zqf{l:List ByteArray}(hl:l.length=37)(h:∀k,k<37→zbc (l.getD k ByteArray.empty)=true):za0 ⟨l,[]⟩=true:=by
 simp only[za0,hl,zsw (l:=l) (f:=zbc) (fun k hk=>h k (by omega))];rfl
theorem zux{d:Dk}(k m:Nat)(hk:k<m):(ze8 d m).getD k ByteArray.empty=zcj d k:=by
 rw[ze8,List.getD,List.getElem?_map,List.getElem?_range hk];rfl
theorem zht{d:Dk}(h:za0 d=true):za0 ⟨ze8 d 37,[]⟩=true:=
 zqf (zdq d 37) fun k hk=>by rw[zux k 37 hk];exact zy2 h k hk
theorem zhu{k:Nat}(hk:k<37):zb0 (k:Int)=true:=by simp[zb0];omega
theorem zgz{l:List ByteArray}(h:za0 ⟨l,[]⟩=true){k:Nat}(hk:k<37):zam ⟨l,[]⟩ k=l.getD k ByteArray.empty:=by
 rw[zam,h,zhu hk];show zcj ⟨l,[]⟩ k=_;rw[zcj,Int.toNat_natCast];rfl
theorem znp{d:Dk}(h:za0 d=true){k:Nat}(hk:k<37):zam ⟨ze8 d 37,[]⟩ k=zam d k:=by
 rw[zgz (zht h) hk,zux k 37 hk,zam,h,zhu hk];rfl
theorem zou{d:Dk}{n:Int}{s:ByteArray}(h:zif d n s=0):za0 d=true∧zb0 n=true∧zbc s=true∧¬d.wr.length=200:=by
 unfold zif at h;by_cases h1:(za0 d&&zb0 n)=true
 ·rw[if_pos h1]at h;by_cases h2:zbc s=true
  ·rw[if_pos h2]at h;by_cases h3:d.wr.length=200
   ·rw[if_pos h3]at h;cases h
   ·simp at h1;exact⟨h1.1,h1.2,h2,h3⟩
  ·rw[if_neg h2]at h;cases h
 ·rw[if_neg h1]at h;cases h
theorem zey{d:Dk}{n:Int}{s:ByteArray}(h:zif d n s=0):zhq d n s=⟨d.safe,d.wr++[(n,s)]⟩:=by rw[zhq,if_pos h]
theorem z4k{d:Dk}{n:Int}{s:ByteArray}(h:zif d n s≠0):zhq d n s=d:=by rw[zhq,if_neg h]
theorem zd9{d:Dk}{n:Int}{s:ByteArray}(h:zif d n s=0):za0 (zhq d n s)=true:=by
 rw[zey h];obtain⟨A,E,B,hl⟩:=zou h;simp only[za0,Bool.and_eq_true,decide_eq_true_eq]at A⊢;obtain⟨⟨⟨D,h2⟩,C⟩,F⟩:=A;refine⟨⟨⟨D,?_⟩,C⟩,?_⟩
 ·simp;omega
 ·rw[List.all_append,F];simp[wrB,E,B]
theorem zk9(d:Dk)(n m:Int)(s:ByteArray):zcj ⟨d.safe,d.wr++[(n,s)]⟩ m=if n=m then s else zcj d m:=zie _ _ _ _
theorem zov{d:Dk}{n:Int}{s:ByteArray}(h:zif d n s=0):zam (zhq d n s) n=s∧readE (zhq d n s) n=0:=by
 have B:=zd9 h;have A:=(zou h).2.1;rw[zam,readE,B,A];refine⟨?_,rfl⟩;rw[zey h];simp[zk9]
theorem zv9{d:Dk}{n:Int}{s:ByteArray}(h:zif d n s=0)(m:Int):readE (zhq d n s) m=readE d m∧(m≠n→zam (zhq d n s) m=zam d m):=by
 have B:=zd9 h;have A:=(zou h).1;rw[zam,readE,zam,readE,B,A];refine⟨rfl,fun hne=>?_⟩;have e:zcj (zhq d n s) m=zcj d m:=by rw[zey h,zk9,if_neg (fun e=>hne e.symm)]
 rw[e]
open Go.Proofs.Tryz
theorem zqz(b off c:Nat)(a':Option Addr)(c':Nat)(d:Dk)(n:Nat)(w:World)(hn:d.safe.length=37)(hp:n<37)(hm:d.wr.length≤200)(hb:b<w.heap.size)
  (hc:∀i,i<d.safe.length→w.cell? ⟨b,off+i,none⟩=some (.string (d.safe.getD i ByteArray.empty))) (hw:SegW w a' d.wr):
  Calls prog 112 #[.agg #[.slice (some ⟨b,off,none⟩) 37 c,.slice a' d.wr.length c'],.int .i64 n] w fun e w'=>∃v',e=.returned v'∧w'.ownsRow w.heap.size 9 1 v' (ways d n).length (cellsS (ways d n))∧Below w.heap.size w w':=by
 have r:=zaa hw;obtain⟨z,R⟩:∃z,z=d.safe.getD n ByteArray.empty:=⟨_,rfl⟩;have a:=hc n (by omega);rw[←R]at a;have A1:(n:Int)<37:=by omega
 have H0:Hid (zc9 d n 0=[z]):=by rw[R];rfl
 clear hn hw hc R;obtain⟨i0,hi,q,Y,Z⟩:=info_parts z5d;go_enter func112,ntmps112;go_wp2
 go_loopw [5,17] (fun v i wr=>∃k:Nat,k≤d.wr.length∧i=.int .i64 k∧Hid (wr.ownsRow w.heap.size 9 1 v (zc9 d n k).length (cellsS (zc9 d n k)))∧Below w.heap.size w wr) (fun _ i _=>d.wr.length - (intOf i).toNat)
 case atStart=>
  refine⟨0,Nat.zero_le _,rfl,?_,zae (zab _ _) (zab _ _)⟩;rw[H0.o];have h:=World.ownsRow_lit (e:=9) (size:=1) (w.alloc (Obj.cells #[.slice (some ⟨b,off,none⟩) 37 c,.slice a' d.wr.length c'] 46)) #[.string z] 1 (zab w _).size (by decide) rfl;unfold Hid
  simpa[cellsS] using h
 case round=>
  obtain⟨k,l,rfl,A,C⟩:=hrel;have K:=C.size;by_cases hlt:k<d.wr.length
  ·obtain⟨b',A0,rfl,M,N⟩:=r.o.resolve_left (by intro e;rw[e]at hlt;simp at hlt);obtain⟨x,S⟩:∃x,x=d.wr.getD k (0,ByteArray.empty):=⟨_,rfl⟩;obtain⟨E,F⟩:=N k hlt;rw[←S]at E F;have p:Hid (d.wr[k]?=some x):=by rw[S];exact zes _ _ _ hlt
   clear S N;have g1:=zac C M E;have g2:=zac C M F;clear E F;have hl:=zi4 d n k hm;obtain⟨m,s⟩:=x;by_cases he:m=n
   ·have X:(m==(n:Int))=true:=by rw[he];simp
    have J:Hid (zc9 d n (k+1)=zc9 d n k++[s]):=zv8 d n k (m,s) p.o he;clear he;go_wp2_with (at_builtin;refine wpList_append_own _ rfl _ _ 43 rfl w.heap.size 9 i0 (.string ⟨#[]⟩) 1 16 underlying43 hi q Y Z rfl (by decide) _ _ _ rfl ((A.o.alloc _).alloc _) ⟨wr.heap.size+1,0,none⟩ 1 1 (cellsS [s]) rfl ?qc1 ?qc2 ?qc3 ?qc4 ?qc5 ?qc6 ?_)
    case qc1=>rfl
    case qc2=>
     intro j u I
     match j,I with
     |0,I=>simp[cellsS]at I;subst I;simp[go_sem]
    case qc3=>exact znb
    case qc4=>unfold maxLen;omega
    case qc5=>omega
    case qc6=>omega
    intro v4 y B D _;have U:Below w.heap.size w y:=((C.alloc K _).alloc (by simp;omega) _).grown D (by simp;omega) (fun k l=>(A.o.lt k l).1);rw[←ziu,←J.o]at B;have O:(zc9 d n k).length+1=(zc9 d n (k+1)).length:=by rw[J.o];simp
    rw[O]at B;have Q:=zaa B;clear B D A C;go_wp2
    go_roundw
    case rel=>exact⟨k+1,by omega,by go_num,Q,U⟩
    case measure=>simp[intOf];omega
   ·have X:(m==(n:Int))=false:=by simpa using he
    have J:Hid (zc9 d n (k+1)=zc9 d n k):=zst d n k (m,s) p.o he;have Q:=zaa (A.o.alloc (Obj.cells #[Value.int IntKind.i64 m,Value.string s] 82));clear he A;go_wp2
    go_roundw
    case rel=>exact⟨k+1,by omega,by go_num,by rw[J.o];exact Q,C.alloc K _⟩
    case measure=>simp[intOf];omega
  ·have e:k=d.wr.length:=by omega
   have L:zc9 d n k=ways d n:=by rw[e,zc9,List.take_length];rfl
   rw[L]at A;clear L e;go_wp2;go_ret;exact⟨_,rfl,A.o,C⟩
theorem zs6(v:Value)(d:Dk)(n:Nat)(w:World)(h:IsDk w v d)(hn:d.safe.length=37)(hp:n<37)(hm:d.wr.length≤200):
  Calls prog 112 #[v,.int .i64 n] w fun e w'=>∃v',e=.returned v'∧w'.ownsRow w.heap.size 9 1 v' (ways d n).length (cellsS (ways d n))∧Below w.heap.size w w':=by
 obtain⟨a,c,C,F,rfl,D,E,h1,h2⟩:=h;obtain⟨b,A,rfl,hb,B⟩:=D.resolve_left (by intro e;rw[e]at hn;simp at hn);have:=zqz b A c C F d n w hn hp hm hb B E;rw[←hn]at this;exact this
def zdl (d:Dk)(q:Nat):Nat→List ByteArray×Nat
 |0=>([],q)
 |k+1=>((zdl d q k).1++[(ways d k).getD ((zdl d q k).2%(ways d k).length) ByteArray.empty],(zdl d q k).2/(ways d k).length)
def crashK (d:Dk)(q:Int):Dk:=if(za0 d&&decide (0≤q))=true then⟨(zdl d q.toNat 37).1,[]⟩ else d
def crashE (d:Dk)(q:Int):Int:=if(za0 d&&decide (0≤q))=true then 0 else 2
theorem zc5(d:Dk)(q k:Nat):(zdl d q k).1.length=k:=by
 induction k with
 |zero=>rfl
 |succ k ih=>simp[zdl,ih]
theorem zzn(d:Dk)(q k:Nat):(zdl d q k).2≤q:=by
 induction k with
 |zero=>exact Nat.le_refl _
 |succ k ih=>exact Nat.le_trans (Nat.div_le_self _ _) ih
theorem zs7(d:Dk)(n:Nat)(h:d.wr.length≤200):1≤(ways d n).length∧(ways d n).length≤201:=by
 have:=zi4 d n d.wr.length h;rw[zc9,List.take_length]at this;exact this
theorem z2v(v:Value)(d:Dk)(q:Int)(w:World)(h:IsDk w v d)(hno:(za0 d&&decide (0≤q))=false):
  Calls prog 75 #[v,.int .i64 q] w fun e w'=>e=.returned (.tuple #[v,.int .i64 2])∧Below w.heap.size w w':=by
 have J:Hid (IsDk w v d):=h;obtain⟨a,c,F,K,rfl,_,_,_,_⟩:=h
 cases hg:za0 d with
 |false=>
  clear hno;go_enter func75,ntmps75;go_wp2_with fail;refine(zc1 _ d _ (J.o.below (zae (zab _ _) (zab _ _)))).mono ?_;rintro e D ⟨rfl,A⟩;obtain⟨B,I⟩:=zpx A;have E:w.heap.size+1<D.heap.size:=by have:=A.size;simp at this;omega
  go_wp2;refine bodyPost_ret (v:=.tuple #[.agg #[.slice a d.safe.length c,.slice F d.wr.length K],.int .i64 2]) (by simp[results,results75,go_sem,B]) rfl ⟨rfl,?_⟩;have C:Below w.heap.size w D:=zae (zae (zab _ _) (zab _ _)) A;exact(C.setCell (by simp) _).setCell (by simp) _
 |true=>
  have hq:q<0:=by simpa[hg] using hno
  clear hno;go_enter func75,ntmps75;go_wp2_with fail;refine(zc1 _ d _ (J.o.below (zae (zab _ _) (zab _ _)))).mono ?_;rintro e D ⟨rfl,A⟩;obtain⟨B,I⟩:=zpx A;have E:w.heap.size+1<D.heap.size:=by have:=A.size;simp at this;omega
  go_wp2;refine bodyPost_ret (v:=.tuple #[.agg #[.slice a d.safe.length c,.slice F d.wr.length K],.int .i64 2]) (by simp[results,results75,go_sem,B]) rfl ⟨rfl,?_⟩;have C:Below w.heap.size w D:=zae (zae (zab _ _) (zab _ _)) A;exact(C.setCell (by simp) _).setCell (by simp) _
theorem z2w(v:Value)(d:Dk)(q:Nat)(w:World)(h:IsDk w v d)(hg:za0 d=true)(hq:q≤9223372036854775807):
  Calls prog 75 #[v,.int .i64 q] w fun e w'=>∃v2,e=.returned (.tuple #[v2,.int .i64 0])∧IsDk w' v2 ⟨(zdl d q 37).1,[]⟩∧Below w.heap.size w w'∧DkFrom w.heap.size v2:=by
 have HI:Hid (IsDk w v d):=h;obtain⟨a,c,a',c',rfl,_,_,_,_⟩:=h;have N:=zaa (zek hg);have X:=z3y;go_enter func75,ntmps75;go_wp2_with fail;refine(zc1 _ d _ (HI.o.below (zae (zab _ _) (zab _ _)))).mono ?_;rintro e F ⟨rfl,B⟩;have B8:w.heap.size+1<F.heap.size:=by have:=B.size;simp at this;omega
 have x0:=zac B (b:=w.heap.size) (o:=0) (v:=.slice a d.safe.length c) (by simp;omega) (by simp[go_sem]);have x1:=zac B (b:=w.heap.size) (o:=1) (v:=.slice a' d.wr.length c') (by simp;omega) (by simp[go_sem]);have y0:=zac B (b:=w.heap.size+1) (o:=0) (v:=.slice none 0 0) (by simp) (by simp[go_sem]);have y1:=zac B (b:=w.heap.size+1) (o:=1) (v:=.slice none 0 0) (by simp) (by simp[go_sem]);have f0:=za8 B (b:=w.heap.size+1) (o:=0) (v:=false) (by simp) (by simp[go_sem]);have f1:=za8 B (b:=w.heap.size+1) (o:=1) (v:=false) (by simp) (by simp[go_sem]);have Y:Below w.heap.size w F:=zae (zae (zab _ _) (zab _ _)) B;clear B;go_wp2
 go_loopw [1,20] (fun r i wr=>∃k:Nat,k≤37∧i=.int .i64 k∧r=.int .i64 ((zdl d q k).2:Nat)∧Hid (wr.ownsRow F.heap.size 9 1 (.slice (some ⟨F.heap.size,0,none⟩) 37 37) 37 (fill (zdl d q k).1 (37 - k)))∧Below F.heap.size F wr) (fun _ i _=>37 - (intOf i).toNat)
 case atStart=>exact⟨0,Nat.zero_le _,rfl,rfl,zp4 _ _ (Nat.le_refl _),zab _ _⟩
 case round=>
  obtain⟨k,hk,rfl,rfl,D,A⟩:=hrel;have A8:=A.size;by_cases hlt:k<37
  ·have A7:(k:Int)<37:=by omega
   have z0:=zac A (by omega) x0;have z1:=zac A (by omega) x1;have A1:=zzn d q k;obtain⟨r,p⟩:∃r,r=(zdl d q k).2:=⟨_,rfl⟩;rw[←p]at A1⊢;clear X;go_wp2_with fail;refine(zs6 _ d k _ (HI.o.below (zae Y A)) N.o.1 hlt N.o.2).mono ?_;rintro e w3 ⟨v3,rfl,I,m⟩;obtain⟨a3,c3,K,U,_⟩:=SegS.of_owns I;have s:=zs7 d k N.o.2;obtain⟨b3,o3,S,A6,j⟩:=U.resolve_left (by intro e;rw[e]at s;simp at s);obtain⟨t,y⟩:∃t,t=(ways d k).getD (r%(ways d k).length) ByteArray.empty:=⟨_,rfl⟩;have R:=j (r%(ways d k).length) (Nat.mod_lt _ (by omega));rw[←y]at R;have x:Hid (zdl d q (k+1)=((zdl d q k).1++[t],r/(ways d k).length)):=by rw[y,p];rfl
   obtain⟨L,n⟩:∃L,L=(ways d k).length:=⟨_,rfl⟩;rw[←n]at K s R x;rw[K,S];have C:=zah D.o m;rw[show 37 - k=(36 - k)+1 from by omega]at C;have Z:=zp6 C;have J:=zp5 C t;rw[zc5]at Z J;obtain⟨⟨u,hu⟩,B1,B3,B6,_⟩:=Z;have A0:=zaa J;clear C J D z0 z1 I U j S K n y p;have B5:0≤(r:Int)%(L:Int):=Int.emod_nonneg _ (by omega);have B4:(r:Int)%(L:Int)<(L:Int):=Int.emod_lt_of_pos _ (by omega);have B2:0≤(r:Int)/(L:Int):=Int.ediv_nonneg (by omega) (by omega);have B0:(r:Int)/(L:Int)≤9223372036854775807:=Int.le_trans (Int.ediv_le_self _ (by omega)) (by omega);go_wp2
   go_roundw
   case rel=>
    refine⟨k+1,by omega,by go_num,?_,?_,?_⟩
    ·rw[x.o];rfl
    ·rw[x.o,show 37 - (k+1)=36 - k from by omega];exact A0
    ·exact(zae A m).setCell (by simp) _
   case measure=>simp[intOf];omega
  ·have e:k=37:=by omega
   have E:=D.o;rw[e,show 37 - 37=0 from rfl,zp3]at E;obtain⟨a2,c2,M,l,Q⟩:=SegS.of_owns E;have O:=zaa Q;have A5:=zaa l;have z:=zac A (by omega) y0;have A3:=zac A (by omega) y1;have A9:=za8 A (by omega) f0;have B7:=za8 A (by omega) f1;rw[zc5]at M;simp only[Value.slice.injEq]at M;obtain⟨A2,_,A4⟩:=M;subst A2 A4;clear D E l Q y0 y1 f0 f1 x0 x1 X e;go_wp2;refine bodyPost_ret (v:=.tuple #[.agg #[.slice (some ⟨F.heap.size,0,none⟩) 37 37,.slice none 0 0],.int .i64 0]) (by simp[results,results75,go_sem,z,A3]) rfl ⟨_,rfl,⟨some ⟨F.heap.size,0,none⟩,37,none,0,?_,?_,.inl rfl,?_,?_⟩,?_,⟨_,_,_,_,_,_,rfl,fun b off e=>by cases e;omega,fun _ _ e=>by cases e⟩⟩
   ·simp only[zc5];rfl
   ·exact(A5.o.setCell O.o (by simp;omega) _).setCell O.o (by simp;omega) _
   ·show(zdl d q 37).1.length≤maxLen;rw[zc5];decide
   ·exact Nat.zero_le _
   ·exact((zae Y A).setCell (by simp) _).setCell (by simp) _
theorem zwp(v:Value)(d:Dk)(q:Int)(w:World)(h:IsDk w v d)(hq:q≤9223372036854775807):
  Calls prog 75 #[v,.int .i64 q] w fun e w'=>∃v2,e=.returned (.tuple #[v2,.int .i64 (crashE d q)])∧IsDk w' v2 (crashK d q)∧(crashE d q≠0→v2=v)∧Below w.heap.size w w'∧(v2=v∨DkFrom w.heap.size v2):=by
 cases hg:(za0 d&&decide (0≤q)) with
 |false=>
  have A:crashE d q=2:=by simp only[crashE,hg];rfl
  have B:crashK d q=d:=by simp only[crashK,hg];rfl
  rw[A,B];exact(z2v v d q w h hg).mono fun e w' he=>⟨v,he.1,h.below he.2,fun _=>rfl,he.2,.inl rfl⟩
 |true=>
  have A:crashE d q=0:=by simp only[crashE,hg];rfl
  have B:crashK d q=⟨(zdl d q.toNat 37).1,[]⟩:=by simp only[crashK,hg];rfl
  simp at hg;obtain⟨n,rfl⟩:=Int.eq_ofNat_of_zero_le hg.2;rw[A,B];rw[Int.toNat_natCast]
  exact(z2w v d n w h hg.1 (by omega)).mono fun e w' he=>by
   obtain⟨v2,E,D,F,C⟩:=he;exact⟨v2,E,D,fun h=>absurd rfl h,F,.inr C⟩
theorem zu3{d:Dk}(q k m:Nat)(hk:k<m):(zdl d q m).1.getD k ByteArray.empty∈ways d k:=by
 induction m with
 |zero=>omega
 |succ m ih=>
  rw[zdl];have C:=zc5 d q m;by_cases e:k<m
  ·have:=ih e
   rwa [List.getD,List.getElem?_append_left (by omega)]
  ·have B:k=m:=by omega
   subst B;rw[List.getD,List.getElem?_append_right (by omega),C,Nat.sub_self];have A:(zdl d q k).2%(ways d k).length<(ways d k).length:=Nat.mod_lt _ (by simp[ways]);exact List.mem_of_getElem? (zes _ _ ByteArray.empty A)
theorem zny{d:Dk}(h:za0 d=true)(q:Nat):za0 ⟨(zdl d q 37).1,[]⟩=true:=
 zqf (zc5 d q 37) fun k hk=>zy3 h hk (zu3 q k 37 hk)
open Go.Proofs.Tryz
theorem z4v(b off c:Nat)(s:ByteArray)(w:World)(hb:b<w.heap.size)(hc:w.cell? ⟨b,off,none⟩=some (.string s)):
  Calls prog 104 #[.slice (some ⟨b,off,none⟩) 1 c,.int .i64 37] w fun e w'=>∃v',e=.returned v'∧w'.ownsRow w.heap.size 9 1 v' 37 (cellsS (List.replicate 37 s))∧Below w.heap.size w w':=by
 have A3:=z5i s;go_enter func104,ntmps104;go_wp2_with fail;refine(z18 _).mono ?_;rintro e w1 ⟨rfl,rfl⟩;go_wp2_with (refine wpList_copy_splice rfl (.tmp 31) (.tmp 32) 43 43 rfl 9 underlying43 z5h _ _ _ _ _ _ rfl rfl w.heap.size 0 (row s 0 37) 9 ?qc1 (reps s 1) ?qc2 ?qc3 ?qc4 (zyh s 1) w.heap.size w ?qc5 (Nat.le_refl _) ?_)
 case qc1=>exact heap_alloc_new w _
 case qc2=>rw[zdc];rfl
 case qc3=>
  intro _ j v I;obtain⟨h0,rfl⟩:=zyg I;rw[show j=0 from by omega,Nat.add_zero];exact hc
 case qc4=>rw[znf,zdc];decide
 case qc5=>exact zab _ _
 intro w2 A C;rw[zng]at A;go_wp2
 go_loopw [8] (fun i wr=>∃n:Nat,1≤n∧n≤37∧i=.int .i64 n∧Hid (wr.heap[w.heap.size]?=some (.cells (row s n (37 - n)).toArray 9 (0,0)))∧Below w.heap.size w wr) (fun i _=>37 - (intOf i).toNat)
 case atStart=>exact⟨1,by omega,by omega,rfl,A,C⟩
 case round=>
  obtain⟨n,h1,A4,rfl,B,E⟩:=hrel;clear A C;by_cases hlt:n<37
  ·have A2:(n:Int)<37:=by omega
   have A0:(n:Int)≤37:=by omega
   have A5:¬37=n:=by omega
   have A1:(reps s (min n (37 - n))).length≤37:=by rw[zdc];omega
   go_wp2
   go_region_law (refine step_copy_splice rfl (.tmp 41) (.tmp 44) 43 43 rfl 9 underlying43 z5h (some ⟨w.heap.size,n,none⟩) (some ⟨w.heap.size,0,none⟩) (37 - n) (37 - n) n 37 (by simp[Act.eval,Act.put]) (by simp[Act.eval,Act.put]) w.heap.size n (row s n (37 - n)) 9 B.o (reps s (min n (37 - n))) (by rw[zdc]) (fun _=>⟨rfl,⟨w.heap.size,0,none⟩,rfl,z4d B (Nat.min_le_left _ _)⟩) (by rw[znf,zdc];omega) (zyh s _) w.heap.size w E.drew (Nat.le_refl _) ?_;intro w4 D F)
   rw[zng]at D;go_wp2
   have J:IntKind.i64.wrap ((n:Int)+((reps s (min n (37 - n))).length:Int))=((n+min n (37 - n):Nat):Int):=by
    rw[zdc];rw[IntKind.wrap_i64];omega
   rw[J];refine⟨?_,?_⟩
   ·(repeat apply Exists.intro)
    exact⟨⟨n+min n (37 - n),by omega,by omega,rfl,by rw[show 37 - (n+min n (37 - n))=37 - n - min n (37 - n) from by omega];exact D,F⟩,rfl⟩
   ·simp[Act.put,intOf];omega
  ·have e:n=37:=by omega
   have K:Hid (wr.heap[w.heap.size]?=some (.cells (row s 37 0).toArray 9 (0,0))):=by have:=B.o;rw[e]at this;exact this
   clear e B;go_wp2;go_ret;refine⟨_,rfl,⟨by simp[cellsS],.inr ⟨w.heap.size,37,(row s 37 0).toArray,rfl,Nat.le_refl _,K.o,by omega,by decide,by simp[row],?_⟩⟩,E⟩;simp[row,cellsS]
theorem z4w(w:World):
  Calls prog 69 #[] w fun e w'=>∃g c,e=.returned (.agg #[.slice (some ⟨g,0,none⟩) 37 c,.slice none 0 0])∧w'.ownsRow w.heap.size 9 1 (.slice (some ⟨g,0,none⟩) 37 c) 37 (cellsS (List.replicate 37 (fitT ⟨#[]⟩)))∧Below w.heap.size w w':=by
 go_enter func69,ntmps69;go_wp2_with fail;refine(zf9 ⟨#[]⟩ _ (by decide)).mono ?_;rintro e F ⟨rfl,B⟩;have D:w.heap.size<F.heap.size:=by have:=B.size;simp at this;omega
 generalize hz:fitT ⟨#[]⟩=z;have U:Hid (fitT ⟨#[]⟩=z):=hz;clear hz;go_wp2_with fail;refine(z4v _ _ _ z _ (by simp) (by simp[go_sem])).mono ?_;rintro e I ⟨R,rfl,C,E⟩;have K:=zaa C
 obtain⟨g,c2,J⟩:∃g c2,R=.slice (some ⟨g,0,none⟩) 37 c2:=by
  rcases C.2 with⟨_,h0⟩|⟨g,cap,cur,e,_⟩
  ·cases h0
  ·exact⟨g,cap,e⟩
 subst J;have O:=zac B (b:=w.heap.size) (o:=0) (v:=.slice none 0 0) (by simp) (by simp[go_sem]);have N:=zac B (b:=w.heap.size) (o:=1) (v:=.slice none 0 0) (by simp) (by simp[go_sem]);have Q:=za8 B (b:=w.heap.size) (o:=0) (v:=false) (by simp) (by simp[go_sem]);have f1:=za8 B (b:=w.heap.size) (o:=1) (v:=false) (by simp) (by simp[go_sem]);have A:Below F.heap.size F I:=zae (zab _ _) E;have L:=zac A D O;have M:=zac A D N;have A1:=za8 A D Q;have A0:=za8 A D f1;have S:Hid (Below w.heap.size w I):=zae (zae (zab _ _) B) A;clear C O N Q f1 E;go_wp2;refine bodyPost_ret (v:=.agg #[.slice (some ⟨g,0,none⟩) 37 c2,.slice none 0 0]) (by simp[results,results69,go_sem,L,M]) rfl ⟨g,c2,rfl,?_,?_⟩
 ·rw[←U.o]at K;exact zba (ownsRow_setCell_below (ownsRow_setCell_below K.o (a:=⟨w.heap.size,0,none⟩) (by simp;omega) _) (a:=⟨w.heap.size,1,none⟩) (by simp;omega) _) (by simp;omega)
 ·exact(S.o.setCell (by simp) _).setCell (by simp) _
