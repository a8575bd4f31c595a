/-
  
-/
import Derived.Test.YtjnpndfpajjihacGreatGrTopOrdered7
import Derived.Laws.CopyOwn
set_option maxRecDepth 100000
set_option maxHeartbeats 40000000
namespace Go.Proofs.YtjnpndfpajjihacGreat
open Go.RowKit
def row (s:ByteArray)(n m:Nat):List Value:=List.replicate n (.string s)++List.replicate m (.string ⟨#[]⟩)
def reps (s:ByteArray)(k:Nat):List Value:=List.replicate k (.string s)
theorem zdf(s:ByteArray)(k:Nat):(reps s k).length=k:=by simp[reps]
theorem zyg{s:ByteArray}{k j:Nat}{u:Value}(h:(reps s k)[j]?=some u):j<k∧u=.string s:=by
 rw[reps,List.getElem?_replicate]at h;split at h
 ·exact⟨by assumption,by cases h;rfl⟩
 ·cases h
theorem znf(s:ByteArray)(n m:Nat):(row s n m).length=n+m:=by simp[row]
theorem zng(s:ByteArray)(n m k:Nat):splice (row s n m) n (reps s k)=row s (n+k) (m - k):=by
 have B:(row s n m).take n=List.replicate n (.string s):=by simp[row]
 have A:(row s n m).drop (n+k)=List.replicate (m - k) (.string ⟨#[]⟩):=by simp[row,List.drop_append]
 rw[splice,B,zdf,A,row,reps,←List.append_assoc,List.replicate_append_replicate]
theorem z10(s:ByteArray)(n m j:Nat)(h:j<n):(row s n m)[j]?=some (.string s):=by
 rw[row,List.getElem?_append_left (by simpa using h)];simp[h]
theorem zyh(s:ByteArray)(k:Nat):∀u∈reps s k,u.oneCell'=true:=by
 intro u A;rw[List.eq_of_mem_replicate A];rfl
theorem z34{s:ByteArray}{wr:World}{B n m k:Nat}(HG:Hid (wr.heap[B]?=some (.cells (row s n m).toArray 9 (0,0))))(hk:k≤n):
  ∀j v,(reps s k)[j]?=some v→wr.cell? ((⟨B,0,none⟩:Addr).add j)=some v:=by
 intro j v A;obtain⟨A0,rfl⟩:=zyg A;rw[Addr.add_lit,Nat.zero_add,cell_of_row wr B j _ 9 (0,0) HG.o]
 simpa using z10 s n m j (by omega)
theorem z42:(Tryz.prog.info? 9).map (fun i=>i.size)=some 1:=by kernel_rfl
theorem z11(w:World):Calls Tryz.prog 88 #[.int .u64 1,.int .u64 37] w fun e w'=>e=.returned (.tuple #[.int .u64 0,.int .u64 37])∧w=w':=by
 refine(Tryz.bits_Mul 1 37 (by decide) (by decide) w).mono ?_;rintro e w' ⟨rfl,rfl⟩;exact⟨rfl,rfl⟩
theorem z43(s:ByteArray)(w:World):(Instr.makeSlice 43 (.int .i64 37) (.int .i64 37)).run Tryz.prog w=.ok (.slice (some ⟨w.heap.size,0,none⟩) 37 37) (w.alloc (.cells (row s 0 37).toArray 9)):=by kernel_rfl
open Go.Proofs.Tryz
def fill (l:List ByteArray)(m:Nat):List Value:=cellsS l++List.replicate m (.string ⟨#[]⟩)
theorem z12(l:List ByteArray)(m:Nat)(s:ByteArray):(fill l (m+1)).set l.length (.string s)=fill (l++[s]) m:=by
 have A:(cellsS l).length=l.length:=by simp[cellsS]
 rw[fill,List.set_append_right _ _ (by omega),A,Nat.sub_self,List.replicate_succ,List.set_cons_zero,fill,ziu,List.append_assoc];rfl
theorem zp1(l:List ByteArray):fill l 0=cellsS l:=by simp[fill]
theorem z35(l:List ByteArray)(m k:Nat)(h:k<l.length+m):∃u,(fill l m)[k]?=some u:=by
 have:k<(fill l m).length:=by simp[fill,cellsS];omega
 exact⟨_,List.getElem?_eq_getElem this⟩
theorem z3p(w:World):(Instr.makeSlice 43 (.int .i64 37) (.int .i64 37)).run prog w=.ok (.slice (some ⟨w.heap.size,0,none⟩) 37 37) (w.alloc (.cells (fill [] 37).toArray 9)):=by kernel_rfl
theorem zp2(w:World)(base:Nat)(hb:base≤w.heap.size):(w.alloc (.cells (fill [] 37).toArray 9)).ownsRow base 9 1 (.slice (some ⟨w.heap.size,0,none⟩) 37 37) 37 (fill [] 37):=by
 have:=World.ownsRow_lit (e:=9) (size:=1) w (fill [] 37).toArray 37 hb (by decide) (by simp[fill,cellsS])
 simpa using this
theorem zp3{w:World}{base g:Nat}{l:List ByteArray}{m:Nat}(h:w.ownsRow base 9 1 (.slice (some ⟨g,0,none⟩) 37 37) 37 (fill l (m+1)))(s:ByteArray):
  (w.setCell ⟨g,l.length,none⟩ (.string s)).ownsRow base 9 1 (.slice (some ⟨g,0,none⟩) 37 37) 37 (fill (l++[s]) m):=by
 have:=(h.stored l.length (.string s)).1
 rwa [z12]at this
theorem zp4{w:World}{base g:Nat}{l:List ByteArray}{m:Nat}(h:w.ownsRow base 9 1 (.slice (some ⟨g,0,none⟩) 37 37) 37 (fill l (m+1))):
  (∃u,w.cell? ⟨g,l.length,none⟩=some u)∧w.frozen? ⟨g,l.length,none⟩=false∧base≤g∧g<w.heap.size∧l.length+(m+1)=37:=by
 have B:l.length+(m+1)=37:=by have:=h.1;simp[fill,cellsS]at this;omega
 obtain⟨u,C⟩:=z35 l (m+1) l.length (by omega);have A:=h.lt g rfl;exact⟨⟨u,by rw[h.cellAt _ (by omega)];exact C⟩,h.frozenAt _,A.1,A.2,B⟩
def ze8 (d:Dk)(k:Nat):List ByteArray:=(List.range k).map fun n:Nat=>zci d (n:Int)
def zcp (d:Dk):Dk:=if za3 d=true then⟨ze8 d 37,[]⟩ else d
def ziv (d:Dk):Int:=if za3 d=true then 0 else 2
theorem zdq(d:Dk)(k:Nat):(ze8 d k).length=k:=by simp[ze8]
theorem zsk(d:Dk)(k:Nat):ze8 d (k+1)=ze8 d k++[zci d (k:Int)]:=by simp[ze8,List.range_succ]
theorem z13(v:Value)(d:Dk)(w:World)(h:IsDk w v d)(hg:za3 d=false):
  Calls prog 108 #[v] w fun e w'=>e=.returned (.tuple #[v,.int .i64 2])∧Below w.heap.size w w':=by
 have I:Hid (IsDk w v d):=h;obtain⟨a,c,E,F,rfl,_,_,_,_⟩:=h;go_enter func108,ntmps108;go_wp2_with fail;refine(zc4 _ d _ (I.o.below (zae (zaa _ _) (zaa _ _)))).mono ?_;rintro e C ⟨rfl,A⟩;obtain⟨D,A0⟩:=zpx A;have A1:w.heap.size+1<C.heap.size:=by have:=A.size;simp at this;omega
 go_wp2;refine bodyPost_ret (v:=.tuple #[.agg #[.slice a d.safe.length c,.slice E d.wr.length F],.int .i64 2]) (by simp[results,results108,go_sem,D]) rfl ⟨rfl,?_⟩;have B:Below w.heap.size w C:=zae (zae (zaa _ _) (zaa _ _)) A;exact(B.setCell (by simp) _).setCell (by simp) _
theorem z14(v:Value)(d:Dk)(w:World)(h:IsDk w v d)(hg:za3 d=true):
  Calls prog 108 #[v] w fun e w'=>∃v2,e=.returned (.tuple #[v2,.int .i64 0])∧IsDk w' v2 ⟨ze8 d 37,[]⟩∧Below w.heap.size w w'∧DkFrom w.heap.size v2:=by
 have r:Hid (IsDk w v d):=h;obtain⟨a,c,z,x,rfl,_,_,_,_⟩:=h;have Q:=zab (zeh hg);have R:=z3p;go_enter func108,ntmps108;go_wp2_with fail;refine(zc4 _ d _ (r.o.below (zae (zaa _ _) (zaa _ _)))).mono ?_;rintro e F ⟨rfl,B⟩;have A6:w.heap.size+1<F.heap.size:=by have:=B.size;simp at this;omega
 have Z:=zac B (b:=w.heap.size) (o:=0) (v:=.slice a d.safe.length c) (by simp;omega) (by simp[go_sem]);have s:=zac B (b:=w.heap.size) (o:=1) (v:=.slice z d.wr.length x) (by simp;omega) (by simp[go_sem]);have Y:=zac B (b:=w.heap.size+1) (o:=0) (v:=.slice none 0 0) (by simp) (by simp[go_sem]);have j:=zac B (b:=w.heap.size+1) (o:=1) (v:=.slice none 0 0) (by simp) (by simp[go_sem]);have X:=za4 B (b:=w.heap.size+1) (o:=0) (v:=false) (by simp) (by simp[go_sem]);have f1:=za4 B (b:=w.heap.size+1) (o:=1) (v:=false) (by simp) (by simp[go_sem]);have O:Below w.heap.size w F:=zae (zae (zaa _ _) (zaa _ _)) B;clear B;go_wp2
 go_loopw [13] (fun i wr=>∃k:Nat,k≤37∧i=.int .i64 k∧Hid (wr.ownsRow F.heap.size 9 1 (.slice (some ⟨F.heap.size,0,none⟩) 37 37) 37 (fill (ze8 d k) (37 - k)))∧Below F.heap.size F wr) (fun i _=>37 - (intOf i).toNat)
 case atStart=>exact⟨0,Nat.zero_le _,rfl,zp2 _ _ (Nat.le_refl _),zaa _ _⟩
 case round=>
  obtain⟨k,hk,rfl,D,A⟩:=hrel;have A4:=A.size;by_cases hlt:k<37
  ·have A0:(k:Int)<37:=by omega
   have y:=zac A (by omega) Z;have z1:=zac A (by omega) s;clear R;go_wp2_with fail;refine(zut _ d k _ (r.o.below (zae O A)) Q.o.1 hlt Q.o.2).mono ?_;rintro e w3 ⟨rfl,L⟩;have C:=zah D.o L;rw[show 37 - k=(36 - k)+1 from by omega]at C;have p:=zp4 C;have I:=zp3 C (zci d k);rw[zdq]at p I;obtain⟨⟨u,hu⟩,A7,A1,A5,_⟩:=p;have q:=zab I;clear C I D y z1;go_wp2
   go_roundw
   case rel=>
    refine⟨k+1,by omega,by go_num,?_,?_⟩
    ·rw[zsk,show 37 - (k+1)=36 - k from by omega];exact q
    ·exact(zae A L).setCell (by simp) _
   case measure=>simp[intOf];omega
  ·have e:k=37:=by omega
   have E:=D.o;rw[e,show 37 - 37=0 from rfl,zp1]at E;obtain⟨a2,c2,K,N,M⟩:=SegS.of_owns E;have J:=zab M;have n:=zab N;have S:=zac A (by omega) Y;have U:=zac A (by omega) j;have A2:=za4 A (by omega) X;have A3:=za4 A (by omega) f1;rw[zdq]at K;simp only[Value.slice.injEq]at K;obtain⟨l,_,m⟩:=K;subst l m;clear D E N M Y j X f1 Z s R e;go_wp2;refine bodyPost_ret (v:=.tuple #[.agg #[.slice (some ⟨F.heap.size,0,none⟩) 37 37,.slice none 0 0],.int .i64 0]) (by simp[results,results108,go_sem,S,U]) rfl ⟨_,rfl,⟨some ⟨F.heap.size,0,none⟩,37,none,0,?_,?_,.inl rfl,?_,?_⟩,?_,⟨_,_,_,_,_,_,rfl,fun b off e=>by cases e;omega,fun _ _ e=>by cases e⟩⟩
   ·simp only[zdq];rfl
   ·exact(n.o.setCell J.o (by simp;omega) _).setCell J.o (by simp;omega) _
   ·show(ze8 d 37).length≤maxLen;rw[zdq];decide
   ·exact Nat.zero_le _
   ·exact((zae O A).setCell (by simp) _).setCell (by simp) _
theorem zvs(v:Value)(d:Dk)(w:World)(h:IsDk w v d):
  Calls prog 108 #[v] w fun e w'=>∃v2,e=.returned (.tuple #[v2,.int .i64 (ziv d)])∧IsDk w' v2 (zcp d)∧(ziv d≠0→v2=v)∧Below w.heap.size w w'∧(v2=v∨DkFrom w.heap.size v2):=by
 cases hg:za3 d with
 |false=>
  have A:ziv d=2:=by simp[ziv,hg]
  have B:zcp d=d:=by simp[zcp,hg]
  rw[A,B];exact(z13 v d w h hg).mono fun e w' he=>⟨v,he.1,h.below he.2,fun _=>rfl,he.2,.inl rfl⟩
 |true=>
  have A:ziv d=0:=by simp[ziv,hg]
  have B:zcp d=⟨ze8 d 37,[]⟩:=by simp[zcp,hg]
  rw[A,B]
  exact(z14 v d w h hg).mono fun e w' he=>by
   obtain⟨v2,C,E,F,D⟩:=he;exact⟨v2,C,E,fun h=>absurd rfl h,F,.inr D⟩
theorem zsx(n:Int)(z:ByteArray)(l:List (Int×ByteArray))(hz:zbb z=true)(h:l.all wrB=true):zbb (zeb n z l)=true:=by
 induction l generalizing z with
 |nil=>exact hz
 |cons x r ih=>
  simp only[List.all_cons,Bool.and_eq_true]at h;refine ih _ ?_ h.2;by_cases e:x.1=n
  ·rw[if_pos e];have:=h.1;simp only[wrB,Bool.and_eq_true]at this;exact this.2
  ·rw[if_neg e];exact hz
theorem zft{d:Dk}(h:za3 d=true):d.safe.length=37∧d.wr.length≤200∧d.safe.all zbb=true∧d.wr.all wrB=true:=by
 simp only[za3,Bool.and_eq_true,decide_eq_true_eq]at h;exact⟨h.1.1.1,h.1.1.2,h.1.2,h.2⟩
theorem zqc{d:Dk}(h:za3 d=true)(k:Nat)(hk:k<37):zbb (d.safe.getD k ByteArray.empty)=true:=by
 obtain⟨h1,_,A,_⟩:=zft h;rw[List.all_eq_true]at A;exact A _ (List.mem_of_getElem? (zeq d.safe k ByteArray.empty (by omega)))
theorem zy2{d:Dk}(h:za3 d=true)(k:Nat)(hk:k<37):zbb (zci d k)=true:=
 zsx _ _ _ (by rw[Int.toNat_natCast];exact zqc h k hk) (zft h).2.2.2
theorem zsy(n:Int)(l:List (Int×ByteArray))(s:ByteArray)(h:s∈zck n l):(n,s)∈l:=by
 induction l with
 |nil=>simp[zck]at h
 |cons x r ih=>
  by_cases e:x.1=n
  ·simp only[zck,if_pos e,List.mem_cons]at h;rcases h with rfl|h
   ·rw[←e];simp
   ·exact List.mem_cons_of_mem _ (ih h)
  ·simp only[zck,if_neg e]at h;exact List.mem_cons_of_mem _ (ih h)
theorem z2e{d:Dk}{n:Nat}{s:ByteArray}(h:s∈ways d n):s=d.safe.getD n ByteArray.empty∨((n:Int),s)∈d.wr:=by
 simp only[ways,List.mem_cons]at h;rcases h with h|h
 ·exact .inl h
 ·exact .inr (zsy _ _ _ h)
theorem zy3{d:Dk}(h:za3 d=true){k:Nat}(hk:k<37){s:ByteArray}(hs:s∈ways d k):zbb s=true:=by
 rcases z2e hs with rfl|hm
 ·exact zqc h k hk
 ·have:=(zft h).2.2.2;rw[List.all_eq_true]at this;have:=this _ hm;simp only[wrB,Bool.and_eq_true]at this;exact this.2
theorem zsz{l:List ByteArray}{f:ByteArray→Bool}(h:∀k,k<l.length→f (l.getD k ByteArray.empty)=true):l.all f=true:=by
 rw[List.all_eq_true];intro x C;obtain⟨k,A⟩:=List.getElem?_of_mem C;have B:=(List.getElem?_eq_some_iff.1 A).1;have:=h k B
 rwa [List.getD,A]at this
theorem zqd{l:List ByteArray}(hl:l.length=37)(h:∀k,k<37→zbb (l.getD k ByteArray.empty)=true):za3 ⟨l,[]⟩=true:=by
 simp only[za3,hl,zsz (l:=l) (f:=zbb) (fun k hk=>h k (by omega))];rfl
theorem zuz{d:Dk}(k m:Nat)(hk:k<m):(ze8 d m).getD k ByteArray.empty=zci d k:=by
 rw[ze8,List.getD,List.getElem?_map,List.getElem?_range hk];rfl
theorem zhp{d:Dk}(h:za3 d=true):za3 ⟨ze8 d 37,[]⟩=true:=
 zqd (zdq d 37) fun k hk=>by rw[zuz k 37 hk];exact zy2 h k hk
theorem zhq{k:Nat}(hk:k<37):zb0 (k:Int)=true:=by simp[zb0];omega
theorem zg2{l:List ByteArray}(h:za3 ⟨l,[]⟩=true){k:Nat}(hk:k<37):zal ⟨l,[]⟩ k=l.getD k ByteArray.empty:=by
 rw[zal,h,zhq hk];show zci ⟨l,[]⟩ k=_;rw[zci,Int.toNat_natCast];rfl
theorem znp{d:Dk}(h:za3 d=true){k:Nat}(hk:k<37):zal ⟨ze8 d 37,[]⟩ k=zal d k:=by
 rw[zg2 (zhp h) hk,zuz k 37 hk,zal,h,zhq hk];rfl
theorem zov{d:Dk}{n:Int}{s:ByteArray}(h:zid d n s=0):za3 d=true∧zb0 n=true∧zbb s=true∧¬d.wr.length=200:=by
 unfold zid at h;by_cases h1:(za3 d&&zb0 n)=true
 ·rw[if_pos h1]at h;by_cases h2:zbb s=true
  ·rw[if_pos h2]at h;by_cases h3:d.wr.length=200
   ·rw[if_pos h3]at h;cases h
   ·simp at h1;exact⟨h1.1,h1.2,h2,h3⟩
  ·rw[if_neg h2]at h;cases h
 ·rw[if_neg h1]at h;cases h
theorem zew{d:Dk}{n:Int}{s:ByteArray}(h:zid d n s=0):zhn d n s=⟨d.safe,d.wr++[(n,s)]⟩:=by rw[zhn,if_pos h]
theorem z4c{d:Dk}{n:Int}{s:ByteArray}(h:zid d n s≠0):zhn d n s=d:=by rw[zhn,if_neg h]
theorem zd7{d:Dk}{n:Int}{s:ByteArray}(h:zid d n s=0):za3 (zhn d n s)=true:=by
 rw[zew h];obtain⟨A,F,B,hl⟩:=zov h;simp only[za3,Bool.and_eq_true,decide_eq_true_eq]at A⊢;obtain⟨⟨⟨D,h2⟩,C⟩,E⟩:=A;refine⟨⟨⟨D,?_⟩,C⟩,?_⟩
 ·simp;omega
 ·rw[List.all_append,E];simp[wrB,F,B]
theorem zlb(d:Dk)(n m:Int)(s:ByteArray):zci ⟨d.safe,d.wr++[(n,s)]⟩ m=if n=m then s else zci d m:=zic _ _ _ _
theorem zow{d:Dk}{n:Int}{s:ByteArray}(h:zid d n s=0):zal (zhn d n s) n=s∧readE (zhn d n s) n=0:=by
 have B:=zd7 h;have A:=(zov h).2.1;rw[zal,readE,B,A];refine⟨?_,rfl⟩;rw[zew h];simp[zlb]
theorem zwa{d:Dk}{n:Int}{s:ByteArray}(h:zid d n s=0)(m:Int):readE (zhn d n s) m=readE d m∧(m≠n→zal (zhn d n s) m=zal d m):=by
 have B:=zd7 h;have A:=(zov h).1;rw[zal,readE,zal,readE,B,A];refine⟨rfl,fun hne=>?_⟩;have e:zci (zhn d n s) m=zci d m:=by rw[zew h,zlb,if_neg (fun e=>hne e.symm)]
 rw[e]
open Go.Proofs.Tryz
theorem zqx(b off c:Nat)(a':Option Addr)(c':Nat)(d:Dk)(n:Nat)(w:World)(hn:d.safe.length=37)(hp:n<37)(hm:d.wr.length≤200)(hb:b<w.heap.size)
  (hc:∀i,i<d.safe.length→w.cell? ⟨b,off+i,none⟩=some (.string (d.safe.getD i ByteArray.empty))) (hw:SegW w a' d.wr):
  Calls prog 112 #[.agg #[.slice (some ⟨b,off,none⟩) 37 c,.slice a' d.wr.length c'],.int .i64 n] w fun e w'=>∃v',e=.returned v'∧w'.ownsRow w.heap.size 9 1 v' (ways d n).length (cellsS (ways d n))∧Below w.heap.size w w':=by
 have HW:=zab hw;obtain⟨z,O⟩:∃z,z=d.safe.getD n ByteArray.empty:=⟨_,rfl⟩;have X:=hc n (by omega);rw[←O]at X;have A1:(n:Int)<37:=by omega
 have y:Hid (zdc d n 0=[z]):=by rw[O];rfl
 clear hn hw hc O;obtain⟨r,hi,q,Z,l⟩:=info_parts z4y;go_enter func112,ntmps112;go_wp2
 go_loopw [5,17] (fun v i wr=>∃k:Nat,k≤d.wr.length∧i=.int .i64 k∧Hid (wr.ownsRow w.heap.size 9 1 v (zdc d n k).length (cellsS (zdc d n k)))∧Below w.heap.size w wr) (fun _ i _=>d.wr.length - (intOf i).toNat)
 case atStart=>
  refine⟨0,Nat.zero_le _,rfl,?_,zae (zaa _ _) (zaa _ _)⟩;rw[y.o];have h:=World.ownsRow_lit (e:=9) (size:=1) (w.alloc (Obj.cells #[.slice (some ⟨b,off,none⟩) 37 c,.slice a' d.wr.length c'] 46)) #[.string z] 1 (zaa w _).size (by decide) rfl;unfold Hid
  simpa[cellsS] using h
 case round=>
  obtain⟨k,U,rfl,A,C⟩:=hrel;have N:=C.size;by_cases hlt:k<d.wr.length
  ·obtain⟨b',A0,rfl,M,K⟩:=HW.o.resolve_left (by intro e;rw[e]at hlt;simp at hlt);obtain⟨x,R⟩:∃x,x=d.wr.getD k (0,ByteArray.empty):=⟨_,rfl⟩;obtain⟨E,F⟩:=K k hlt;rw[←R]at E F;have a:Hid (d.wr[k]?=some x):=by rw[R];exact zeq _ _ _ hlt
   clear R K;have g1:=zac C M E;have g2:=zac C M F;clear E F;have hl:=zi5 d n k hm;obtain⟨m,s⟩:=x;by_cases he:m=n
   ·have Y:(m==(n:Int))=true:=by rw[he];simp
    have I:Hid (zdc d n (k+1)=zdc d n k++[s]):=zv9 d n k (m,s) a.o he;clear he;go_wp2_with (at_builtin;refine wpList_append_own _ rfl _ _ 43 rfl w.heap.size 9 r (.string ⟨#[]⟩) 1 16 underlying43 hi q Z l rfl (by decide) _ _ _ rfl ((A.o.alloc _).alloc _) ⟨wr.heap.size+1,0,none⟩ 1 1 (cellsS [s]) rfl ?qc1 ?qc2 ?qc3 ?qc4 ?qc5 ?qc6 ?_)
    case qc1=>rfl
    case qc2=>
     intro j u J
     match j,J with
     |0,J=>simp[cellsS]at J;subst J;simp[go_sem]
    case qc3=>exact znb
    case qc4=>unfold maxLen;omega
    case qc5=>omega
    case qc6=>omega
    intro v4 w4 B D _;have p:Below w.heap.size w w4:=((C.alloc N _).alloc (by simp;omega) _).grown D (by simp;omega) (fun k U=>(A.o.lt k U).1);rw[←ziu,←I.o]at B;have Q:(zdc d n k).length+1=(zdc d n (k+1)).length:=by rw[I.o];simp
    rw[Q]at B;have S:=zab B;clear B D A C;go_wp2
    go_roundw
    case rel=>exact⟨k+1,by omega,by go_num,S,p⟩
    case measure=>simp[intOf];omega
   ·have Y:(m==(n:Int))=false:=by simpa using he
    have I:Hid (zdc d n (k+1)=zdc d n k):=zsw d n k (m,s) a.o he;have S:=zab (A.o.alloc (Obj.cells #[Value.int IntKind.i64 m,Value.string s] 82));clear he A;go_wp2
    go_roundw
    case rel=>exact⟨k+1,by omega,by go_num,by rw[I.o];exact S,C.alloc N _⟩
    case measure=>simp[intOf];omega
  ·have e:k=d.wr.length:=by omega
   have L:zdc d n k=ways d n:=by rw[e,zdc,List.take_length];rfl
   rw[L]at A;clear L e;go_wp2;go_ret;exact⟨_,rfl,A.o,C⟩
theorem zs9(v:Value)(d:Dk)(n:Nat)(w:World)(h:IsDk w v d)(hn:d.safe.length=37)(hp:n<37)(hm:d.wr.length≤200):
  Calls prog 112 #[v,.int .i64 n] w fun e w'=>∃v',e=.returned v'∧w'.ownsRow w.heap.size 9 1 v' (ways d n).length (cellsS (ways d n))∧Below w.heap.size w w':=by
 obtain⟨a,c,B,D,rfl,E,F,h1,h2⟩:=h;obtain⟨b,A,rfl,hb,C⟩:=E.resolve_left (by intro e;rw[e]at hn;simp at hn);have:=zqx b A c B D d n w hn hp hm hb C F;rw[←hn]at this;exact this
def zdn (d:Dk)(q:Nat):Nat→List ByteArray×Nat
 |0=>([],q)
 |k+1=>((zdn d q k).1++[(ways d k).getD ((zdn d q k).2%(ways d k).length) ByteArray.empty],(zdn d q k).2/(ways d k).length)
def crashK (d:Dk)(q:Int):Dk:=if(za3 d&&decide (0≤q))=true then⟨(zdn d q.toNat 37).1,[]⟩ else d
def crashE (d:Dk)(q:Int):Int:=if(za3 d&&decide (0≤q))=true then 0 else 2
theorem zc8(d:Dk)(q k:Nat):(zdn d q k).1.length=k:=by
 induction k with
 |zero=>rfl
 |succ k ih=>simp[zdn,ih]
theorem zzn(d:Dk)(q k:Nat):(zdn d q k).2≤q:=by
 induction k with
 |zero=>exact Nat.le_refl _
 |succ k ih=>exact Nat.le_trans (Nat.div_le_self _ _) ih
theorem zta(d:Dk)(n:Nat)(h:d.wr.length≤200):1≤(ways d n).length∧(ways d n).length≤201:=by
 have:=zi5 d n d.wr.length h;rw[zdc,List.take_length]at this;exact this
theorem z2o(v:Value)(d:Dk)(q:Int)(w:World)(h:IsDk w v d)(hno:(za3 d&&decide (0≤q))=false):
  Calls prog 75 #[v,.int .i64 q] w fun e w'=>e=.returned (.tuple #[v,.int .i64 2])∧Below w.heap.size w w':=by
 have I:Hid (IsDk w v d):=h;obtain⟨a,c,K,F,rfl,_,_,_,_⟩:=h
 cases hg:za3 d with
 |false=>
  clear hno;go_enter func75,ntmps75;go_wp2_with fail;refine(zc4 _ d _ (I.o.below (zae (zaa _ _) (zaa _ _)))).mono ?_;rintro e C ⟨rfl,A⟩;obtain⟨D,E⟩:=zpx A;have J:w.heap.size+1<C.heap.size:=by have:=A.size;simp at this;omega
  go_wp2;refine bodyPost_ret (v:=.tuple #[.agg #[.slice a d.safe.length c,.slice K d.wr.length F],.int .i64 2]) (by simp[results,results75,go_sem,D]) rfl ⟨rfl,?_⟩;have B:Below w.heap.size w C:=zae (zae (zaa _ _) (zaa _ _)) A;exact(B.setCell (by simp) _).setCell (by simp) _
 |true=>
  have hq:q<0:=by simpa[hg] using hno
  clear hno;go_enter func75,ntmps75;go_wp2_with fail;refine(zc4 _ d _ (I.o.below (zae (zaa _ _) (zaa _ _)))).mono ?_;rintro e C ⟨rfl,A⟩;obtain⟨D,E⟩:=zpx A;have J:w.heap.size+1<C.heap.size:=by have:=A.size;simp at this;omega
  go_wp2;refine bodyPost_ret (v:=.tuple #[.agg #[.slice a d.safe.length c,.slice K d.wr.length F],.int .i64 2]) (by simp[results,results75,go_sem,D]) rfl ⟨rfl,?_⟩;have B:Below w.heap.size w C:=zae (zae (zaa _ _) (zaa _ _)) A;exact(B.setCell (by simp) _).setCell (by simp) _
theorem z2p(v:Value)(d:Dk)(q:Nat)(w:World)(h:IsDk w v d)(hg:za3 d=true)(hq:q≤9223372036854775807):
  Calls prog 75 #[v,.int .i64 q] w fun e w'=>∃v2,e=.returned (.tuple #[v2,.int .i64 0])∧IsDk w' v2 ⟨(zdn d q 37).1,[]⟩∧Below w.heap.size w w'∧DkFrom w.heap.size v2:=by
 have HI:Hid (IsDk w v d):=h;obtain⟨a,c,a',c',rfl,_,_,_,_⟩:=h;have M:=zab (zeh hg);have n:=z3p;go_enter func75,ntmps75;go_wp2_with fail;refine(zc4 _ d _ (HI.o.below (zae (zaa _ _) (zaa _ _)))).mono ?_;rintro e F ⟨rfl,B⟩;have B6:w.heap.size+1<F.heap.size:=by have:=B.size;simp at this;omega
 have x0:=zac B (b:=w.heap.size) (o:=0) (v:=.slice a d.safe.length c) (by simp;omega) (by simp[go_sem]);have x1:=zac B (b:=w.heap.size) (o:=1) (v:=.slice a' d.wr.length c') (by simp;omega) (by simp[go_sem]);have y0:=zac B (b:=w.heap.size+1) (o:=0) (v:=.slice none 0 0) (by simp) (by simp[go_sem]);have y1:=zac B (b:=w.heap.size+1) (o:=1) (v:=.slice none 0 0) (by simp) (by simp[go_sem]);have f0:=za4 B (b:=w.heap.size+1) (o:=0) (v:=false) (by simp) (by simp[go_sem]);have f1:=za4 B (b:=w.heap.size+1) (o:=1) (v:=false) (by simp) (by simp[go_sem]);have j:Below w.heap.size w F:=zae (zae (zaa _ _) (zaa _ _)) B;clear B;go_wp2
 go_loopw [1,20] (fun r i wr=>∃k:Nat,k≤37∧i=.int .i64 k∧r=.int .i64 ((zdn d q k).2:Nat)∧Hid (wr.ownsRow F.heap.size 9 1 (.slice (some ⟨F.heap.size,0,none⟩) 37 37) 37 (fill (zdn d q k).1 (37 - k)))∧Below F.heap.size F wr) (fun _ i _=>37 - (intOf i).toNat)
 case atStart=>exact⟨0,Nat.zero_le _,rfl,rfl,zp2 _ _ (Nat.le_refl _),zaa _ _⟩
 case round=>
  obtain⟨k,hk,rfl,rfl,D,A⟩:=hrel;have B4:=A.size;by_cases hlt:k<37
  ·have A6:(k:Int)<37:=by omega
   have z0:=zac A (by omega) x0;have z1:=zac A (by omega) x1;have A2:=zzn d q k;obtain⟨r,s⟩:∃r,r=(zdn d q k).2:=⟨_,rfl⟩;rw[←s]at A2⊢;clear n;go_wp2_with fail;refine(zs9 _ d k _ (HI.o.below (zae j A)) M.o.1 hlt M.o.2).mono ?_;rintro e w3 ⟨v3,rfl,I,X⟩;obtain⟨a3,c3,J,U,_⟩:=SegS.of_owns I;have p:=zta d k M.o.2;obtain⟨b3,o3,S,A7,m⟩:=U.resolve_left (by intro e;rw[e]at p;simp at p);obtain⟨t,y⟩:∃t,t=(ways d k).getD (r%(ways d k).length) ByteArray.empty:=⟨_,rfl⟩;have Y:=m (r%(ways d k).length) (Nat.mod_lt _ (by omega));rw[←y]at Y;have x:Hid (zdn d q (k+1)=((zdn d q k).1++[t],r/(ways d k).length)):=by rw[y,s];rfl
   obtain⟨L,l⟩:∃L,L=(ways d k).length:=⟨_,rfl⟩;rw[←l]at J p Y x;rw[J,S];have C:=zah D.o X;rw[show 37 - k=(36 - k)+1 from by omega]at C;have Q:=zp4 C;have K:=zp3 C t;rw[zc8]at Q K;obtain⟨⟨u,hu⟩,B7,A9,B5,_⟩:=Q;have A5:=zab K;clear C K D z0 z1 I U m S J l y s;have B8:0≤(r:Int)%(L:Int):=Int.emod_nonneg _ (by omega);have B3:(r:Int)%(L:Int)<(L:Int):=Int.emod_lt_of_pos _ (by omega);have A8:0≤(r:Int)/(L:Int):=Int.ediv_nonneg (by omega) (by omega);have B0:(r:Int)/(L:Int)≤9223372036854775807:=Int.le_trans (Int.ediv_le_self _ (by omega)) (by omega);go_wp2
   go_roundw
   case rel=>
    refine⟨k+1,by omega,by go_num,?_,?_,?_⟩
    ·rw[x.o];rfl
    ·rw[x.o,show 37 - (k+1)=36 - k from by omega];exact A5
    ·exact(zae A X).setCell (by simp) _
   case measure=>simp[intOf];omega
  ·have e:k=37:=by omega
   have E:=D.o;rw[e,show 37 - 37=0 from rfl,zp1]at E;obtain⟨a2,c2,O,Z,R⟩:=SegS.of_owns E;have N:=zab R;have A1:=zab Z;have A3:=zac A (by omega) y0;have z:=zac A (by omega) y1;have B1:=za4 A (by omega) f0;have B2:=za4 A (by omega) f1;rw[zc8]at O;simp only[Value.slice.injEq]at O;obtain⟨A0,_,A4⟩:=O;subst A0 A4;clear D E Z R y0 y1 f0 f1 x0 x1 n e;go_wp2;refine bodyPost_ret (v:=.tuple #[.agg #[.slice (some ⟨F.heap.size,0,none⟩) 37 37,.slice none 0 0],.int .i64 0]) (by simp[results,results75,go_sem,A3,z]) rfl ⟨_,rfl,⟨some ⟨F.heap.size,0,none⟩,37,none,0,?_,?_,.inl rfl,?_,?_⟩,?_,⟨_,_,_,_,_,_,rfl,fun b off e=>by cases e;omega,fun _ _ e=>by cases e⟩⟩
   ·simp only[zc8];rfl
   ·exact(A1.o.setCell N.o (by simp;omega) _).setCell N.o (by simp;omega) _
   ·show(zdn d q 37).1.length≤maxLen;rw[zc8];decide
   ·exact Nat.zero_le _
   ·exact((zae j A).setCell (by simp) _).setCell (by simp) _
theorem zwq(v:Value)(d:Dk)(q:Int)(w:World)(h:IsDk w v d)(hq:q≤9223372036854775807):
  Calls prog 75 #[v,.int .i64 q] w fun e w'=>∃v2,e=.returned (.tuple #[v2,.int .i64 (crashE d q)])∧IsDk w' v2 (crashK d q)∧(crashE d q≠0→v2=v)∧Below w.heap.size w w'∧(v2=v∨DkFrom w.heap.size v2):=by
 cases hg:(za3 d&&decide (0≤q)) with
 |false=>
  have A:crashE d q=2:=by simp only[crashE,hg];rfl
  have B:crashK d q=d:=by simp only[crashK,hg];rfl
  rw[A,B];exact(z2o v d q w h hg).mono fun e w' he=>⟨v,he.1,h.below he.2,fun _=>rfl,he.2,.inl rfl⟩
 |true=>
  have A:crashE d q=0:=by simp only[crashE,hg];rfl
  have B:crashK d q=⟨(zdn d q.toNat 37).1,[]⟩:=by simp only[crashK,hg];rfl
  simp at hg;obtain⟨n,rfl⟩:=Int.eq_ofNat_of_zero_le hg.2;rw[A,B];rw[Int.toNat_natCast]
  exact(z2p v d n w h hg.1 (by omega)).mono fun e w' he=>by
   obtain⟨v2,E,C,D,F⟩:=he;exact⟨v2,E,C,fun h=>absurd rfl h,D,.inr F⟩
theorem zu5{d:Dk}(q k m:Nat)(hk:k<m):(zdn d q m).1.getD k ByteArray.empty∈ways d k:=by
 induction m with
 |zero=>omega
 |succ m ih=>
  rw[zdn];have C:=zc8 d q m;by_cases e:k<m
  ·have:=ih e
   rwa [List.getD,List.getElem?_append_left (by omega)]
  ·have B:k=m:=by omega
   subst B;rw[List.getD,List.getElem?_append_right (by omega),C,Nat.sub_self];have A:(zdn d q k).2%(ways d k).length<(ways d k).length:=Nat.mod_lt _ (by simp[ways]);exact List.mem_of_getElem? (zeq _ _ ByteArray.empty A)
theorem zny{d:Dk}(h:za3 d=true)(q:Nat):za3 ⟨(zdn d q 37).1,[]⟩=true:=
 zqd (zc8 d q 37) fun k hk=>zy3 h hk (zu5 q k 37 hk)
open Go.Proofs.Tryz
theorem z4o(b off c:Nat)(s:ByteArray)(w:World)(hb:b<w.heap.size)(hc:w.cell? ⟨b,off,none⟩=some (.string s)):
  Calls prog 104 #[.slice (some ⟨b,off,none⟩) 1 c,.int .i64 37] w fun e w'=>∃v',e=.returned v'∧w'.ownsRow w.heap.size 9 1 v' 37 (cellsS (List.replicate 37 s))∧Below w.heap.size w w':=by
 have A5:=z43 s;go_enter func104,ntmps104;go_wp2_with fail;refine(z11 _).mono ?_;rintro e w1 ⟨rfl,rfl⟩;go_wp2_with (refine wpList_copy_splice rfl (.tmp 31) (.tmp 32) 43 43 rfl 9 underlying43 z42 _ _ _ _ _ _ rfl rfl w.heap.size 0 (row s 0 37) 9 ?qc1 (reps s 1) ?qc2 ?qc3 ?qc4 (zyh s 1) w.heap.size w ?qc5 (Nat.le_refl _) ?_)
 case qc1=>exact heap_alloc_new w _
 case qc2=>rw[zdf];rfl
 case qc3=>
  intro _ j v I;obtain⟨h0,rfl⟩:=zyg I;rw[show j=0 from by omega,Nat.add_zero];exact hc
 case qc4=>rw[znf,zdf];decide
 case qc5=>exact zaa _ _
 intro w2 A D;rw[zng]at A;go_wp2
 go_loopw [8] (fun i wr=>∃n:Nat,1≤n∧n≤37∧i=.int .i64 n∧Hid (wr.heap[w.heap.size]?=some (.cells (row s n (37 - n)).toArray 9 (0,0)))∧Below w.heap.size w wr) (fun i _=>37 - (intOf i).toNat)
 case atStart=>exact⟨1,by omega,by omega,rfl,A,D⟩
 case round=>
  obtain⟨n,h1,A3,rfl,B,F⟩:=hrel;clear A D;by_cases hlt:n<37
  ·have A1:(n:Int)<37:=by omega
   have A0:(n:Int)≤37:=by omega
   have A4:¬37=n:=by omega
   have A2:(reps s (min n (37 - n))).length≤37:=by rw[zdf];omega
   go_wp2
   go_region_law (refine step_copy_splice rfl (.tmp 41) (.tmp 44) 43 43 rfl 9 underlying43 z42 (some ⟨w.heap.size,n,none⟩) (some ⟨w.heap.size,0,none⟩) (37 - n) (37 - n) n 37 (by simp[Act.eval,Act.put]) (by simp[Act.eval,Act.put]) w.heap.size n (row s n (37 - n)) 9 B.o (reps s (min n (37 - n))) (by rw[zdf]) (fun _=>⟨rfl,⟨w.heap.size,0,none⟩,rfl,z34 B (Nat.min_le_left _ _)⟩) (by rw[znf,zdf];omega) (zyh s _) w.heap.size w F.drew (Nat.le_refl _) ?_;intro w4 C E)
   rw[zng]at C;go_wp2
   have K:IntKind.i64.wrap ((n:Int)+((reps s (min n (37 - n))).length:Int))=((n+min n (37 - n):Nat):Int):=by
    rw[zdf];rw[IntKind.wrap_i64];omega
   rw[K];refine⟨?_,?_⟩
   ·(repeat apply Exists.intro)
    exact⟨⟨n+min n (37 - n),by omega,by omega,rfl,by rw[show 37 - (n+min n (37 - n))=37 - n - min n (37 - n) from by omega];exact C,E⟩,rfl⟩
   ·simp[Act.put,intOf];omega
  ·have e:n=37:=by omega
   have J:Hid (wr.heap[w.heap.size]?=some (.cells (row s 37 0).toArray 9 (0,0))):=by have:=B.o;rw[e]at this;exact this
   clear e B;go_wp2;go_ret;refine⟨_,rfl,⟨by simp[cellsS],.inr ⟨w.heap.size,37,(row s 37 0).toArray,rfl,Nat.le_refl _,J.o,by omega,by decide,by simp[row],?_⟩⟩,F⟩;simp[row,cellsS]
theorem z4p(w:World):
  Calls prog 69 #[] w fun e w'=>∃g c,e=.returned (.agg #[.slice (some ⟨g,0,none⟩) 37 c,.slice none 0 0])∧w'.ownsRow w.heap.size 9 1 (.slice (some ⟨g,0,none⟩) 37 c) 37 (cellsS (List.replicate 37 (fitT ⟨#[]⟩)))∧Below w.heap.size w w':=by
 go_enter func69,ntmps69;go_wp2_with fail;refine(zgb ⟨#[]⟩ _ (by decide)).mono ?_;rintro e F ⟨rfl,B⟩;have D:w.heap.size<F.heap.size:=by have:=B.size;simp at this;omega
 generalize hz:fitT ⟨#[]⟩=z;have U:Hid (fitT ⟨#[]⟩=z):=hz;clear hz;go_wp2_with fail;refine(z4o _ _ _ z _ (by simp) (by simp[go_sem])).mono ?_;rintro e I ⟨R,rfl,C,E⟩;have K:=zab C
 obtain⟨g,c2,M⟩:∃g c2,R=.slice (some ⟨g,0,none⟩) 37 c2:=by
  rcases C.2 with⟨_,h0⟩|⟨g,cap,cur,e,_⟩
  ·cases h0
  ·exact⟨g,cap,e⟩
 subst M;have O:=zac B (b:=w.heap.size) (o:=0) (v:=.slice none 0 0) (by simp) (by simp[go_sem]);have Q:=zac B (b:=w.heap.size) (o:=1) (v:=.slice none 0 0) (by simp) (by simp[go_sem]);have N:=za4 B (b:=w.heap.size) (o:=0) (v:=false) (by simp) (by simp[go_sem]);have f1:=za4 B (b:=w.heap.size) (o:=1) (v:=false) (by simp) (by simp[go_sem]);have A:Below F.heap.size F I:=zae (zaa _ _) E;have J:=zac A D O;have L:=zac A D Q;have A0:=za4 A D N;have A1:=za4 A D f1;have S:Hid (Below w.heap.size w I):=zae (zae (zaa _ _) B) A;clear C O Q N f1 E;go_wp2;refine bodyPost_ret (v:=.agg #[.slice (some ⟨g,0,none⟩) 37 c2,.slice none 0 0]) (by simp[results,results69,go_sem,J,L]) rfl ⟨g,c2,rfl,?_,?_⟩
 ·rw[←U.o]at K;exact za6 (ownsRow_setCell_below (ownsRow_setCell_below K.o (a:=⟨w.heap.size,0,none⟩) (by simp;omega) _) (a:=⟨w.heap.size,1,none⟩) (by simp;omega) _) (by simp;omega)
 ·exact(S.o.setCell (by simp) _).setCell (by simp) _
