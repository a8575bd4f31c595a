/-
  
-/
import Derived.Test.YtjnpndfpajjihacGreatGrTopSettles7
import Derived.Laws.CopyOwn
set_option maxRecDepth 100000
set_option maxHeartbeats 40000000
namespace Go.Proofs.YtjnpndfpajjihacGreat
open Go.RowKit
def row (s:ByteArray)(n m:Nat):List Value:=List.replicate n (.string s)++List.replicate m (.string ⟨#[]⟩)
def reps (s:ByteArray)(k:Nat):List Value:=List.replicate k (.string s)
theorem zdf(s:ByteArray)(k:Nat):(reps s k).length=k:=by simp[reps]
theorem zyb{s:ByteArray}{k j:Nat}{u:Value}(h:(reps s k)[j]?=some u):j<k∧u=.string s:=by
 rw[reps,List.getElem?_replicate]at h;split at h
 ·exact⟨by assumption,by cases h;rfl⟩
 ·cases h
theorem zm1(s:ByteArray)(n m:Nat):(row s n m).length=n+m:=by simp[row]
theorem zm2(s:ByteArray)(n m k:Nat):splice (row s n m) n (reps s k)=row s (n+k) (m - k):=by
 have B:(row s n m).take n=List.replicate n (.string s):=by simp[row]
 have A:(row s n m).drop (n+k)=List.replicate (m - k) (.string ⟨#[]⟩):=by simp[row,List.drop_append]
 rw[splice,B,zdf,A,row,reps,←List.append_assoc,List.replicate_append_replicate]
theorem z1r(s:ByteArray)(n m j:Nat)(h:j<n):(row s n m)[j]?=some (.string s):=by
 rw[row,List.getElem?_append_left (by simpa using h)];simp[h]
theorem zyc(s:ByteArray)(k:Nat):∀u∈reps s k,u.oneCell'=true:=by
 intro u A;rw[List.eq_of_mem_replicate A];rfl
theorem z3x{s:ByteArray}{wr:World}{B n m k:Nat}(HG:Hid (wr.heap[B]?=some (.cells (row s n m).toArray 9 (0,0))))(hk:k≤n):
  ∀j v,(reps s k)[j]?=some v→wr.cell? ((⟨B,0,none⟩:Addr).add j)=some v:=by
 intro j v A;obtain⟨A0,rfl⟩:=zyb A;rw[Addr.add_lit,Nat.zero_add,cell_of_row wr B j _ 9 (0,0) HG.o]
 simpa using z1r s n m j (by omega)
theorem z4w:(Tryz.prog.info? 9).map (fun i=>i.size)=some 1:=by kernel_rfl
theorem z1s(w:World):Calls Tryz.prog 88 #[.int .u64 1,.int .u64 37] w fun e w'=>e=.returned (.tuple #[.int .u64 0,.int .u64 37])∧w=w':=by
 refine(Tryz.bits_Mul 1 37 (by decide) (by decide) w).mono ?_;rintro e w' ⟨rfl,rfl⟩;exact⟨rfl,rfl⟩
theorem z4x(s:ByteArray)(w:World):(Instr.makeSlice 43 (.int .i64 37) (.int .i64 37)).run Tryz.prog w=.ok (.slice (some ⟨w.heap.size,0,none⟩) 37 37) (w.alloc (.cells (row s 0 37).toArray 9)):=by kernel_rfl
open Go.Proofs.Tryz
def fill (l:List ByteArray)(m:Nat):List Value:=cellsS l++List.replicate m (.string ⟨#[]⟩)
theorem z1t(l:List ByteArray)(m:Nat)(s:ByteArray):(fill l (m+1)).set l.length (.string s)=fill (l++[s]) m:=by
 have A:(cellsS l).length=l.length:=by simp[cellsS]
 rw[fill,List.set_append_right _ _ (by omega),A,Nat.sub_self,List.replicate_succ,List.set_cons_zero,fill,zit,List.append_assoc];rfl
theorem zps(l:List ByteArray):fill l 0=cellsS l:=by simp[fill]
theorem z3y(l:List ByteArray)(m k:Nat)(h:k<l.length+m):∃u,(fill l m)[k]?=some u:=by
 have:k<(fill l m).length:=by simp[fill,cellsS];omega
 exact⟨_,List.getElem?_eq_getElem this⟩
theorem z3k(w:World):(Instr.makeSlice 43 (.int .i64 37) (.int .i64 37)).run prog w=.ok (.slice (some ⟨w.heap.size,0,none⟩) 37 37) (w.alloc (.cells (fill [] 37).toArray 9)):=by kernel_rfl
theorem zpt(w:World)(base:Nat)(hb:base≤w.heap.size):(w.alloc (.cells (fill [] 37).toArray 9)).ownsRow base 9 1 (.slice (some ⟨w.heap.size,0,none⟩) 37 37) 37 (fill [] 37):=by
 have:=World.ownsRow_lit (e:=9) (size:=1) w (fill [] 37).toArray 37 hb (by decide) (by simp[fill,cellsS])
 simpa using this
theorem zpu{w:World}{base g:Nat}{l:List ByteArray}{m:Nat}(h:w.ownsRow base 9 1 (.slice (some ⟨g,0,none⟩) 37 37) 37 (fill l (m+1)))(s:ByteArray):
  (w.setCell ⟨g,l.length,none⟩ (.string s)).ownsRow base 9 1 (.slice (some ⟨g,0,none⟩) 37 37) 37 (fill (l++[s]) m):=by
 have:=(h.stored l.length (.string s)).1
 rwa [z1t]at this
theorem zpv{w:World}{base g:Nat}{l:List ByteArray}{m:Nat}(h:w.ownsRow base 9 1 (.slice (some ⟨g,0,none⟩) 37 37) 37 (fill l (m+1))):
  (∃u,w.cell? ⟨g,l.length,none⟩=some u)∧w.frozen? ⟨g,l.length,none⟩=false∧base≤g∧g<w.heap.size∧l.length+(m+1)=37:=by
 have B:l.length+(m+1)=37:=by have:=h.1;simp[fill,cellsS]at this;omega
 obtain⟨u,C⟩:=z3y l (m+1) l.length (by omega);have A:=h.lt g rfl;exact⟨⟨u,by rw[h.cellAt _ (by omega)];exact C⟩,h.frozenAt _,A.1,A.2,B⟩
def zfe (d:Dk)(k:Nat):List ByteArray:=(List.range k).map fun n:Nat=>zcj d (n:Int)
def zcp (d:Dk):Dk:=if za0 d=true then⟨zfe d 37,[]⟩ else d
def zh7 (d:Dk):Int:=if za0 d=true then 0 else 2
theorem zds(d:Dk)(k:Nat):(zfe d k).length=k:=by simp[zfe]
theorem zsf(d:Dk)(k:Nat):zfe d (k+1)=zfe d k++[zcj d (k:Int)]:=by simp[zfe,List.range_succ]
theorem z1u(v:Value)(d:Dk)(w:World)(h:IsDk w v d)(hg:za0 d=false):
  Calls prog 108 #[v] w fun e w'=>e=.returned (.tuple #[v,.int .i64 2])∧Below w.heap.size w w':=by
 have E:Hid (IsDk w v d):=h;obtain⟨a,c,I,F,rfl,_,_,_,_⟩:=h;go_enter func108,ntmps108;go_wp2_with fail;refine(zc4 _ d _ (E.o.below (zae (zab _ _) (zab _ _)))).mono ?_;rintro e C ⟨rfl,A⟩;obtain⟨D,A1⟩:=zpn A;have A0:w.heap.size+1<C.heap.size:=by have:=A.size;simp at this;omega
 go_wp2;refine bodyPost_ret (v:=.tuple #[.agg #[.slice a d.safe.length c,.slice I d.wr.length F],.int .i64 2]) (by simp[results,results108,go_sem,D]) rfl ⟨rfl,?_⟩;have B:Below w.heap.size w C:=zae (zae (zab _ _) (zab _ _)) A;exact(B.setCell (by simp) _).setCell (by simp) _
theorem z1v(v:Value)(d:Dk)(w:World)(h:IsDk w v d)(hg:za0 d=true):
  Calls prog 108 #[v] w fun e w'=>∃v2,e=.returned (.tuple #[v2,.int .i64 0])∧IsDk w' v2 ⟨zfe d 37,[]⟩∧Below w.heap.size w w'∧DkFrom w.heap.size v2:=by
 have S:Hid (IsDk w v d):=h;obtain⟨a,c,a',y,rfl,_,_,_,_⟩:=h;have L:=zaa (zes hg);have O:=z3k;go_enter func108,ntmps108;go_wp2_with fail;refine(zc4 _ d _ (S.o.below (zae (zab _ _) (zab _ _)))).mono ?_;rintro e F ⟨rfl,B⟩;have A3:w.heap.size+1<F.heap.size:=by have:=B.size;simp at this;omega
 have X:=zac B (b:=w.heap.size) (o:=0) (v:=.slice a d.safe.length c) (by simp;omega) (by simp[go_sem]);have p:=zac B (b:=w.heap.size) (o:=1) (v:=.slice a' d.wr.length y) (by simp;omega) (by simp[go_sem]);have q:=zac B (b:=w.heap.size+1) (o:=0) (v:=.slice none 0 0) (by simp) (by simp[go_sem]);have j:=zac B (b:=w.heap.size+1) (o:=1) (v:=.slice none 0 0) (by simp) (by simp[go_sem]);have m:=za6 B (b:=w.heap.size+1) (o:=0) (v:=false) (by simp) (by simp[go_sem]);have f1:=za6 B (b:=w.heap.size+1) (o:=1) (v:=false) (by simp) (by simp[go_sem]);have M:Below w.heap.size w F:=zae (zae (zab _ _) (zab _ _)) B;clear B;go_wp2
 go_loopw [13] (fun i wr=>∃k:Nat,k≤37∧i=.int .i64 k∧Hid (wr.ownsRow F.heap.size 9 1 (.slice (some ⟨F.heap.size,0,none⟩) 37 37) 37 (fill (zfe d k) (37 - k)))∧Below F.heap.size F wr) (fun i _=>37 - (intOf i).toNat)
 case atStart=>exact⟨0,Nat.zero_le _,rfl,zpt _ _ (Nat.le_refl _),zab _ _⟩
 case round=>
  obtain⟨k,hk,rfl,E,A⟩:=hrel;have A4:=A.size;by_cases hlt:k<37
  ·have A0:(k:Int)<37:=by omega
   have z:=zac A (by omega) X;have x:=zac A (by omega) p;clear O;go_wp2_with fail;refine(zup _ d k _ (S.o.below (zae M A)) L.o.1 hlt L.o.2).mono ?_;rintro e w3 ⟨rfl,Q⟩;have C:=zah E.o Q;rw[show 37 - k=(36 - k)+1 from by omega]at C;have s:=zpv C;have I:=zpu C (zcj d k);rw[zds]at s I;obtain⟨⟨u,hu⟩,A6,A1,A5,_⟩:=s;have Y:=zaa I;clear C I E z x;go_wp2
   go_roundw
   case rel=>
    refine⟨k+1,by omega,by go_num,?_,?_⟩
    ·rw[zsf,show 37 - (k+1)=36 - k from by omega];exact Y
    ·exact(zae A Q).setCell (by simp) _
   case measure=>simp[intOf];omega
  ·have e:k=37:=by omega
   have D:=E.o;rw[e,show 37 - 37=0 from rfl,zps]at D;obtain⟨a2,c2,K,N,R⟩:=SegS.of_owns D;have J:=zaa R;have n:=zaa N;have Z:=zac A (by omega) q;have l:=zac A (by omega) j;have A2:=za6 A (by omega) m;have A7:=za6 A (by omega) f1;rw[zds]at K;simp only[Value.slice.injEq]at K;obtain⟨U,_,r⟩:=K;subst U r;clear E D N R q j m f1 X p O e;go_wp2;refine bodyPost_ret (v:=.tuple #[.agg #[.slice (some ⟨F.heap.size,0,none⟩) 37 37,.slice none 0 0],.int .i64 0]) (by simp[results,results108,go_sem,Z,l]) rfl ⟨_,rfl,⟨some ⟨F.heap.size,0,none⟩,37,none,0,?_,?_,.inl rfl,?_,?_⟩,?_,⟨_,_,_,_,_,_,rfl,fun b off e=>by cases e;omega,fun _ _ e=>by cases e⟩⟩
   ·simp only[zds];rfl
   ·exact(n.o.setCell J.o (by simp;omega) _).setCell J.o (by simp;omega) _
   ·show(zfe d 37).length≤maxLen;rw[zds];decide
   ·exact Nat.zero_le _
   ·exact((zae M A).setCell (by simp) _).setCell (by simp) _
theorem zvp(v:Value)(d:Dk)(w:World)(h:IsDk w v d):
  Calls prog 108 #[v] w fun e w'=>∃v2,e=.returned (.tuple #[v2,.int .i64 (zh7 d)])∧IsDk w' v2 (zcp d)∧(zh7 d≠0→v2=v)∧Below w.heap.size w w'∧(v2=v∨DkFrom w.heap.size v2):=by
 cases hg:za0 d with
 |false=>
  have B:zh7 d=2:=by simp[zh7,hg]
  have A:zcp d=d:=by simp[zcp,hg]
  rw[B,A];exact(z1u v d w h hg).mono fun e w' he=>⟨v,he.1,h.below he.2,fun _=>rfl,he.2,.inl rfl⟩
 |true=>
  have B:zh7 d=0:=by simp[zh7,hg]
  have A:zcp d=⟨zfe d 37,[]⟩:=by simp[zcp,hg]
  rw[B,A]
  exact(z1v v d w h hg).mono fun e w' he=>by
   obtain⟨v2,D,F,C,E⟩:=he;exact⟨v2,D,F,fun h=>absurd rfl h,C,.inr E⟩
theorem zss(n:Int)(z:ByteArray)(l:List (Int×ByteArray))(hz:zba z=true)(h:l.all wrB=true):zba (zem n z l)=true:=by
 induction l generalizing z with
 |nil=>exact hz
 |cons x r ih=>
  simp only[List.all_cons,Bool.and_eq_true]at h;refine ih _ ?_ h.2;by_cases e:x.1=n
  ·rw[if_pos e];have:=h.1;simp only[wrB,Bool.and_eq_true]at this;exact this.2
  ·rw[if_neg e];exact hz
theorem zhq{d:Dk}(h:za0 d=true):d.safe.length=37∧d.wr.length≤200∧d.safe.all zba=true∧d.wr.all wrB=true:=by
 simp only[za0,Bool.and_eq_true,decide_eq_true_eq]at h;exact⟨h.1.1.1,h.1.1.2,h.1.2,h.2⟩
theorem zp4{d:Dk}(h:za0 d=true)(k:Nat)(hk:k<37):zba (d.safe.getD k ByteArray.empty)=true:=by
 obtain⟨h1,_,A,_⟩:=zhq h;rw[List.all_eq_true]at A;exact A _ (List.mem_of_getElem? (ze1 d.safe k ByteArray.empty (by omega)))
theorem zyx{d:Dk}(h:za0 d=true)(k:Nat)(hk:k<37):zba (zcj d k)=true:=
 zss _ _ _ (by rw[Int.toNat_natCast];exact zp4 h k hk) (zhq h).2.2.2
theorem zst(n:Int)(l:List (Int×ByteArray))(s:ByteArray)(h:s∈zcl n l):(n,s)∈l:=by
 induction l with
 |nil=>simp[zcl]at h
 |cons x r ih=>
  by_cases e:x.1=n
  ·simp only[zcl,if_pos e,List.mem_cons]at h;rcases h with rfl|h
   ·rw[←e];simp
   ·exact List.mem_cons_of_mem _ (ih h)
  ·simp only[zcl,if_neg e]at h;exact List.mem_cons_of_mem _ (ih h)
theorem z17{d:Dk}{n:Nat}{s:ByteArray}(h:s∈ways d n):s=d.safe.getD n ByteArray.empty∨((n:Int),s)∈d.wr:=by
 simp only[ways,List.mem_cons]at h;rcases h with h|h
 ·exact .inl h
 ·exact .inr (zst _ _ _ h)
theorem zyy{d:Dk}(h:za0 d=true){k:Nat}(hk:k<37){s:ByteArray}(hs:s∈ways d k):zba s=true:=by
 rcases z17 hs with rfl|hm
 ·exact zp4 h k hk
 ·have:=(zhq h).2.2.2;rw[List.all_eq_true]at this;have:=this _ hm;simp only[wrB,Bool.and_eq_true]at this;exact this.2
theorem zsu{l:List ByteArray}{f:ByteArray→Bool}(h:∀k,k<l.length→f (l.getD k ByteArray.empty)=true):l.all f=true:=by
 rw[List.all_eq_true];intro x C;obtain⟨k,B⟩:=List.getElem?_of_mem C;have A:=(List.getElem?_eq_some_iff.1 B).1;have:=h k A
 rwa [List.getD,B]at this
theorem zp5{l:List ByteArray}(hl:l.length=37)(h:∀k,k<37→zba (l.getD k ByteArray.empty)=true):za0 ⟨l,[]⟩=true:=by
 simp only[za0,hl,zsu (l:=l) (f:=zba) (fun k hk=>h k (by omega))];rfl
theorem zuv{d:Dk}(k m:Nat)(hk:k<m):(zfe d m).getD k ByteArray.empty=zcj d k:=by
 rw[zfe,List.getD,List.getElem?_map,List.getElem?_range hk];rfl
theorem zhr{d:Dk}(h:za0 d=true):za0 ⟨zfe d 37,[]⟩=true:=
 zp5 (zds d 37) fun k hk=>by rw[zuv k 37 hk];exact zyx h k hk
theorem zhs{k:Nat}(hk:k<37):zbz (k:Int)=true:=by simp[zbz];omega
theorem zg3{l:List ByteArray}(h:za0 ⟨l,[]⟩=true){k:Nat}(hk:k<37):zal ⟨l,[]⟩ k=l.getD k ByteArray.empty:=by
 rw[zal,h,zhs hk];show zcj ⟨l,[]⟩ k=_;rw[zcj,Int.toNat_natCast];rfl
theorem znb{d:Dk}(h:za0 d=true){k:Nat}(hk:k<37):zal ⟨zfe d 37,[]⟩ k=zal d k:=by
 rw[zg3 (zhr h) hk,zuv k 37 hk,zal,h,zhs hk];rfl
theorem zoj{d:Dk}{n:Int}{s:ByteArray}(h:zie d n s=0):za0 d=true∧zbz n=true∧zba s=true∧¬d.wr.length=200:=by
 unfold zie at h;by_cases h1:(za0 d&&zbz n)=true
 ·rw[if_pos h1]at h;by_cases h2:zba s=true
  ·rw[if_pos h2]at h;by_cases h3:d.wr.length=200
   ·rw[if_pos h3]at h;cases h
   ·simp at h1;exact⟨h1.1,h1.2,h2,h3⟩
  ·rw[if_neg h2]at h;cases h
 ·rw[if_neg h1]at h;cases h
theorem ze5{d:Dk}{n:Int}{s:ByteArray}(h:zie d n s=0):zho d n s=⟨d.safe,d.wr++[(n,s)]⟩:=by rw[zho,if_pos h]
theorem z34{d:Dk}{n:Int}{s:ByteArray}(h:zie d n s≠0):zho d n s=d:=by rw[zho,if_neg h]
theorem zec{d:Dk}{n:Int}{s:ByteArray}(h:zie d n s=0):za0 (zho d n s)=true:=by
 rw[ze5 h];obtain⟨A,D,B,hl⟩:=zoj h;simp only[za0,Bool.and_eq_true,decide_eq_true_eq]at A⊢;obtain⟨⟨⟨F,h2⟩,E⟩,C⟩:=A;refine⟨⟨⟨F,?_⟩,E⟩,?_⟩
 ·simp;omega
 ·rw[List.all_append,C];simp[wrB,D,B]
theorem zk4(d:Dk)(n m:Int)(s:ByteArray):zcj ⟨d.safe,d.wr++[(n,s)]⟩ m=if n=m then s else zcj d m:=zid _ _ _ _
theorem zok{d:Dk}{n:Int}{s:ByteArray}(h:zie d n s=0):zal (zho d n s) n=s∧readE (zho d n s) n=0:=by
 have B:=zec h;have A:=(zoj h).2.1;rw[zal,readE,B,A];refine⟨?_,rfl⟩;rw[ze5 h];simp[zk4]
theorem zv7{d:Dk}{n:Int}{s:ByteArray}(h:zie d n s=0)(m:Int):readE (zho d n s) m=readE d m∧(m≠n→zal (zho d n s) m=zal d m):=by
 have B:=zec h;have A:=(zoj h).1;rw[zal,readE,zal,readE,B,A];refine⟨rfl,fun hne=>?_⟩;have e:zcj (zho d n s) m=zcj d m:=by rw[ze5 h,zk4,if_neg (fun e=>hne e.symm)]
 rw[e]
open Go.Proofs.Tryz
theorem zqp(b off c:Nat)(a':Option Addr)(c':Nat)(d:Dk)(n:Nat)(w:World)(hn:d.safe.length=37)(hp:n<37)(hm:d.wr.length≤200)(hb:b<w.heap.size)
  (hc:∀i,i<d.safe.length→w.cell? ⟨b,off+i,none⟩=some (.string (d.safe.getD i ByteArray.empty))) (hw:SegW w a' d.wr):
  Calls prog 112 #[.agg #[.slice (some ⟨b,off,none⟩) 37 c,.slice a' d.wr.length c'],.int .i64 n] w fun e w'=>∃v',e=.returned v'∧w'.ownsRow w.heap.size 9 1 v' (ways d n).length (cellsS (ways d n))∧Below w.heap.size w w':=by
 have HW:=zaa hw;obtain⟨z,S⟩:∃z,z=d.safe.getD n ByteArray.empty:=⟨_,rfl⟩;have Y:=hc n (by omega);rw[←S]at Y;have A1:(n:Int)<37:=by omega
 have H0:Hid (zdb d n 0=[z]):=by rw[S];rfl
 clear hn hw hc S;obtain⟨i0,y,Z,U,X⟩:=info_parts z4s;go_enter func112,ntmps112;go_wp2
 go_loopw [5,17] (fun v i wr=>∃k:Nat,k≤d.wr.length∧i=.int .i64 k∧Hid (wr.ownsRow w.heap.size 9 1 v (zdb d n k).length (cellsS (zdb d n k)))∧Below w.heap.size w wr) (fun _ i _=>d.wr.length - (intOf i).toNat)
 case atStart=>
  refine⟨0,Nat.zero_le _,rfl,?_,zae (zab _ _) (zab _ _)⟩;rw[H0.o];have h:=World.ownsRow_lit (e:=9) (size:=1) (w.alloc (Obj.cells #[.slice (some ⟨b,off,none⟩) 37 c,.slice a' d.wr.length c'] 46)) #[.string z] 1 (zab w _).size (by decide) rfl;unfold Hid
  simpa[cellsS] using h
 case round=>
  obtain⟨k,l,rfl,A,C⟩:=hrel;have M:=C.size;by_cases hlt:k<d.wr.length
  ·obtain⟨b',A0,rfl,K,N⟩:=HW.o.resolve_left (by intro e;rw[e]at hlt;simp at hlt);obtain⟨x,O⟩:∃x,x=d.wr.getD k (0,ByteArray.empty):=⟨_,rfl⟩;obtain⟨F,E⟩:=N k hlt;rw[←O]at F E;have p:Hid (d.wr[k]?=some x):=by rw[O];exact ze1 _ _ _ hlt
   clear O N;have g1:=zac C K F;have g2:=zac C K E;clear F E;have hl:=zi3 d n k hm;obtain⟨m,s⟩:=x;by_cases he:m=n
   ·have a:(m==(n:Int))=true:=by rw[he];simp
    have J:Hid (zdb d n (k+1)=zdb d n k++[s]):=zv6 d n k (m,s) p.o he;clear he;go_wp2_with (at_builtin;refine wpList_append_own _ rfl _ _ 43 rfl w.heap.size 9 i0 (.string ⟨#[]⟩) 1 16 underlying43 y Z U X rfl (by decide) _ _ _ rfl ((A.o.alloc _).alloc _) ⟨wr.heap.size+1,0,none⟩ 1 1 (cellsS [s]) rfl ?qc1 ?qc2 ?qc3 ?qc4 ?qc5 ?qc6 ?_)
    case qc1=>rfl
    case qc2=>
     intro j u I
     match j,I with
     |0,I=>simp[cellsS]at I;subst I;simp[go_sem]
    case qc3=>exact zmx
    case qc4=>unfold maxLen;omega
    case qc5=>omega
    case qc6=>omega
    intro v4 r B D _;have q:Below w.heap.size w r:=((C.alloc M _).alloc (by simp;omega) _).grown D (by simp;omega) (fun k l=>(A.o.lt k l).1);rw[←zit,←J.o]at B;have Q:(zdb d n k).length+1=(zdb d n (k+1)).length:=by rw[J.o];simp
    rw[Q]at B;have R:=zaa B;clear B D A C;go_wp2
    go_roundw
    case rel=>exact⟨k+1,by omega,by go_num,R,q⟩
    case measure=>simp[intOf];omega
   ·have a:(m==(n:Int))=false:=by simpa using he
    have J:Hid (zdb d n (k+1)=zdb d n k):=zsr d n k (m,s) p.o he;have R:=zaa (A.o.alloc (Obj.cells #[Value.int IntKind.i64 m,Value.string s] 82));clear he A;go_wp2
    go_roundw
    case rel=>exact⟨k+1,by omega,by go_num,by rw[J.o];exact R,C.alloc M _⟩
    case measure=>simp[intOf];omega
  ·have e:k=d.wr.length:=by omega
   have L:zdb d n k=ways d n:=by rw[e,zdb,List.take_length];rfl
   rw[L]at A;clear L e;go_wp2;go_ret;exact⟨_,rfl,A.o,C⟩
theorem zs4(v:Value)(d:Dk)(n:Nat)(w:World)(h:IsDk w v d)(hn:d.safe.length=37)(hp:n<37)(hm:d.wr.length≤200):
  Calls prog 112 #[v,.int .i64 n] w fun e w'=>∃v',e=.returned v'∧w'.ownsRow w.heap.size 9 1 v' (ways d n).length (cellsS (ways d n))∧Below w.heap.size w w':=by
 obtain⟨a,c,D,C,rfl,B,A,h1,h2⟩:=h;obtain⟨b,off,rfl,hb,E⟩:=B.resolve_left (by intro e;rw[e]at hn;simp at hn);have:=zqp b off c D C d n w hn hp hm hb E A;rw[←hn]at this;exact this
def zdn (d:Dk)(q:Nat):Nat→List ByteArray×Nat
 |0=>([],q)
 |k+1=>((zdn d q k).1++[(ways d k).getD ((zdn d q k).2%(ways d k).length) ByteArray.empty],(zdn d q k).2/(ways d k).length)
def crashK (d:Dk)(q:Int):Dk:=if(za0 d&&decide (0≤q))=true then⟨(zdn d q.toNat 37).1,[]⟩ else d
def crashE (d:Dk)(q:Int):Int:=if(za0 d&&decide (0≤q))=true then 0 else 2
theorem zc9(d:Dk)(q k:Nat):(zdn d q k).1.length=k:=by
 induction k with
 |zero=>rfl
 |succ k ih=>simp[zdn,ih]
theorem zzi(d:Dk)(q k:Nat):(zdn d q k).2≤q:=by
 induction k with
 |zero=>exact Nat.le_refl _
 |succ k ih=>exact Nat.le_trans (Nat.div_le_self _ _) ih
theorem zs5(d:Dk)(n:Nat)(h:d.wr.length≤200):1≤(ways d n).length∧(ways d n).length≤201:=by
 have:=zi3 d n d.wr.length h;rw[zdb,List.take_length]at this;exact this
theorem z2h(v:Value)(d:Dk)(q:Int)(w:World)(h:IsDk w v d)(hno:(za0 d&&decide (0≤q))=false):
  Calls prog 75 #[v,.int .i64 q] w fun e w'=>e=.returned (.tuple #[v,.int .i64 2])∧Below w.heap.size w w':=by
 have F:Hid (IsDk w v d):=h;obtain⟨a,c,K,I,rfl,_,_,_,_⟩:=h
 cases hg:za0 d with
 |false=>
  clear hno;go_enter func75,ntmps75;go_wp2_with fail;refine(zc4 _ d _ (F.o.below (zae (zab _ _) (zab _ _)))).mono ?_;rintro e C ⟨rfl,A⟩;obtain⟨D,J⟩:=zpn A;have E:w.heap.size+1<C.heap.size:=by have:=A.size;simp at this;omega
  go_wp2;refine bodyPost_ret (v:=.tuple #[.agg #[.slice a d.safe.length c,.slice K d.wr.length I],.int .i64 2]) (by simp[results,results75,go_sem,D]) rfl ⟨rfl,?_⟩;have B:Below w.heap.size w C:=zae (zae (zab _ _) (zab _ _)) A;exact(B.setCell (by simp) _).setCell (by simp) _
 |true=>
  have hq:q<0:=by simpa[hg] using hno
  clear hno;go_enter func75,ntmps75;go_wp2_with fail;refine(zc4 _ d _ (F.o.below (zae (zab _ _) (zab _ _)))).mono ?_;rintro e C ⟨rfl,A⟩;obtain⟨D,J⟩:=zpn A;have E:w.heap.size+1<C.heap.size:=by have:=A.size;simp at this;omega
  go_wp2;refine bodyPost_ret (v:=.tuple #[.agg #[.slice a d.safe.length c,.slice K d.wr.length I],.int .i64 2]) (by simp[results,results75,go_sem,D]) rfl ⟨rfl,?_⟩;have B:Below w.heap.size w C:=zae (zae (zab _ _) (zab _ _)) A;exact(B.setCell (by simp) _).setCell (by simp) _
theorem z2i(v:Value)(d:Dk)(q:Nat)(w:World)(h:IsDk w v d)(hg:za0 d=true)(hq:q≤9223372036854775807):
  Calls prog 75 #[v,.int .i64 q] w fun e w'=>∃v2,e=.returned (.tuple #[v2,.int .i64 0])∧IsDk w' v2 ⟨(zdn d q 37).1,[]⟩∧Below w.heap.size w w'∧DkFrom w.heap.size v2:=by
 have z:Hid (IsDk w v d):=h;obtain⟨a,c,a',c',rfl,_,_,_,_⟩:=h;have J:=zaa (zes hg);have U:=z3k;go_enter func75,ntmps75;go_wp2_with fail;refine(zc4 _ d _ (z.o.below (zae (zab _ _) (zab _ _)))).mono ?_;rintro e F ⟨rfl,B⟩;have B8:w.heap.size+1<F.heap.size:=by have:=B.size;simp at this;omega
 have x0:=zac B (b:=w.heap.size) (o:=0) (v:=.slice a d.safe.length c) (by simp;omega) (by simp[go_sem]);have x1:=zac B (b:=w.heap.size) (o:=1) (v:=.slice a' d.wr.length c') (by simp;omega) (by simp[go_sem]);have y0:=zac B (b:=w.heap.size+1) (o:=0) (v:=.slice none 0 0) (by simp) (by simp[go_sem]);have y1:=zac B (b:=w.heap.size+1) (o:=1) (v:=.slice none 0 0) (by simp) (by simp[go_sem]);have f0:=za6 B (b:=w.heap.size+1) (o:=0) (v:=false) (by simp) (by simp[go_sem]);have f1:=za6 B (b:=w.heap.size+1) (o:=1) (v:=false) (by simp) (by simp[go_sem]);have R:Below w.heap.size w F:=zae (zae (zab _ _) (zab _ _)) B;clear B;go_wp2
 go_loopw [1,20] (fun r i wr=>∃k:Nat,k≤37∧i=.int .i64 k∧r=.int .i64 ((zdn d q k).2:Nat)∧Hid (wr.ownsRow F.heap.size 9 1 (.slice (some ⟨F.heap.size,0,none⟩) 37 37) 37 (fill (zdn d q k).1 (37 - k)))∧Below F.heap.size F wr) (fun _ i _=>37 - (intOf i).toNat)
 case atStart=>exact⟨0,Nat.zero_le _,rfl,rfl,zpt _ _ (Nat.le_refl _),zab _ _⟩
 case round=>
  obtain⟨k,hk,rfl,rfl,E,A⟩:=hrel;have B1:=A.size;by_cases hlt:k<37
  ·have A7:(k:Int)<37:=by omega
   have z0:=zac A (by omega) x0;have z1:=zac A (by omega) x1;have A3:=zzi d q k;obtain⟨r,y⟩:∃r,r=(zdn d q k).2:=⟨_,rfl⟩;rw[←y]at A3⊢;clear U;go_wp2_with fail;refine(zs4 _ d k _ (z.o.below (zae R A)) J.o.1 hlt J.o.2).mono ?_;rintro e w3 ⟨v3,rfl,I,Z⟩;obtain⟨a3,c3,N,n,_⟩:=SegS.of_owns I;have s:=zs5 d k J.o.2;obtain⟨b3,o3,Y,A8,X⟩:=n.resolve_left (by intro e;rw[e]at s;simp at s);obtain⟨t,p⟩:∃t,t=(ways d k).getD (r%(ways d k).length) ByteArray.empty:=⟨_,rfl⟩;have Q:=X (r%(ways d k).length) (Nat.mod_lt _ (by omega));rw[←p]at Q;have x:Hid (zdn d q (k+1)=((zdn d q k).1++[t],r/(ways d k).length)):=by rw[p,y];rfl
   obtain⟨L,j⟩:∃L,L=(ways d k).length:=⟨_,rfl⟩;rw[←j]at N s Q x;rw[N,Y];have C:=zah E.o Z;rw[show 37 - k=(36 - k)+1 from by omega]at C;have l:=zpv C;have K:=zpu C t;rw[zc9]at l K;obtain⟨⟨u,hu⟩,B9,B6,B2,_⟩:=l;have A4:=zaa K;clear C K E z0 z1 I n X Y N j p y;have B0:0≤(r:Int)%(L:Int):=Int.emod_nonneg _ (by omega);have B4:(r:Int)%(L:Int)<(L:Int):=Int.emod_lt_of_pos _ (by omega);have A9:0≤(r:Int)/(L:Int):=Int.ediv_nonneg (by omega) (by omega);have B5:(r:Int)/(L:Int)≤9223372036854775807:=Int.le_trans (Int.ediv_le_self _ (by omega)) (by omega);go_wp2
   go_roundw
   case rel=>
    refine⟨k+1,by omega,by go_num,?_,?_,?_⟩
    ·rw[x.o];rfl
    ·rw[x.o,show 37 - (k+1)=36 - k from by omega];exact A4
    ·exact(zae A Z).setCell (by simp) _
   case measure=>simp[intOf];omega
  ·have e:k=37:=by omega
   have D:=E.o;rw[e,show 37 - 37=0 from rfl,zps]at D;obtain⟨a2,c2,O,S,m⟩:=SegS.of_owns D;have M:=zaa m;have A2:=zaa S;have A1:=zac A (by omega) y0;have A5:=zac A (by omega) y1;have B7:=za6 A (by omega) f0;have B3:=za6 A (by omega) f1;rw[zc9]at O;simp only[Value.slice.injEq]at O;obtain⟨A0,_,A6⟩:=O;subst A0 A6;clear E D S m y0 y1 f0 f1 x0 x1 U e;go_wp2;refine bodyPost_ret (v:=.tuple #[.agg #[.slice (some ⟨F.heap.size,0,none⟩) 37 37,.slice none 0 0],.int .i64 0]) (by simp[results,results75,go_sem,A1,A5]) rfl ⟨_,rfl,⟨some ⟨F.heap.size,0,none⟩,37,none,0,?_,?_,.inl rfl,?_,?_⟩,?_,⟨_,_,_,_,_,_,rfl,fun b off e=>by cases e;omega,fun _ _ e=>by cases e⟩⟩
   ·simp only[zc9];rfl
   ·exact(A2.o.setCell M.o (by simp;omega) _).setCell M.o (by simp;omega) _
   ·show(zdn d q 37).1.length≤maxLen;rw[zc9];decide
   ·exact Nat.zero_le _
   ·exact((zae R A).setCell (by simp) _).setCell (by simp) _
theorem zwn(v:Value)(d:Dk)(q:Int)(w:World)(h:IsDk w v d)(hq:q≤9223372036854775807):
  Calls prog 75 #[v,.int .i64 q] w fun e w'=>∃v2,e=.returned (.tuple #[v2,.int .i64 (crashE d q)])∧IsDk w' v2 (crashK d q)∧(crashE d q≠0→v2=v)∧Below w.heap.size w w'∧(v2=v∨DkFrom w.heap.size v2):=by
 cases hg:(za0 d&&decide (0≤q)) with
 |false=>
  have A:crashE d q=2:=by simp only[crashE,hg];rfl
  have B:crashK d q=d:=by simp only[crashK,hg];rfl
  rw[A,B];exact(z2h v d q w h hg).mono fun e w' he=>⟨v,he.1,h.below he.2,fun _=>rfl,he.2,.inl rfl⟩
 |true=>
  have A:crashE d q=0:=by simp only[crashE,hg];rfl
  have B:crashK d q=⟨(zdn d q.toNat 37).1,[]⟩:=by simp only[crashK,hg];rfl
  simp at hg;obtain⟨n,rfl⟩:=Int.eq_ofNat_of_zero_le hg.2;rw[A,B];rw[Int.toNat_natCast]
  exact(z2i v d n w h hg.1 (by omega)).mono fun e w' he=>by
   obtain⟨v2,D,F,E,C⟩:=he;exact⟨v2,D,F,fun h=>absurd rfl h,E,.inr C⟩
theorem zu1{d:Dk}(q k m:Nat)(hk:k<m):(zdn d q m).1.getD k ByteArray.empty∈ways d k:=by
 induction m with
 |zero=>omega
 |succ m ih=>
  rw[zdn];have B:=zc9 d q m;by_cases e:k<m
  ·have:=ih e
   rwa [List.getD,List.getElem?_append_left (by omega)]
  ·have C:k=m:=by omega
   subst C;rw[List.getD,List.getElem?_append_right (by omega),B,Nat.sub_self];have A:(zdn d q k).2%(ways d k).length<(ways d k).length:=Nat.mod_lt _ (by simp[ways]);exact List.mem_of_getElem? (ze1 _ _ ByteArray.empty A)
theorem znk{d:Dk}(h:za0 d=true)(q:Nat):za0 ⟨(zdn d q 37).1,[]⟩=true:=
 zp5 (zc9 d q 37) fun k hk=>zyy h hk (zu1 q k 37 hk)
open Go.Proofs.Tryz
theorem z4h(b off c:Nat)(s:ByteArray)(w:World)(hb:b<w.heap.size)(hc:w.cell? ⟨b,off,none⟩=some (.string s)):
  Calls prog 104 #[.slice (some ⟨b,off,none⟩) 1 c,.int .i64 37] w fun e w'=>∃v',e=.returned v'∧w'.ownsRow w.heap.size 9 1 v' 37 (cellsS (List.replicate 37 s))∧Below w.heap.size w w':=by
 have A3:=z4x s;go_enter func104,ntmps104;go_wp2_with fail;refine(z1s _).mono ?_;rintro e w1 ⟨rfl,rfl⟩;go_wp2_with (refine wpList_copy_splice rfl (.tmp 31) (.tmp 32) 43 43 rfl 9 underlying43 z4w _ _ _ _ _ _ rfl rfl w.heap.size 0 (row s 0 37) 9 ?qc1 (reps s 1) ?qc2 ?qc3 ?qc4 (zyc s 1) w.heap.size w ?qc5 (Nat.le_refl _) ?_)
 case qc1=>exact heap_alloc_new w _
 case qc2=>rw[zdf];rfl
 case qc3=>
  intro _ j v K;obtain⟨h0,rfl⟩:=zyb K;rw[show j=0 from by omega,Nat.add_zero];exact hc
 case qc4=>rw[zm1,zdf];decide
 case qc5=>exact zab _ _
 intro w2 A D;rw[zm2]at A;go_wp2
 go_loopw [8] (fun i wr=>∃n:Nat,1≤n∧n≤37∧i=.int .i64 n∧Hid (wr.heap[w.heap.size]?=some (.cells (row s n (37 - n)).toArray 9 (0,0)))∧Below w.heap.size w wr) (fun i _=>37 - (intOf i).toNat)
 case atStart=>exact⟨1,by omega,by omega,rfl,A,D⟩
 case round=>
  obtain⟨n,h1,A5,rfl,B,F⟩:=hrel;clear A D;by_cases hlt:n<37
  ·have A0:(n:Int)<37:=by omega
   have A1:(n:Int)≤37:=by omega
   have A4:¬37=n:=by omega
   have A2:(reps s (min n (37 - n))).length≤37:=by rw[zdf];omega
   go_wp2
   go_region_law (refine step_copy_splice rfl (.tmp 41) (.tmp 44) 43 43 rfl 9 underlying43 z4w (some ⟨w.heap.size,n,none⟩) (some ⟨w.heap.size,0,none⟩) (37 - n) (37 - n) n 37 (by simp[Act.eval,Act.put]) (by simp[Act.eval,Act.put]) w.heap.size n (row s n (37 - n)) 9 B.o (reps s (min n (37 - n))) (by rw[zdf]) (fun _=>⟨rfl,⟨w.heap.size,0,none⟩,rfl,z3x B (Nat.min_le_left _ _)⟩) (by rw[zm1,zdf];omega) (zyc s _) w.heap.size w F.drew (Nat.le_refl _) ?_;intro w4 C E)
   rw[zm2]at C;go_wp2
   have J:IntKind.i64.wrap ((n:Int)+((reps s (min n (37 - n))).length:Int))=((n+min n (37 - n):Nat):Int):=by
    rw[zdf];rw[IntKind.wrap_i64];omega
   rw[J];refine⟨?_,?_⟩
   ·(repeat apply Exists.intro)
    exact⟨⟨n+min n (37 - n),by omega,by omega,rfl,by rw[show 37 - (n+min n (37 - n))=37 - n - min n (37 - n) from by omega];exact C,E⟩,rfl⟩
   ·simp[Act.put,intOf];omega
  ·have e:n=37:=by omega
   have I:Hid (wr.heap[w.heap.size]?=some (.cells (row s 37 0).toArray 9 (0,0))):=by have:=B.o;rw[e]at this;exact this
   clear e B;go_wp2;go_ret;refine⟨_,rfl,⟨by simp[cellsS],.inr ⟨w.heap.size,37,(row s 37 0).toArray,rfl,Nat.le_refl _,I.o,by omega,by decide,by simp[row],?_⟩⟩,F⟩;simp[row,cellsS]
theorem z4i(w:World):
  Calls prog 69 #[] w fun e w'=>∃g c,e=.returned (.agg #[.slice (some ⟨g,0,none⟩) 37 c,.slice none 0 0])∧w'.ownsRow w.heap.size 9 1 (.slice (some ⟨g,0,none⟩) 37 c) 37 (cellsS (List.replicate 37 (fitT ⟨#[]⟩)))∧Below w.heap.size w w':=by
 go_enter func69,ntmps69;go_wp2_with fail;refine(zgt ⟨#[]⟩ _ (by decide)).mono ?_;rintro e F ⟨rfl,B⟩;have D:w.heap.size<F.heap.size:=by have:=B.size;simp at this;omega
 generalize hz:fitT ⟨#[]⟩=z;have U:Hid (fitT ⟨#[]⟩=z):=hz;clear hz;go_wp2_with fail;refine(z4h _ _ _ z _ (by simp) (by simp[go_sem])).mono ?_;rintro e I ⟨R,rfl,C,E⟩;have J:=zaa C
 obtain⟨g,c2,K⟩:∃g c2,R=.slice (some ⟨g,0,none⟩) 37 c2:=by
  rcases C.2 with⟨_,h0⟩|⟨g,cap,cur,e,_⟩
  ·cases h0
  ·exact⟨g,cap,e⟩
 subst K;have L:=zac B (b:=w.heap.size) (o:=0) (v:=.slice none 0 0) (by simp) (by simp[go_sem]);have N:=zac B (b:=w.heap.size) (o:=1) (v:=.slice none 0 0) (by simp) (by simp[go_sem]);have Q:=za6 B (b:=w.heap.size) (o:=0) (v:=false) (by simp) (by simp[go_sem]);have f1:=za6 B (b:=w.heap.size) (o:=1) (v:=false) (by simp) (by simp[go_sem]);have A:Below F.heap.size F I:=zae (zab _ _) E;have M:=zac A D L;have O:=zac A D N;have A0:=za6 A D Q;have A1:=za6 A D f1;have S:Hid (Below w.heap.size w I):=zae (zae (zab _ _) B) A;clear C L N Q f1 E;go_wp2;refine bodyPost_ret (v:=.agg #[.slice (some ⟨g,0,none⟩) 37 c2,.slice none 0 0]) (by simp[results,results69,go_sem,M,O]) rfl ⟨g,c2,rfl,?_,?_⟩
 ·rw[←U.o]at J;exact za8 (ownsRow_setCell_below (ownsRow_setCell_below J.o (a:=⟨w.heap.size,0,none⟩) (by simp;omega) _) (a:=⟨w.heap.size,1,none⟩) (by simp;omega) _) (by simp;omega)
 ·exact(S.o.setCell (by simp) _).setCell (by simp) _
