/-
  
-/
import Derived.Test.YtjnpndfpajjihacGreatFit
import Derived.Laws.CopyOwn
set_option maxRecDepth 100000
set_option maxHeartbeats 40000000
namespace Go.Proofs.YtjnpndfpajjihacGreat
open Go.RowKit
def row (s:ByteArray)(n m:Nat):List Value:=List.replicate n (.string s)++List.replicate m (.string ⟨#[]⟩)
def reps (s:ByteArray)(k:Nat):List Value:=List.replicate k (.string s)
theorem zc8 (s:ByteArray)(k:Nat):(reps s k).length=k:=by simp[reps]
theorem zxk {s:ByteArray}{k j:Nat}{u:Value}(h:(reps s k)[j]?=some u):j<k∧u=.string s:=by
 rw[reps,List.getElem?_replicate] at h;split at h
 ·exact⟨by assumption,by cases h;rfl⟩
 ·cases h
theorem zmv (s:ByteArray)(n m:Nat):(row s n m).length=n+m:=by simp[row]
theorem zmw (s:ByteArray)(n m k:Nat):splice (row s n m) n (reps s k)=row s (n+k) (m - k):=by
 have e1:(row s n m).take n=List.replicate n (.string s):=by simp[row]
 have e2:(row s n m).drop (n+k)=List.replicate (m - k) (.string ⟨#[]⟩):=by simp[row,List.drop_append]
 rw[splice,e1,zc8,e2,row,reps,←List.append_assoc,List.replicate_append_replicate]
theorem z0y (s:ByteArray)(n m j:Nat)(h:j<n):(row s n m)[j]?=some (.string s):=by
 rw[row,List.getElem?_append_left (by simpa using h)];simp[h]
theorem zxl (s:ByteArray)(k:Nat):∀u∈reps s k,u.oneCell'=true:=by
 intro u hu;rw[List.eq_of_mem_replicate hu];rfl
theorem z22 {s:ByteArray}{wr:World}{B n m k:Nat}(HG:Hid (wr.heap[B]?=some (.cells (row s n m).toArray 9 (0,0))))(hk:k≤n):
  ∀j v,(reps s k)[j]?=some v→wr.cell? ((⟨B,0,none⟩:Addr).add j)=some v:=by
 intro j v hj;obtain⟨hlt,rfl⟩:=zxk hj;rw[Addr.add_lit,Nat.zero_add,cell_of_row wr B j _ 9 (0,0) HG.o]
 simpa using z0y s n m j (by omega)
theorem z3x:(Tryz.prog.info? 9).map (fun i=>i.size)=some 1:=by kernel_rfl
theorem z0z (w:World):Calls Tryz.prog 88 #[.int .u64 1,.int .u64 37] w fun e w'=>e=.returned (.tuple #[.int .u64 0,.int .u64 37])∧w=w':=by
 refine(Tryz.bits_Mul 1 37 (by decide) (by decide) w).mono ?_;rintro e w' ⟨rfl,rfl⟩;exact⟨rfl,rfl⟩
theorem z3y (s:ByteArray)(w:World):(Instr.makeSlice 43 (.int .i64 37) (.int .i64 37)).run Tryz.prog w=.ok (.slice (some ⟨w.heap.size,0,none⟩) 37 37) (w.alloc (.cells (row s 0 37).toArray 9)):=by kernel_rfl
def fill (l:List ByteArray)(m:Nat):List Value:=cellsS l++List.replicate m (.string ⟨#[]⟩)
theorem z00 (l:List ByteArray)(m:Nat)(s:ByteArray):(fill l (m+1)).set l.length (.string s)=fill (l++[s]) m:=by
 have hl:(cellsS l).length=l.length:=by simp[cellsS]
 rw[fill,List.set_append_right _ _ (by omega),hl,Nat.sub_self,List.replicate_succ,List.set_cons_zero,fill,zig,List.append_assoc];rfl
theorem zpc (l:List ByteArray):fill l 0=cellsS l:=by simp[fill]
theorem z23 (l:List ByteArray)(m k:Nat)(h:k<l.length+m):∃u,(fill l m)[k]?=some u:=by
 have:k<(fill l m).length:=by simp[fill,cellsS];omega
 exact⟨_,List.getElem?_eq_getElem this⟩
theorem z2l (w:World):(Instr.makeSlice 43 (.int .i64 37) (.int .i64 37)).run Tryz.prog w=.ok (.slice (some ⟨w.heap.size,0,none⟩) 37 37) (w.alloc (.cells (fill [] 37).toArray 9)):=by kernel_rfl
theorem zpd (w:World)(base:Nat)(hb:base≤w.heap.size):(w.alloc (.cells (fill [] 37).toArray 9)).ownsRow base 9 1 (.slice (some ⟨w.heap.size,0,none⟩) 37 37) 37 (fill [] 37):=by
 have:=World.ownsRow_lit (e:=9) (size:=1) w (fill [] 37).toArray 37 hb (by decide) (by simp[fill,cellsS])
 simpa using this
theorem zpe {w:World}{base g:Nat}{l:List ByteArray}{m:Nat}(h:w.ownsRow base 9 1 (.slice (some ⟨g,0,none⟩) 37 37) 37 (fill l (m+1)))(s:ByteArray):
  (w.setCell ⟨g,l.length,none⟩ (.string s)).ownsRow base 9 1 (.slice (some ⟨g,0,none⟩) 37 37) 37 (fill (l++[s]) m):=by
 have:=(h.stored l.length (.string s)).1
 rwa [z00] at this
theorem zpf {w:World}{base g:Nat}{l:List ByteArray}{m:Nat}(h:w.ownsRow base 9 1 (.slice (some ⟨g,0,none⟩) 37 37) 37 (fill l (m+1))):
  (∃u,w.cell? ⟨g,l.length,none⟩=some u)∧w.frozen? ⟨g,l.length,none⟩=false∧base≤g∧g<w.heap.size∧l.length+(m+1)=37:=by
 have hlen:l.length+(m+1)=37:=by have:=h.1;simp[fill,cellsS] at this;omega
 obtain⟨u,hu⟩:=z23 l (m+1) l.length (by omega);have hlt:=h.lt g rfl;exact⟨⟨u,by rw[h.cellAt _ (by omega)];exact hu⟩,h.frozenAt _,hlt.1,hlt.2,hlen⟩
def zeu (d:Dk)(k:Nat):List ByteArray:=(List.range k).map fun n:Nat=>zce d (n:Int)
def zck (d:Dk):Dk:=if za1 d=true then⟨zeu d 37,[]⟩ else d
def zih (d:Dk):Int:=if za1 d=true then 0 else 2
theorem zdl (d:Dk)(k:Nat):(zeu d k).length=k:=by simp[zeu]
theorem zry (d:Dk)(k:Nat):zeu d (k+1)=zeu d k++[zce d (k:Int)]:=by simp[zeu,List.range_succ]
theorem z01 (v:Value)(d:Dk)(w:World)(h:IsDk w v d)(hg:za1 d=false):
  Calls Tryz.prog 108 #[v] w fun e w'=>e=.returned (.tuple #[v,.int .i64 2])∧Below w.heap.size w w':=by
 have HI:Hid (IsDk w v d):=h;obtain⟨a,c,a',c',rfl,_,_,_,_⟩:=h;go_enter Tryz.func108,Tryz.ntmps108;go_wp2_with fail;refine(zcw _ d _ (HI.o.below (zae (zab _ _) (zab _ _)))).mono ?_;rintro e w1 ⟨rfl,hb1⟩;obtain⟨hc1,hf1⟩:=zo9 hb1;have hs1:w.heap.size+1<w1.heap.size:=by have:=hb1.size;simp at this;omega
 go_wp2;refine bodyPost_ret (v:=.tuple #[.agg #[.slice a d.safe.length c,.slice a' d.wr.length c'],.int .i64 2]) (by simp[results,Tryz.results108,go_sem,hc1]) rfl ⟨rfl,?_⟩;have hb2:Below w.heap.size w w1:=zae (zae (zab _ _) (zab _ _)) hb1;exact(hb2.setCell (by simp) _).setCell (by simp) _
theorem z02 (v:Value)(d:Dk)(w:World)(h:IsDk w v d)(hg:za1 d=true):
  Calls Tryz.prog 108 #[v] w fun e w'=>∃v2,e=.returned (.tuple #[v2,.int .i64 0])∧IsDk w' v2 ⟨zeu d 37,[]⟩∧Below w.heap.size w w'∧DkFrom w.heap.size v2:=by
 have HI:Hid (IsDk w v d):=h;obtain⟨a,c,a',c',rfl,_,_,_,_⟩:=h;have H37:=zaa (zea hg);have hmk:=z2l;go_enter Tryz.func108,Tryz.ntmps108;go_wp2_with fail;refine(zcw _ d _ (HI.o.below (zae (zab _ _) (zab _ _)))).mono ?_;rintro e w1 ⟨rfl,hb1⟩;have hs1:w.heap.size+1<w1.heap.size:=by have:=hb1.size;simp at this;omega
 have x0:=zac hb1 (b:=w.heap.size) (o:=0) (v:=.slice a d.safe.length c) (by simp;omega) (by simp[go_sem]);have x1:=zac hb1 (b:=w.heap.size) (o:=1) (v:=.slice a' d.wr.length c') (by simp;omega) (by simp[go_sem]);have y0:=zac hb1 (b:=w.heap.size+1) (o:=0) (v:=.slice none 0 0) (by simp) (by simp[go_sem]);have y1:=zac hb1 (b:=w.heap.size+1) (o:=1) (v:=.slice none 0 0) (by simp) (by simp[go_sem]);have f0:=za3 hb1 (b:=w.heap.size+1) (o:=0) (v:=false) (by simp) (by simp[go_sem]);have f1:=za3 hb1 (b:=w.heap.size+1) (o:=1) (v:=false) (by simp) (by simp[go_sem]);have hb2:Below w.heap.size w w1:=zae (zae (zab _ _) (zab _ _)) hb1;clear hb1;go_wp2
 go_loopw [13] (fun i wr=>∃k:Nat,k≤37∧i=.int .i64 k∧Hid (wr.ownsRow w1.heap.size 9 1 (.slice (some ⟨w1.heap.size,0,none⟩) 37 37) 37 (fill (zeu d k) (37 - k)))∧Below w1.heap.size w1 wr) (fun i _=>37 - (intOf i).toNat)
 case atStart=>exact⟨0,Nat.zero_le _,rfl,zpd _ _ (Nat.le_refl _),zab _ _⟩
 case round=>
  obtain⟨k,hk,rfl,hown,hbr⟩:=hrel;have hsr:=hbr.size;by_cases hlt:k<37
  ·have hlt':(k:Int)<37:=by omega
   have z0:=zac hbr (by omega) x0;have z1:=zac hbr (by omega) x1;clear hmk;go_wp2_with fail;refine(zt4 _ d k _ (HI.o.below (zae hb2 hbr)) H37.o.1 hlt H37.o.2).mono ?_;rintro e w3 ⟨rfl,hb3⟩;have hown3:=zah hown.o hb3;rw[show 37 - k=(36 - k)+1 from by omega] at hown3;have hc:=zpf hown3;have hst:=zpe hown3 (zce d k);rw[zdl] at hc hst;obtain⟨⟨u,hu⟩,hfz,hg1,hg2,_⟩:=hc;have HST:=zaa hst;clear hown3 hst hown z0 z1;go_wp2
   go_roundw
   case rel=>
    refine⟨k+1,by omega,by go_num,?_,?_⟩
    ·rw[zry,show 37 - (k+1)=36 - k from by omega];exact HST
    ·exact(zae hbr hb3).setCell (by simp) _
   case measure=>simp[intOf];omega
  ·have e:k=37:=by omega
   have hown':=hown.o;rw[e,show 37 - 37=0 from rfl,zpc] at hown';obtain⟨a2,c2,hv2,hS2,hA2⟩:=SegS.of_owns hown';have hA2':=zaa hA2;have HS2:=zaa hS2;have y0':=zac hbr (by omega) y0;have y1':=zac hbr (by omega) y1;have f0':=za3 hbr (by omega) f0;have f1':=za3 hbr (by omega) f1;rw[zdl] at hv2;simp only[Value.slice.injEq] at hv2;obtain⟨ha2,_,hc2⟩:=hv2;subst ha2 hc2;clear hown hown' hS2 hA2 y0 y1 f0 f1 x0 x1 hmk e;go_wp2;refine bodyPost_ret (v:=.tuple #[.agg #[.slice (some ⟨w1.heap.size,0,none⟩) 37 37,.slice none 0 0],.int .i64 0]) (by simp[results,Tryz.results108,go_sem,y0',y1']) rfl ⟨_,rfl,⟨some ⟨w1.heap.size,0,none⟩,37,none,0,?_,?_,.inl rfl,?_,?_⟩,?_,⟨_,_,_,_,_,_,rfl,fun b off e=>by cases e;omega,fun _ _ e=>by cases e⟩⟩
   ·simp only[zdl];rfl
   ·exact(HS2.o.setCell hA2'.o (by simp;omega) _).setCell hA2'.o (by simp;omega) _
   ·show(zeu d 37).length≤maxLen;rw[zdl];decide
   ·exact Nat.zero_le _
   ·exact((zae hb2 hbr).setCell (by simp) _).setCell (by simp) _
theorem zuz (v:Value)(d:Dk)(w:World)(h:IsDk w v d):
  Calls Tryz.prog 108 #[v] w fun e w'=>∃v2,e=.returned (.tuple #[v2,.int .i64 (zih d)])∧IsDk w' v2 (zck d)∧(zih d≠0→v2=v)∧Below w.heap.size w w'∧(v2=v∨DkFrom w.heap.size v2):=by
 cases hg:za1 d with
 |false=>
  have hE:zih d=2:=by simp[zih,hg]
  have hK:zck d=d:=by simp[zck,hg]
  rw[hE,hK];exact(z01 v d w h hg).mono fun e w' he=>⟨v,he.1,h.below he.2,fun _=>rfl,he.2,.inl rfl⟩
 |true=>
  have hE:zih d=0:=by simp[zih,hg]
  have hK:zck d=⟨zeu d 37,[]⟩:=by simp[zck,hg]
  rw[hE,hK]
  exact(z02 v d w h hg).mono fun e w' he=>by
   obtain⟨v2,h1,h2,h3,h4⟩:=he;exact⟨v2,h1,h2,fun h=>absurd rfl h,h3,.inr h4⟩
theorem zsa (n:Int)(z:ByteArray)(l:List (Int×ByteArray))(hz:za9 z=true)(h:l.all wrB=true):za9 (zd4 n z l)=true:=by
 induction l generalizing z with
 |nil=>exact hz
 |cons x r ih=>
  simp only[List.all_cons,Bool.and_eq_true] at h;refine ih _ ?_ h.2;by_cases e:x.1=n
  ·rw[if_pos e];have:=h.1;simp only[wrB,Bool.and_eq_true] at this;exact this.2
  ·rw[if_neg e];exact hz
theorem zg9 {d:Dk}(h:za1 d=true):d.safe.length=37∧d.wr.length≤200∧d.safe.all za9=true∧d.wr.all wrB=true:=by
 simp only[za1,Bool.and_eq_true,decide_eq_true_eq] at h;exact⟨h.1.1.1,h.1.1.2,h.1.2,h.2⟩
theorem zpo {d:Dk}(h:za1 d=true)(k:Nat)(hk:k<37):za9 (d.safe.getD k ByteArray.empty)=true:=by
 obtain⟨h1,_,h3,_⟩:=zg9 h;rw[List.all_eq_true] at h3;exact h3 _ (List.mem_of_getElem? (zeg d.safe k ByteArray.empty (by omega)))
theorem zx8 {d:Dk}(h:za1 d=true)(k:Nat)(hk:k<37):za9 (zce d k)=true:=
 zsa _ _ _ (by rw[Int.toNat_natCast];exact zpo h k hk) (zg9 h).2.2.2
theorem zsb (n:Int)(l:List (Int×ByteArray))(s:ByteArray)(h:s∈zcg n l):(n,s)∈l:=by
 induction l with
 |nil=>simp[zcg] at h
 |cons x r ih=>
  by_cases e:x.1=n
  ·simp only[zcg,if_pos e,List.mem_cons] at h
   rcases h with rfl|h
   ·rw[←e];simp
   ·exact List.mem_cons_of_mem _ (ih h)
  ·simp only[zcg,if_neg e] at h
   exact List.mem_cons_of_mem _ (ih h)
theorem z1b {d:Dk}{n:Nat}{s:ByteArray}(h:s∈ways d n):s=d.safe.getD n ByteArray.empty∨((n:Int),s)∈d.wr:=by
 simp only[ways,List.mem_cons] at h;rcases h with h|h
 ·exact .inl h
 ·exact .inr (zsb _ _ _ h)
theorem zx9 {d:Dk}(h:za1 d=true){k:Nat}(hk:k<37){s:ByteArray}(hs:s∈ways d k):za9 s=true:=by
 rcases z1b hs with rfl|hm
 ·exact zpo h k hk
 ·have:=(zg9 h).2.2.2
  rw[List.all_eq_true] at this;have:=this _ hm;simp only[wrB,Bool.and_eq_true] at this;exact this.2
theorem zsc {l:List ByteArray}{f:ByteArray→Bool}(h:∀k,k<l.length→f (l.getD k ByteArray.empty)=true):l.all f=true:=by
 rw[List.all_eq_true];intro x hx;obtain⟨k,hk⟩:=List.getElem?_of_mem hx;have hlt:=(List.getElem?_eq_some_iff.1 hk).1;have:=h k hlt
 rwa [List.getD,hk] at this
theorem zpp {l:List ByteArray}(hl:l.length=37)(h:∀k,k<37→za9 (l.getD k ByteArray.empty)=true):za1 ⟨l,[]⟩=true:=by
 simp only[za1,hl,zsc (l:=l) (f:=za9) (fun k hk=>h k (by omega))];rfl
theorem zua {d:Dk}(k m:Nat)(hk:k<m):(zeu d m).getD k ByteArray.empty=zce d k:=by
 rw[zeu,List.getD,List.getElem?_map,List.getElem?_range hk];rfl
theorem zha {d:Dk}(h:za1 d=true):za1 ⟨zeu d 37,[]⟩=true:=
 zpp (zdl d 37) fun k hk=>by rw[zua k 37 hk];exact zx8 h k hk
theorem zhb {k:Nat}(hk:k<37):zbx (k:Int)=true:=by simp[zbx];omega
theorem zgm {l:List ByteArray}(h:za1 ⟨l,[]⟩=true){k:Nat}(hk:k<37):zal ⟨l,[]⟩ k=l.getD k ByteArray.empty:=by
 rw[zal,h,zhb hk];show zce ⟨l,[]⟩ k=_;rw[zce,Int.toNat_natCast];rfl
theorem zm5 {d:Dk}(h:za1 d=true){k:Nat}(hk:k<37):zal ⟨zeu d 37,[]⟩ k=zal d k:=by
 rw[zgm (zha h) hk,zua k 37 hk,zal,h,zhb hk];rfl
theorem zoc {d:Dk}{n:Int}{s:ByteArray}(h:zh0 d n s=0):za1 d=true∧zbx n=true∧za9 s=true∧¬d.wr.length=200:=by
 unfold zh0 at h;by_cases h1:(za1 d&&zbx n)=true
 ·rw[if_pos h1] at h
  by_cases h2:za9 s=true
  ·rw[if_pos h2] at h
   by_cases h3:d.wr.length=200
   ·rw[if_pos h3] at h;cases h
   ·simp at h1;exact⟨h1.1,h1.2,h2,h3⟩
  ·rw[if_neg h2] at h;cases h
 ·rw[if_neg h1] at h;cases h
theorem zek {d:Dk}{n:Int}{s:ByteArray}(h:zh0 d n s=0):zg6 d n s=⟨d.safe,d.wr++[(n,s)]⟩:=by rw[zg6,if_pos h]
theorem z3a {d:Dk}{n:Int}{s:ByteArray}(h:zh0 d n s≠0):zg6 d n s=d:=by rw[zg6,if_neg h]
theorem zd1 {d:Dk}{n:Int}{s:ByteArray}(h:zh0 d n s=0):za1 (zg6 d n s)=true:=by
 rw[zek h];obtain⟨hg,hp,hf,hl⟩:=zoc h;simp only[za1,Bool.and_eq_true,decide_eq_true_eq] at hg⊢;obtain⟨⟨⟨h1,h2⟩,h3⟩,h4⟩:=hg;refine⟨⟨⟨h1,?_⟩,h3⟩,?_⟩
 ·simp;omega
 ·rw[List.all_append,h4];simp[wrB,hp,hf]
theorem zks (d:Dk)(n m:Int)(s:ByteArray):zce ⟨d.safe,d.wr++[(n,s)]⟩ m=if n=m then s else zce d m:=zhz _ _ _ _
theorem zod {d:Dk}{n:Int}{s:ByteArray}(h:zh0 d n s=0):zal (zg6 d n s) n=s∧readE (zg6 d n s) n=0:=by
 have hg:=zd1 h;have hp:=(zoc h).2.1;rw[zal,readE,hg,hp];refine⟨?_,rfl⟩;rw[zek h];simp[zks]
theorem zvg {d:Dk}{n:Int}{s:ByteArray}(h:zh0 d n s=0)(m:Int):readE (zg6 d n s) m=readE d m∧(m≠n→zal (zg6 d n s) m=zal d m):=by
 have hg:=zd1 h;have hg':=(zoc h).1;rw[zal,readE,zal,readE,hg,hg'];refine⟨rfl,fun hne=>?_⟩;have e:zce (zg6 d n s) m=zce d m:=by rw[zek h,zks,if_neg (fun e=>hne e.symm)]
 rw[e]
theorem zqa (b off c:Nat)(a':Option Addr)(c':Nat)(d:Dk)(n:Nat)(w:World)(hn:d.safe.length=37)(hp:n<37)(hm:d.wr.length≤200)(hb:b<w.heap.size)
  (hc:∀i,i<d.safe.length→w.cell? ⟨b,off+i,none⟩=some (.string (d.safe.getD i ByteArray.empty))) (hw:SegW w a' d.wr):
  Calls Tryz.prog 112 #[.agg #[.slice (some ⟨b,off,none⟩) 37 c,.slice a' d.wr.length c'],.int .i64 n] w fun e w'=>∃v',e=.returned v'∧w'.ownsRow w.heap.size 9 1 v' (ways d n).length (cellsS (ways d n))∧Below w.heap.size w w':=by
 have HW:=zaa hw;obtain⟨z,hz⟩:∃z,z=d.safe.getD n ByteArray.empty:=⟨_,rfl⟩;have hcn:=hc n (by omega);rw[←hz] at hcn;have hp':(n:Int)<37:=by omega
 have H0:Hid (zc6 d n 0=[z]):=by rw[hz];rfl
 clear hn hw hc hz;obtain⟨i0,hi,hz0,hz1,hz2⟩:=info_parts z3t;go_enter Tryz.func112,Tryz.ntmps112;go_wp2
 go_loopw [5,17] (fun v i wr=>∃k:Nat,k≤d.wr.length∧i=.int .i64 k∧Hid (wr.ownsRow w.heap.size 9 1 v (zc6 d n k).length (cellsS (zc6 d n k)))∧Below w.heap.size w wr) (fun _ i _=>d.wr.length - (intOf i).toNat)
 case atStart=>
  refine⟨0,Nat.zero_le _,rfl,?_,zae (zab _ _) (zab _ _)⟩;rw[H0.o];have h:=World.ownsRow_lit (e:=9) (size:=1) (w.alloc (Obj.cells #[.slice (some ⟨b,off,none⟩) 37 c,.slice a' d.wr.length c'] 46)) #[.string z] 1 (zab w _).size (by decide) rfl;unfold Hid
  simpa[cellsS] using h
 case round=>
  obtain⟨k,hk,rfl,hown,hbr⟩:=hrel;have hsr:=hbr.size;by_cases hlt:k<d.wr.length
  ·obtain⟨b',off',rfl,hb',hcw⟩:=HW.o.resolve_left (by intro e;rw[e] at hlt;simp at hlt)
   obtain⟨x,hx⟩:∃x,x=d.wr.getD k (0,ByteArray.empty):=⟨_,rfl⟩;obtain⟨hc1,hc2⟩:=hcw k hlt;rw[←hx] at hc1 hc2;have HX:Hid (d.wr[k]?=some x):=by rw[hx];exact zeg _ _ _ hlt
   clear hx hcw;have g1:=zac hbr hb' hc1;have g2:=zac hbr hb' hc2;clear hc1 hc2;have hl:=zis d n k hm;obtain⟨m,s⟩:=x;by_cases he:m=n
   ·have he':(m==(n:Int))=true:=by rw[he];simp
    have HE:Hid (zc6 d n (k+1)=zc6 d n k++[s]):=zvf d n k (m,s) HX.o he;clear he;go_wp2_with (at_builtin;refine wpList_append_own _ rfl _ _ 43 rfl w.heap.size 9 i0 (.string ⟨#[]⟩) 1 16 Tryz.underlying43 hi hz0 hz1 hz2 rfl (by decide) _ _ _ rfl ((hown.o.alloc _).alloc _) ⟨wr.heap.size+1,0,none⟩ 1 1 (cellsS [s]) rfl ?qc1 ?qc2 ?qc3 ?qc4 ?qc5 ?qc6 ?_)
    case qc1=>rfl
    case qc2=>
     intro j u hj
     match j,hj with
     |0,hj=>simp[cellsS] at hj;subst hj;simp[go_sem]
    case qc3=>exact zmr
    case qc4=>unfold maxLen;omega
    case qc5=>omega
    case qc6=>omega
    intro v4 w4 hown4 hgrow4 _;have hb4:Below w.heap.size w w4:=((hbr.alloc hsr _).alloc (by simp;omega) _).grown hgrow4 (by simp;omega) (fun k hk=>(hown.o.lt k hk).1);rw[←zig,←HE.o] at hown4;have hlen:(zc6 d n k).length+1=(zc6 d n (k+1)).length:=by rw[HE.o];simp
    rw[hlen] at hown4;have HO:=zaa hown4;clear hown4 hgrow4 hown hbr;go_wp2
    go_roundw
    case rel=>exact⟨k+1,by omega,by go_num,HO,hb4⟩
    case measure=>simp[intOf];omega
   ·have he':(m==(n:Int))=false:=by simpa using he
    have HE:Hid (zc6 d n (k+1)=zc6 d n k):=zr9 d n k (m,s) HX.o he;have HO:=zaa (hown.o.alloc (Obj.cells #[Value.int IntKind.i64 m,Value.string s] 82));clear he hown;go_wp2
    go_roundw
    case rel=>exact⟨k+1,by omega,by go_num,by rw[HE.o];exact HO,hbr.alloc hsr _⟩
    case measure=>simp[intOf];omega
  ·have e:k=d.wr.length:=by omega
   have hw':zc6 d n k=ways d n:=by rw[e,zc6,List.take_length];rfl
   rw[hw'] at hown;clear hw' e;go_wp2;go_ret;exact⟨_,rfl,hown.o,hbr⟩
theorem zsm (v:Value)(d:Dk)(n:Nat)(w:World)(h:IsDk w v d)(hn:d.safe.length=37)(hp:n<37)(hm:d.wr.length≤200):
  Calls Tryz.prog 112 #[v,.int .i64 n] w fun e w'=>∃v',e=.returned v'∧w'.ownsRow w.heap.size 9 1 v' (ways d n).length (cellsS (ways d n))∧Below w.heap.size w w':=by
 obtain⟨a,c,a',c',rfl,hs,hw,h1,h2⟩:=h;obtain⟨b,off,rfl,hb,hc⟩:=hs.resolve_left (by intro e;rw[e] at hn;simp at hn);have:=zqa b off c a' c' d n w hn hp hm hb hc hw;rw[←hn] at this;exact this
def zdg (d:Dk)(q:Nat):Nat→List ByteArray×Nat
 |0=>([],q)
 |k+1=>((zdg d q k).1++[(ways d k).getD ((zdg d q k).2%(ways d k).length) ByteArray.empty],(zdg d q k).2/(ways d k).length)
def crashK (d:Dk)(q:Int):Dk:=if(za1 d&&decide (0≤q))=true then⟨(zdg d q.toNat 37).1,[]⟩ else d
def crashE (d:Dk)(q:Int):Int:=if(za1 d&&decide (0≤q))=true then 0 else 2
theorem zc0 (d:Dk)(q k:Nat):(zdg d q k).1.length=k:=by
 induction k with
 |zero=>rfl
 |succ k ih=>simp[zdg,ih]
theorem zyt (d:Dk)(q k:Nat):(zdg d q k).2≤q:=by
 induction k with
 |zero=>exact Nat.le_refl _
 |succ k ih=>exact Nat.le_trans (Nat.div_le_self _ _) ih
theorem zsn (d:Dk)(n:Nat)(h:d.wr.length≤200):1≤(ways d n).length∧(ways d n).length≤201:=by
 have:=zis d n d.wr.length h;rw[zc6,List.take_length] at this;exact this
theorem z1l (v:Value)(d:Dk)(q:Int)(w:World)(h:IsDk w v d)(hno:(za1 d&&decide (0≤q))=false):
  Calls Tryz.prog 75 #[v,.int .i64 q] w fun e w'=>e=.returned (.tuple #[v,.int .i64 2])∧Below w.heap.size w w':=by
 have HI:Hid (IsDk w v d):=h;obtain⟨a,c,a',c',rfl,_,_,_,_⟩:=h
 cases hg:za1 d with
 |false=>
  clear hno;go_enter Tryz.func75,Tryz.ntmps75;go_wp2_with fail;refine(zcw _ d _ (HI.o.below (zae (zab _ _) (zab _ _)))).mono ?_;rintro e w1 ⟨rfl,hb1⟩;obtain⟨hc1,hf1⟩:=zo9 hb1;have hs1:w.heap.size+1<w1.heap.size:=by have:=hb1.size;simp at this;omega
  go_wp2;refine bodyPost_ret (v:=.tuple #[.agg #[.slice a d.safe.length c,.slice a' d.wr.length c'],.int .i64 2]) (by simp[results,Tryz.results75,go_sem,hc1]) rfl ⟨rfl,?_⟩;have hb2:Below w.heap.size w w1:=zae (zae (zab _ _) (zab _ _)) hb1;exact(hb2.setCell (by simp) _).setCell (by simp) _
 |true=>
  have hq:q<0:=by simpa[hg] using hno
  clear hno;go_enter Tryz.func75,Tryz.ntmps75;go_wp2_with fail;refine(zcw _ d _ (HI.o.below (zae (zab _ _) (zab _ _)))).mono ?_;rintro e w1 ⟨rfl,hb1⟩;obtain⟨hc1,hf1⟩:=zo9 hb1;have hs1:w.heap.size+1<w1.heap.size:=by have:=hb1.size;simp at this;omega
  go_wp2;refine bodyPost_ret (v:=.tuple #[.agg #[.slice a d.safe.length c,.slice a' d.wr.length c'],.int .i64 2]) (by simp[results,Tryz.results75,go_sem,hc1]) rfl ⟨rfl,?_⟩;have hb2:Below w.heap.size w w1:=zae (zae (zab _ _) (zab _ _)) hb1;exact(hb2.setCell (by simp) _).setCell (by simp) _
theorem z1m (v:Value)(d:Dk)(q:Nat)(w:World)(h:IsDk w v d)(hg:za1 d=true)(hq:q≤9223372036854775807):
  Calls Tryz.prog 75 #[v,.int .i64 q] w fun e w'=>∃v2,e=.returned (.tuple #[v2,.int .i64 0])∧IsDk w' v2 ⟨(zdg d q 37).1,[]⟩∧Below w.heap.size w w'∧DkFrom w.heap.size v2:=by
 have HI:Hid (IsDk w v d):=h;obtain⟨a,c,a',c',rfl,_,_,_,_⟩:=h;have H37:=zaa (zea hg);have hmk:=z2l;go_enter Tryz.func75,Tryz.ntmps75;go_wp2_with fail;refine(zcw _ d _ (HI.o.below (zae (zab _ _) (zab _ _)))).mono ?_;rintro e w1 ⟨rfl,hb1⟩;have hs1:w.heap.size+1<w1.heap.size:=by have:=hb1.size;simp at this;omega
 have x0:=zac hb1 (b:=w.heap.size) (o:=0) (v:=.slice a d.safe.length c) (by simp;omega) (by simp[go_sem]);have x1:=zac hb1 (b:=w.heap.size) (o:=1) (v:=.slice a' d.wr.length c') (by simp;omega) (by simp[go_sem]);have y0:=zac hb1 (b:=w.heap.size+1) (o:=0) (v:=.slice none 0 0) (by simp) (by simp[go_sem]);have y1:=zac hb1 (b:=w.heap.size+1) (o:=1) (v:=.slice none 0 0) (by simp) (by simp[go_sem]);have f0:=za3 hb1 (b:=w.heap.size+1) (o:=0) (v:=false) (by simp) (by simp[go_sem]);have f1:=za3 hb1 (b:=w.heap.size+1) (o:=1) (v:=false) (by simp) (by simp[go_sem]);have hb2:Below w.heap.size w w1:=zae (zae (zab _ _) (zab _ _)) hb1;clear hb1;go_wp2
 go_loopw [1,20] (fun r i wr=>∃k:Nat,k≤37∧i=.int .i64 k∧r=.int .i64 ((zdg d q k).2:Nat)∧Hid (wr.ownsRow w1.heap.size 9 1 (.slice (some ⟨w1.heap.size,0,none⟩) 37 37) 37 (fill (zdg d q k).1 (37 - k)))∧Below w1.heap.size w1 wr) (fun _ i _=>37 - (intOf i).toNat)
 case atStart=>exact⟨0,Nat.zero_le _,rfl,rfl,zpd _ _ (Nat.le_refl _),zab _ _⟩
 case round=>
  obtain⟨k,hk,rfl,rfl,hown,hbr⟩:=hrel;have hsr:=hbr.size;by_cases hlt:k<37
  ·have hlt':(k:Int)<37:=by omega
   have z0:=zac hbr (by omega) x0;have z1:=zac hbr (by omega) x1;have hrq:=zyt d q k;obtain⟨r,hr⟩:∃r,r=(zdg d q k).2:=⟨_,rfl⟩;rw[←hr] at hrq⊢;clear hmk;go_wp2_with fail;refine(zsm _ d k _ (HI.o.below (zae hb2 hbr)) H37.o.1 hlt H37.o.2).mono ?_;rintro e w3 ⟨v3,rfl,hown3,hb3⟩;obtain⟨a3,c3,hv3,hS3,_⟩:=SegS.of_owns hown3;have hL:=zsn d k H37.o.2;obtain⟨b3,o3,ha3,hb3',hc3⟩:=hS3.resolve_left (by intro e;rw[e] at hL;simp at hL);obtain⟨t,ht⟩:∃t,t=(ways d k).getD (r%(ways d k).length) ByteArray.empty:=⟨_,rfl⟩;have hct:=hc3 (r%(ways d k).length) (Nat.mod_lt _ (by omega));rw[←ht] at hct;have HK:Hid (zdg d q (k+1)=((zdg d q k).1++[t],r/(ways d k).length)):=by rw[ht,hr];rfl
   obtain⟨L,hLe⟩:∃L,L=(ways d k).length:=⟨_,rfl⟩;rw[←hLe] at hv3 hL hct HK;rw[hv3,ha3];have hown4:=zah hown.o hb3;rw[show 37 - k=(36 - k)+1 from by omega] at hown4;have hcc:=zpf hown4;have hst:=zpe hown4 t;rw[zc0] at hcc hst;obtain⟨⟨u,hu⟩,hfz,hg1,hg2,_⟩:=hcc;have HST:=zaa hst;clear hown4 hst hown z0 z1 hown3 hS3 hc3 ha3 hv3 hLe ht hr;have hm0:0≤(r:Int)%(L:Int):=Int.emod_nonneg _ (by omega);have hm1:(r:Int)%(L:Int)<(L:Int):=Int.emod_lt_of_pos _ (by omega);have hd0:0≤(r:Int)/(L:Int):=Int.ediv_nonneg (by omega) (by omega);have hd1:(r:Int)/(L:Int)≤9223372036854775807:=Int.le_trans (Int.ediv_le_self _ (by omega)) (by omega);go_wp2
   go_roundw
   case rel=>
    refine⟨k+1,by omega,by go_num,?_,?_,?_⟩
    ·rw[HK.o];rfl
    ·rw[HK.o,show 37 - (k+1)=36 - k from by omega];exact HST
    ·exact(zae hbr hb3).setCell (by simp) _
   case measure=>simp[intOf];omega
  ·have e:k=37:=by omega
   have hown':=hown.o;rw[e,show 37 - 37=0 from rfl,zpc] at hown';obtain⟨a2,c2,hv2,hS2,hA2⟩:=SegS.of_owns hown';have hA2':=zaa hA2;have HS2:=zaa hS2;have y0':=zac hbr (by omega) y0;have y1':=zac hbr (by omega) y1;have f0':=za3 hbr (by omega) f0;have f1':=za3 hbr (by omega) f1;rw[zc0] at hv2;simp only[Value.slice.injEq] at hv2;obtain⟨ha2,_,hc2⟩:=hv2;subst ha2 hc2;clear hown hown' hS2 hA2 y0 y1 f0 f1 x0 x1 hmk e;go_wp2;refine bodyPost_ret (v:=.tuple #[.agg #[.slice (some ⟨w1.heap.size,0,none⟩) 37 37,.slice none 0 0],.int .i64 0]) (by simp[results,Tryz.results75,go_sem,y0',y1']) rfl ⟨_,rfl,⟨some ⟨w1.heap.size,0,none⟩,37,none,0,?_,?_,.inl rfl,?_,?_⟩,?_,⟨_,_,_,_,_,_,rfl,fun b off e=>by cases e;omega,fun _ _ e=>by cases e⟩⟩
   ·simp only[zc0];rfl
   ·exact(HS2.o.setCell hA2'.o (by simp;omega) _).setCell hA2'.o (by simp;omega) _
   ·show(zdg d q 37).1.length≤maxLen;rw[zc0];decide
   ·exact Nat.zero_le _
   ·exact((zae hb2 hbr).setCell (by simp) _).setCell (by simp) _
theorem zvw (v:Value)(d:Dk)(q:Int)(w:World)(h:IsDk w v d)(hq:q≤9223372036854775807):
  Calls Tryz.prog 75 #[v,.int .i64 q] w fun e w'=>∃v2,e=.returned (.tuple #[v2,.int .i64 (crashE d q)])∧IsDk w' v2 (crashK d q)∧(crashE d q≠0→v2=v)∧Below w.heap.size w w'∧(v2=v∨DkFrom w.heap.size v2):=by
 cases hg:(za1 d&&decide (0≤q)) with
 |false=>
  have hE:crashE d q=2:=by simp only[crashE,hg];rfl
  have hK:crashK d q=d:=by simp only[crashK,hg];rfl
  rw[hE,hK];exact(z1l v d q w h hg).mono fun e w' he=>⟨v,he.1,h.below he.2,fun _=>rfl,he.2,.inl rfl⟩
 |true=>
  have hE:crashE d q=0:=by simp only[crashE,hg];rfl
  have hK:crashK d q=⟨(zdg d q.toNat 37).1,[]⟩:=by simp only[crashK,hg];rfl
  simp at hg;obtain⟨n,rfl⟩:=Int.eq_ofNat_of_zero_le hg.2;rw[hE,hK];rw[Int.toNat_natCast]
  exact(z1m v d n w h hg.1 (by omega)).mono fun e w' he=>by
   obtain⟨v2,h1,h2,h3,h4⟩:=he;exact⟨v2,h1,h2,fun h=>absurd rfl h,h3,.inr h4⟩
theorem zug {d:Dk}(q k m:Nat)(hk:k<m):(zdg d q m).1.getD k ByteArray.empty∈ways d k:=by
 induction m with
 |zero=>omega
 |succ m ih=>
  rw[zdg];have hl:=zc0 d q m;by_cases e:k<m
  ·have:=ih e
   rwa [List.getD,List.getElem?_append_left (by omega)]
  ·have e':k=m:=by omega
   subst e';rw[List.getD,List.getElem?_append_right (by omega),hl,Nat.sub_self];have hlt:(zdg d q k).2%(ways d k).length<(ways d k).length:=Nat.mod_lt _ (by simp[ways]);exact List.mem_of_getElem? (zeg _ _ ByteArray.empty hlt)
theorem zne {d:Dk}(h:za1 d=true)(q:Nat):za1 ⟨(zdg d q 37).1,[]⟩=true:=
 zpp (zc0 d q 37) fun k hk=>zx9 h hk (zug q k 37 hk)
theorem z3l (b off c:Nat)(s:ByteArray)(w:World)(hb:b<w.heap.size)(hc:w.cell? ⟨b,off,none⟩=some (.string s)):
  Calls Tryz.prog 104 #[.slice (some ⟨b,off,none⟩) 1 c,.int .i64 37] w fun e w'=>∃v',e=.returned v'∧w'.ownsRow w.heap.size 9 1 v' 37 (cellsS (List.replicate 37 s))∧Below w.heap.size w w':=by
 have hmk:=z3y s;go_enter Tryz.func104,Tryz.ntmps104;go_wp2_with fail;refine(z0z _).mono ?_;rintro e w1 ⟨rfl,rfl⟩;go_wp2_with (refine wpList_copy_splice rfl (.tmp 31) (.tmp 32) 43 43 rfl 9 Tryz.underlying43 z3x _ _ _ _ _ _ rfl rfl w.heap.size 0 (row s 0 37) 9 ?qc1 (reps s 1) ?qc2 ?qc3 ?qc4 (zxl s 1) w.heap.size w ?qc5 (Nat.le_refl _) ?_)
 case qc1=>exact heap_alloc_new w _
 case qc2=>rw[zc8];rfl
 case qc3=>
  intro _ j v hj;obtain⟨h0,rfl⟩:=zxk hj;rw[show j=0 from by omega,Nat.add_zero];exact hc
 case qc4=>rw[zmv,zc8];decide
 case qc5=>exact zab _ _
 intro w2 HG2 hB2;rw[zmw] at HG2;go_wp2
 go_loopw [8] (fun i wr=>∃n:Nat,1≤n∧n≤37∧i=.int .i64 n∧Hid (wr.heap[w.heap.size]?=some (.cells (row s n (37 - n)).toArray 9 (0,0)))∧Below w.heap.size w wr) (fun i _=>37 - (intOf i).toNat)
 case atStart=>exact⟨1,by omega,by omega,rfl,HG2,hB2⟩
 case round=>
  obtain⟨n,h1,h37,rfl,HG,hB⟩:=hrel;clear HG2 hB2;by_cases hlt:n<37
  ·have hlt':(n:Int)<37:=by omega
   have hle':(n:Int)≤37:=by omega
   have hne:¬37=n:=by omega
   have hlen:(reps s (min n (37 - n))).length≤37:=by rw[zc8];omega
   go_wp2
   go_region_law (refine step_copy_splice rfl (.tmp 41) (.tmp 44) 43 43 rfl 9 Tryz.underlying43 z3x (some ⟨w.heap.size,n,none⟩) (some ⟨w.heap.size,0,none⟩) (37 - n) (37 - n) n 37 (by simp[Act.eval,Act.put]) (by simp[Act.eval,Act.put]) w.heap.size n (row s n (37 - n)) 9 HG.o (reps s (min n (37 - n))) (by rw[zc8]) (fun _=>⟨rfl,⟨w.heap.size,0,none⟩,rfl,z22 HG (Nat.min_le_left _ _)⟩) (by rw[zmv,zc8];omega) (zxl s _) w.heap.size w hB.drew (Nat.le_refl _) ?_;intro w4 HG4 hB4)
   rw[zmw] at HG4;go_wp2
   have hw:IntKind.i64.wrap ((n:Int)+((reps s (min n (37 - n))).length:Int))=((n+min n (37 - n):Nat):Int):=by
    rw[zc8];rw[IntKind.wrap_i64];omega
   rw[hw];refine⟨?_,?_⟩
   ·(repeat apply Exists.intro)
    exact⟨⟨n+min n (37 - n),by omega,by omega,rfl,by rw[show 37 - (n+min n (37 - n))=37 - n - min n (37 - n) from by omega];exact HG4,hB4⟩,rfl⟩
   ·simp[Act.put,intOf];omega
  ·have e:n=37:=by omega
   have HF:Hid (wr.heap[w.heap.size]?=some (.cells (row s 37 0).toArray 9 (0,0))):=by have:=HG.o;rw[e] at this;exact this
   clear e HG;go_wp2;go_ret;refine⟨_,rfl,⟨by simp[cellsS],.inr ⟨w.heap.size,37,(row s 37 0).toArray,rfl,Nat.le_refl _,HF.o,by omega,by decide,by simp[row],?_⟩⟩,hB⟩;simp[row,cellsS]
theorem z3m (w:World):
  Calls Tryz.prog 69 #[] w fun e w'=>∃g c,e=.returned (.agg #[.slice (some ⟨g,0,none⟩) 37 c,.slice none 0 0])∧w'.ownsRow w.heap.size 9 1 (.slice (some ⟨g,0,none⟩) 37 c) 37 (cellsS (List.replicate 37 (fitT ⟨#[]⟩)))∧Below w.heap.size w w':=by
 go_enter Tryz.func69,Tryz.ntmps69;go_wp2_with fail;refine(zgb ⟨#[]⟩ _ (by decide)).mono ?_;rintro e w1 ⟨rfl,hb1⟩;have hs1:w.heap.size<w1.heap.size:=by have:=hb1.size;simp at this;omega
 generalize hz:fitT ⟨#[]⟩=z;have HZ:Hid (fitT ⟨#[]⟩=z):=hz;clear hz;go_wp2_with fail;refine(z3l _ _ _ z _ (by simp) (by simp[go_sem])).mono ?_;rintro e w2 ⟨v2,rfl,hown,hb2⟩;have HO:=zaa hown
 obtain⟨g,c2,hv2⟩:∃g c2,v2=.slice (some ⟨g,0,none⟩) 37 c2:=by
  rcases hown.2 with⟨_,h0⟩|⟨g,cap,cur,e,_⟩
  ·cases h0
  ·exact⟨g,cap,e⟩
 subst hv2;have y0:=zac hb1 (b:=w.heap.size) (o:=0) (v:=.slice none 0 0) (by simp) (by simp[go_sem]);have y1:=zac hb1 (b:=w.heap.size) (o:=1) (v:=.slice none 0 0) (by simp) (by simp[go_sem]);have f0:=za3 hb1 (b:=w.heap.size) (o:=0) (v:=false) (by simp) (by simp[go_sem]);have f1:=za3 hb1 (b:=w.heap.size) (o:=1) (v:=false) (by simp) (by simp[go_sem]);have hb12:Below w1.heap.size w1 w2:=zae (zab _ _) hb2;have y0':=zac hb12 hs1 y0;have y1':=zac hb12 hs1 y1;have f0':=za3 hb12 hs1 f0;have f1':=za3 hb12 hs1 f1;have HB:Hid (Below w.heap.size w w2):=zae (zae (zab _ _) hb1) hb12;clear hown y0 y1 f0 f1 hb2;go_wp2;refine bodyPost_ret (v:=.agg #[.slice (some ⟨g,0,none⟩) 37 c2,.slice none 0 0]) (by simp[results,Tryz.results69,go_sem,y0',y1']) rfl ⟨g,c2,rfl,?_,?_⟩
 ·rw[←HZ.o] at HO
  exact za5 (ownsRow_setCell_below (ownsRow_setCell_below HO.o (a:=⟨w.heap.size,0,none⟩) (by simp;omega) _) (a:=⟨w.heap.size,1,none⟩) (by simp;omega) _) (by simp;omega)
 ·exact(HB.o.setCell (by simp) _).setCell (by simp) _
end Go.Proofs.YtjnpndfpajjihacGreat

