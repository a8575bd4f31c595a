/-
  
-/
import Derived.Test.YtjnpndfpajjihacGreatSGood
import Derived.Test.YtjnpndfpajjihacGreatGrTopMemory3
set_option maxRecDepth 100000
set_option maxHeartbeats 40000000
namespace Go.Proofs.YtjnpndfpajjihacGreat
open Go.RowKit
def zdd (s:ByteArray)(most:Nat):Nat:=min (at8 s 9).toNat most
def zda (s:ByteArray):List Int:=(List.range (zdd s 20)).map fun i=>at8 s (10+i)
def zh3 (s:ByteArray):List (Int×Bool):=(List.range (zdd s 10)).map fun i=>(at8 s (10+2*i),at8 s (11+2*i) !=0)
theorem zc5 (s:ByteArray):(zda s).length=zdd s 20:=by simp[zda]
theorem zd2 (s:ByteArray):(zh3 s).length=zdd s 10:=by simp[zh3]
theorem zjg (s:ByteArray)(k:Nat)(h:k<zdd s 20):(zda s)[k]?=some (at8 s (10+k)):=by simp[zda,h]
theorem zn0 (s:ByteArray)(k:Nat)(h:k<zdd s 10):(zh3 s)[k]?=some (at8 s (10+2*k),at8 s (11+2*k) !=0):=by simp[zh3,h]
theorem zkm {s:ByteArray}{most n:Nat}(h:at8 s 9=(n:Int))(hn:n≤most):zdd s most=n:=by rw[zdd,h,Int.toNat_natCast];omega
theorem zim {s:ByteArray}{most:Nat}(h:(most:Int)<at8 s 9):zdd s most=most:=by rw[zdd];omega
theorem zk8 (s:ByteArray)(n:Nat)(w:World)(hs:s.size=32)(hn:n≤20)(h9:at8 s 9=(n:Int)):
  Calls Tryz.prog 211 #[.string s] w fun e w'=>∃a2 c2,e=.returned (.slice a2 n c2)∧(SegI w' a2 (zda s)∧∀b off,a2=some ⟨b,off,none⟩→w.heap.size≤b)∧Below w.heap.size w w':=by
 have hB:∀k (hk:k<s.size),((s[k]'hk).toNat:Int)=at8 s k:=zik s;have hW:=zil s;have hW':∀k,IntKind.i64.wrap (at8 s k)=at8 s k:=fun k=>by have:=zhs s k;rw[IntKind.wrap_i64];omega
 have HM:Hid (zdd s 20=n):=zkm h9 hn;have hmk:∀w:World,(Instr.makeSlice 35 (.int .i64 (n:Int)) (.int .i64 (n:Int))).run Tryz.prog w=.ok (.slice (some ⟨w.heap.size,0,none⟩) n n) (w.alloc (.cells (cellsI (List.replicate n 0)).toArray 3)):=z24 n (by omega);have hn':(n:Int)≤20:=by omega
 obtain⟨l,hl⟩:∃l,l=zda s:=⟨_,rfl⟩;have HL:Hid (l.length=n):=by rw[Hid,hl,zc5,HM.o]
 have HG:=zaa hl;clear hl;go_enter Tryz.func211,Tryz.ntmps211;go_wp2
 go_loopw [12] (fun i wr=>∃k:Nat,k≤n∧i=.int .i64 k∧Hid (wr.heap[w.heap.size]?=some (.cells (cellsI (zbs 0 l k)).toArray 3 (0,0)))∧Below w.heap.size w wr) (fun i _=>n - (intOf i).toNat)
 case atStart=>exact⟨0,Nat.zero_le _,rfl,by rw[zfa,HL.o];exact heap_alloc_new w _,zab _ _⟩
 case round=>
  obtain⟨k,hk,rfl,hbox,hbr⟩:=hrel;have hsr:w.heap.size<wr.heap.size:=(Array.getElem?_eq_some_iff.1 hbox.o).1;by_cases hlt:k<n
  ·have hlt':(k:Int)<(n:Int):=by omega
   have hk32:10+k<s.size:=by omega
   have hT:((10:Int)+(k:Int)).toNat=10+k:=by omega
   obtain⟨y,hy⟩:∃y,wr.cell? ⟨w.heap.size,k,none⟩=some (.int .i64 y):=by
    have hlen:k<(zbs 0 l k).length:=by rw[zej _ _ _ (by rw[HL.o];omega),HL.o];exact hlt
    refine⟨(zbs 0 l k)[k],?_⟩;rw[cell_of_row wr _ _ _ _ _ hbox.o];simp[cellsI,hlen]
   have fz:=frozen_of_row wr _ k _ _ hbox.o;have HX:Hid (l[k]?=some (at8 s (10+k))):=by rw[Hid,HG.o];exact zjg s k (by rw[HM.o];exact hlt)
   go_wp2
   go_roundw
   case rel=>
    refine⟨k+1,by omega,by go_num,?_,hbr.setCell (by simp) _⟩;rw[Hid,heap_setCell_same _ _ _ _ _ _ hbox.o,←zgd 0 l k _ HX.o,←zjf];simp
   case measure=>simp[intOf];omega
  ·have e:n=k:=by omega
   subst e;have hf:=hbox.o;rw[←HL.o,zii] at hf;have HF:=zaa hf;clear hf hbox;go_wp2;go_ret;refine⟨_,_,rfl,⟨?_,fun b off e=>by cases e;exact Nat.le_refl _⟩,hbr⟩;rw[←HG.o];by_cases h0:l=[]
   ·exact .inl h0
   ·refine .inr ⟨w.heap.size,0,rfl,hsr,fun i hi=>?_⟩
    rw[cell_of_row wr _ _ _ _ _ HF.o,Nat.zero_add];have:=zga l i hi
    simpa using this
theorem zkh (s:ByteArray)(w:World)(hs:s.size=32)(h9:20<at8 s 9):
  Calls Tryz.prog 211 #[.string s] w fun e w'=>∃a2 c2,e=.returned (.slice a2 20 c2)∧(SegI w' a2 (zda s)∧∀b off,a2=some ⟨b,off,none⟩→w.heap.size≤b)∧Below w.heap.size w w':=by
 have hB:∀k (hk:k<s.size),((s[k]'hk).toNat:Int)=at8 s k:=zik s;have hW:=zil s;have hW':∀k,IntKind.i64.wrap (at8 s k)=at8 s k:=fun k=>by have:=zhs s k;rw[IntKind.wrap_i64];omega
 have HM:Hid (zdd s 20=20):=zim h9;have h9':¬at8 s 9<20:=by omega
 have hmk:∀w:World,(Instr.makeSlice 35 (.int .i64 20) (.int .i64 20)).run Tryz.prog w=.ok (.slice (some ⟨w.heap.size,0,none⟩) 20 20) (w.alloc (.cells (cellsI (List.replicate 20 0)).toArray 3)):=z24 20 (by omega);obtain⟨l,hl⟩:∃l,l=zda s:=⟨_,rfl⟩;have HL:Hid (l.length=20):=by rw[Hid,hl,zc5,HM.o]
 have HG:=zaa hl;clear hl;go_enter Tryz.func211,Tryz.ntmps211;go_wp2
 go_loopw [12] (fun i wr=>∃k:Nat,k≤20∧i=.int .i64 k∧Hid (wr.heap[w.heap.size]?=some (.cells (cellsI (zbs 0 l k)).toArray 3 (0,0)))∧Below w.heap.size w wr) (fun i _=>20 - (intOf i).toNat)
 case atStart=>exact⟨0,Nat.zero_le _,rfl,by rw[zfa,HL.o];exact heap_alloc_new w _,zab _ _⟩
 case round=>
  obtain⟨k,hk,rfl,hbox,hbr⟩:=hrel;have hsr:w.heap.size<wr.heap.size:=(Array.getElem?_eq_some_iff.1 hbox.o).1;by_cases hlt:k<20
  ·have hlt':(k:Int)<20:=by omega
   have hk32:10+k<s.size:=by omega
   have hT:((10:Int)+(k:Int)).toNat=10+k:=by omega
   obtain⟨y,hy⟩:∃y,wr.cell? ⟨w.heap.size,k,none⟩=some (.int .i64 y):=by
    have hlen:k<(zbs 0 l k).length:=by rw[zej _ _ _ (by rw[HL.o];omega),HL.o];exact hlt
    refine⟨(zbs 0 l k)[k],?_⟩;rw[cell_of_row wr _ _ _ _ _ hbox.o];simp[cellsI,hlen]
   have fz:=frozen_of_row wr _ k _ _ hbox.o;have HX:Hid (l[k]?=some (at8 s (10+k))):=by rw[Hid,HG.o];exact zjg s k (by rw[HM.o];exact hlt)
   go_wp2
   go_roundw
   case rel=>
    refine⟨k+1,by omega,by go_num,?_,hbr.setCell (by simp) _⟩;rw[Hid,heap_setCell_same _ _ _ _ _ _ hbox.o,←zgd 0 l k _ HX.o,←zjf];simp
   case measure=>simp[intOf];omega
  ·have e:k=20:=by omega
   subst e;have hf:=hbox.o;rw[←HL.o,zii] at hf;have HF:=zaa hf;clear hf hbox;go_wp2;go_ret;refine⟨_,_,rfl,⟨?_,fun b off e=>by cases e;exact Nat.le_refl _⟩,hbr⟩;rw[←HG.o];by_cases h0:l=[]
   ·exact .inl h0
   ·refine .inr ⟨w.heap.size,0,rfl,hsr,fun i hi=>?_⟩
    rw[cell_of_row wr _ _ _ _ _ HF.o,Nat.zero_add];have:=zga l i hi
    simpa using this
theorem zk9 (s:ByteArray)(w:World)(hs:s.size=32):
  Calls Tryz.prog 211 #[.string s] w fun e w'=>∃a2 c2,e=.returned (.slice a2 (zda s).length c2)∧(SegI w' a2 (zda s)∧∀b off,a2=some ⟨b,off,none⟩→w.heap.size≤b)∧Below w.heap.size w w':=by
 rw[zc5];by_cases h:at8 s 9≤20
 ·obtain⟨n,hn⟩:=Int.eq_ofNat_of_zero_le (zhs s 9).1
  rw[zkm hn (by omega)];exact zk8 s n w hs (by omega) hn
 ·rw[zim (show((20:Nat):Int)<at8 s 9 by omega)]
  exact zkh s w hs (by omega)
theorem zmy (l:List (Int×Bool))(k:Nat)(x:Int)(f:Bool):((zd5 l).set (k*2) (.int .i64 x)).set (k*2+1) (.bool f)=zd5 (l.set k (x,f)):=by
 induction l generalizing k with
 |nil=>rfl
 |cons y r ih=>
  cases k with
  |zero=>rfl
  |succ k=>
   have e1:(k+1)*2=k*2+1+1:=by omega
   rw[List.set_cons_succ,zd5,zd5,e1];simp only[List.set_cons_succ];rw[ih]
theorem zu6 (n i:Nat)(h:i<n*2):(zd5 (List.replicate n (0,false)))[i]?=some (#[Value.int .i64 0,Value.bool false][i%2]!):=by
 have hi:i/2<(List.replicate n ((0:Int),false)).length:=by rw[List.length_replicate];omega
 have:=zge (List.replicate n (0,false)) (i/2) hi
 have hd:(List.replicate n ((0:Int),false)).getD (i/2) (0,false)=(0,false):=by
  rw[List.length_replicate] at hi;rw[List.getD,List.getElem?_replicate,if_pos hi];rfl
 rw[hd] at this;by_cases h0:i%2=0
 ·rw[show i=i/2*2 from by omega,this.1,show i/2*2%2=0 from by omega];rfl
 ·rw[show i=i/2*2+1 from by omega,this.2,show(i/2*2+1)%2=1 from by omega];rfl
theorem z30 (n:Nat)(h:n≤1000)(w:World):(Instr.makeSlice 117 (.int .i64 (n:Int)) (.int .i64 (n:Int))).run Tryz.prog w=.ok (.slice (some ⟨w.heap.size,0,none⟩) n n) (w.alloc (.cells (zd5 (List.replicate n (0,false))).toArray 202)):=by
 obtain⟨i0,hi,hz0,hz1,hz2⟩:=info_parts z40;have:=run_make (P:=Tryz.prog) w 117 202 i0 (.agg #[.int .i64 0,.bool false]) Tryz.underlying117 hi hz0 .i64 .i64 n n (by omega) (by omega) (by rw[hz2];omega) (by omega);rw[this,hz1,Int.toNat_natCast]
 congr 3
 apply Array.ext';apply List.ext_getElem?;intro i;by_cases h2:i<n*2
 ·rw[zu6 n i h2]
  simp[madeCells,h2,Value.cells]
 ·rw[List.getElem?_eq_none (by simp[madeCells];omega),List.getElem?_eq_none (by rw[znz,List.length_replicate];omega)]
theorem zn1 (s:ByteArray)(n:Nat)(w:World)(hs:s.size=32)(hn:n≤10)(h9:at8 s 9=(n:Int)):
  Calls Tryz.prog 210 #[.string s] w fun e w'=>∃a2 c2,e=.returned (.slice a2 n c2)∧(SegT w' a2 (zh3 s)∧∀b off,a2=some ⟨b,off,none⟩→w.heap.size≤b)∧Below w.heap.size w w':=by
 have hB:∀k (hk:k<s.size),((s[k]'hk).toNat:Int)=at8 s k:=zik s;have hW:=zil s;have hW':∀k,IntKind.i64.wrap (at8 s k)=at8 s k:=fun k=>by have:=zhs s k;rw[IntKind.wrap_i64];omega
 have HM:Hid (zdd s 10=n):=zkm h9 hn;have hmk:∀w:World,(Instr.makeSlice 117 (.int .i64 (n:Int)) (.int .i64 (n:Int))).run Tryz.prog w=.ok (.slice (some ⟨w.heap.size,0,none⟩) n n) (w.alloc (.cells (zd5 (List.replicate n (0,false))).toArray 202)):=z30 n (by omega);have hn':(n:Int)≤10:=by omega
 obtain⟨l,hl⟩:∃l,l=zh3 s:=⟨_,rfl⟩;have HL:Hid (l.length=n):=by rw[Hid,hl,zd2,HM.o]
 have HG:=zaa hl;clear hl;go_enter Tryz.func210,Tryz.ntmps210;go_wp2
 go_loopw [13] (fun i wr=>∃k:Nat,k≤n∧i=.int .i64 k∧Hid (wr.heap[w.heap.size]?=some (.cells (zd5 (zbs (0,false) l k)).toArray 202 (0,0)))∧Below w.heap.size w wr) (fun i _=>n - (intOf i).toNat)
 case atStart=>exact⟨0,Nat.zero_le _,rfl,by rw[zfa,HL.o];exact heap_alloc_new w _,zab _ _⟩
 case round=>
  obtain⟨k,hk,rfl,hbox,hbr⟩:=hrel;have hsr:w.heap.size<wr.heap.size:=(Array.getElem?_eq_some_iff.1 hbox.o).1;by_cases hlt:k<n
  ·have hlt':(k:Int)<(n:Int):=by omega
   have hk32:10+2*k<s.size:=by omega
   have hk33:11+2*k<s.size:=by omega
   have hT:((10:Int)+2*(k:Int)).toNat=10+2*k:=by omega
   have hT2:((10:Int)+2*(k:Int)+1).toNat=11+2*k:=by omega
   have u1:IntKind.i64.wrap (2*(k:Int))=2*(k:Int):=by rw[IntKind.wrap_i64];omega
   have u2:IntKind.i64.wrap (10+2*(k:Int))=10+2*(k:Int):=by rw[IntKind.wrap_i64];omega
   have u3:IntKind.i64.wrap (10+2*(k:Int)+1)=10+2*(k:Int)+1:=by rw[IntKind.wrap_i64];omega
   obtain⟨y,f,hy,hy2⟩:∃y f,wr.cell? ⟨w.heap.size,k*2,none⟩=some (.int .i64 y)∧wr.cell? ⟨w.heap.size,k*2+1,none⟩=some (.bool f):=by
    have hlen:k<(zbs (0,false) l k).length:=by rw[zej _ _ _ (by rw[HL.o];omega),HL.o];exact hlt
    have:=zge (zbs (0,false) l k) k hlen;refine⟨((zbs (0,false) l k).getD k (0,false)).1,((zbs (0,false) l k).getD k (0,false)).2,?_,?_⟩
    ·rw[cell_of_row wr _ _ _ _ _ hbox.o,List.getElem?_toArray];exact this.1
    ·rw[cell_of_row wr _ _ _ _ _ hbox.o,List.getElem?_toArray];exact this.2
   have fz:=frozen_of_row wr _ (k*2) _ _ hbox.o;have fz2:=frozen_of_row wr _ (k*2+1) _ _ hbox.o;have HX:Hid (l[k]?=some (at8 s (10+2*k),at8 s (11+2*k) !=0)):=by rw[Hid,HG.o];exact zn0 s k (by rw[HM.o];exact hlt)
   go_wp2
   go_region
   all_goals
    go_wp2
    go_roundw
    case rel=>
     refine⟨k+1,by omega,by go_num,?_,((hbr.setCell (by simp) _).setCell (by simp) _).drew⟩;have hb1:=heap_setCell_same wr w.heap.size (k*2) _ _ (.int .i64 (at8 s (10+2*k))) hbox.o;refine(heap_setCell_same _ w.heap.size (k*2+1) _ _ _ hb1).trans ?_;rw[←zgd (0,false) l k _ HX.o,←zmy];simp
    case measure=>simp[intOf];omega
  ·have e:n=k:=by omega
   subst e;have hf:=hbox.o;rw[←HL.o,zii] at hf;have HF:=zaa hf;clear hf hbox;go_wp2;go_ret;refine⟨_,_,rfl,⟨?_,fun b off e=>by cases e;exact Nat.le_refl _⟩,hbr⟩;rw[←HG.o];by_cases h0:l=[]
   ·exact .inl h0
   ·refine .inr ⟨w.heap.size,0,rfl,hsr,fun i hi=>?_⟩
    rw[cell_of_row wr _ _ _ _ _ HF.o,cell_of_row wr _ _ _ _ _ HF.o,Nat.zero_add,List.getElem?_toArray,List.getElem?_toArray];exact zge l i hi
theorem zmb (s:ByteArray)(w:World)(hs:s.size=32)(h9:10<at8 s 9):
  Calls Tryz.prog 210 #[.string s] w fun e w'=>∃a2 c2,e=.returned (.slice a2 10 c2)∧(SegT w' a2 (zh3 s)∧∀b off,a2=some ⟨b,off,none⟩→w.heap.size≤b)∧Below w.heap.size w w':=by
 have hB:∀k (hk:k<s.size),((s[k]'hk).toNat:Int)=at8 s k:=zik s;have hW:=zil s;have hW':∀k,IntKind.i64.wrap (at8 s k)=at8 s k:=fun k=>by have:=zhs s k;rw[IntKind.wrap_i64];omega
 have HM:Hid (zdd s 10=10):=zim h9;have h9':¬at8 s 9<10:=by omega
 have hmk:∀w:World,(Instr.makeSlice 117 (.int .i64 10) (.int .i64 10)).run Tryz.prog w=.ok (.slice (some ⟨w.heap.size,0,none⟩) 10 10) (w.alloc (.cells (zd5 (List.replicate 10 (0,false))).toArray 202)):=z30 10 (by omega);obtain⟨l,hl⟩:∃l,l=zh3 s:=⟨_,rfl⟩;have HL:Hid (l.length=10):=by rw[Hid,hl,zd2,HM.o]
 have HG:=zaa hl;clear hl;go_enter Tryz.func210,Tryz.ntmps210;go_wp2
 go_loopw [13] (fun i wr=>∃k:Nat,k≤10∧i=.int .i64 k∧Hid (wr.heap[w.heap.size]?=some (.cells (zd5 (zbs (0,false) l k)).toArray 202 (0,0)))∧Below w.heap.size w wr) (fun i _=>10 - (intOf i).toNat)
 case atStart=>exact⟨0,Nat.zero_le _,rfl,by rw[zfa,HL.o];exact heap_alloc_new w _,zab _ _⟩
 case round=>
  obtain⟨k,hk,rfl,hbox,hbr⟩:=hrel;have hsr:w.heap.size<wr.heap.size:=(Array.getElem?_eq_some_iff.1 hbox.o).1;by_cases hlt:k<10
  ·have hlt':(k:Int)<10:=by omega
   have hk32:10+2*k<s.size:=by omega
   have hk33:11+2*k<s.size:=by omega
   have hT:((10:Int)+2*(k:Int)).toNat=10+2*k:=by omega
   have hT2:((10:Int)+2*(k:Int)+1).toNat=11+2*k:=by omega
   have u1:IntKind.i64.wrap (2*(k:Int))=2*(k:Int):=by rw[IntKind.wrap_i64];omega
   have u2:IntKind.i64.wrap (10+2*(k:Int))=10+2*(k:Int):=by rw[IntKind.wrap_i64];omega
   have u3:IntKind.i64.wrap (10+2*(k:Int)+1)=10+2*(k:Int)+1:=by rw[IntKind.wrap_i64];omega
   obtain⟨y,f,hy,hy2⟩:∃y f,wr.cell? ⟨w.heap.size,k*2,none⟩=some (.int .i64 y)∧wr.cell? ⟨w.heap.size,k*2+1,none⟩=some (.bool f):=by
    have hlen:k<(zbs (0,false) l k).length:=by rw[zej _ _ _ (by rw[HL.o];omega),HL.o];exact hlt
    have:=zge (zbs (0,false) l k) k hlen;refine⟨((zbs (0,false) l k).getD k (0,false)).1,((zbs (0,false) l k).getD k (0,false)).2,?_,?_⟩
    ·rw[cell_of_row wr _ _ _ _ _ hbox.o,List.getElem?_toArray];exact this.1
    ·rw[cell_of_row wr _ _ _ _ _ hbox.o,List.getElem?_toArray];exact this.2
   have fz:=frozen_of_row wr _ (k*2) _ _ hbox.o;have fz2:=frozen_of_row wr _ (k*2+1) _ _ hbox.o;have HX:Hid (l[k]?=some (at8 s (10+2*k),at8 s (11+2*k) !=0)):=by rw[Hid,HG.o];exact zn0 s k (by rw[HM.o];exact hlt)
   go_wp2
   go_region
   all_goals
    go_wp2
    go_roundw
    case rel=>
     refine⟨k+1,by omega,by go_num,?_,((hbr.setCell (by simp) _).setCell (by simp) _).drew⟩;have hb1:=heap_setCell_same wr w.heap.size (k*2) _ _ (.int .i64 (at8 s (10+2*k))) hbox.o;refine(heap_setCell_same _ w.heap.size (k*2+1) _ _ _ hb1).trans ?_;rw[←zgd (0,false) l k _ HX.o,←zmy];simp
    case measure=>simp[intOf];omega
  ·have e:k=10:=by omega
   subst e;have hf:=hbox.o;rw[←HL.o,zii] at hf;have HF:=zaa hf;clear hf hbox;go_wp2;go_ret;refine⟨_,_,rfl,⟨?_,fun b off e=>by cases e;exact Nat.le_refl _⟩,hbr⟩;rw[←HG.o];by_cases h0:l=[]
   ·exact .inl h0
   ·refine .inr ⟨w.heap.size,0,rfl,hsr,fun i hi=>?_⟩
    rw[cell_of_row wr _ _ _ _ _ HF.o,cell_of_row wr _ _ _ _ _ HF.o,Nat.zero_add,List.getElem?_toArray,List.getElem?_toArray];exact zge l i hi
theorem zn2 (s:ByteArray)(w:World)(hs:s.size=32):
  Calls Tryz.prog 210 #[.string s] w fun e w'=>∃a2 c2,e=.returned (.slice a2 (zh3 s).length c2)∧(SegT w' a2 (zh3 s)∧∀b off,a2=some ⟨b,off,none⟩→w.heap.size≤b)∧Below w.heap.size w w':=by
 rw[zd2];by_cases h:at8 s 9≤10
 ·obtain⟨n,hn⟩:=Int.eq_ofNat_of_zero_le (zhs s 9).1
  rw[zkm hn (by omega)];exact zn1 s n w hs (by omega) hn
 ·rw[zim (show((10:Nat):Int)<at8 s 9 by omega)]
  exact zmb s w hs (by omega)
end Go.Proofs.YtjnpndfpajjihacGreat

