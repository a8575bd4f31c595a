/-
  
-/
import Derived.Test.YtjnpndfpajjihacGreatSGood
import Derived.Test.YtjnpndfpajjihacGreatGrTopOrdered3
set_option maxRecDepth 100000
set_option maxHeartbeats 40000000
namespace Go.Proofs.YtjnpndfpajjihacGreat
open Go.Proofs.Tryz
open Go.RowKit
def zdk (s:ByteArray)(most:Nat):Nat:=min (at8 s 9).toNat most
def zdh (s:ByteArray):List Int:=(List.range (zdk s 20)).map fun i=>at8 s (10+i)
def zie (s:ByteArray):List (Int×Bool):=(List.range (zdk s 10)).map fun i=>(at8 s (10+2*i),at8 s (11+2*i) !=0)
theorem zdb(s:ByteArray):(zdh s).length=zdk s 20:=by simp[zdh]
theorem zd8(s:ByteArray):(zie s).length=zdk s 10:=by simp[zie]
theorem zjv(s:ByteArray)(k:Nat)(h:k<zdk s 20):(zdh s)[k]?=some (at8 s (10+k)):=by simp[zdh,h]
theorem zoj(s:ByteArray)(k:Nat)(h:k<zdk s 10):(zie s)[k]?=some (at8 s (10+2*k),at8 s (11+2*k) !=0):=by simp[zie,h]
theorem zk5{s:ByteArray}{most n:Nat}(h:at8 s 9=(n:Int))(hn:n≤most):zdk s most=n:=by rw[zdk,h,Int.toNat_natCast];omega
theorem zi0{s:ByteArray}{most:Nat}(h:(most:Int)<at8 s 9):zdk s most=most:=by rw[zdk];omega
theorem zlr(s:ByteArray)(n:Nat)(w:World)(hs:s.size=32)(hn:n≤20)(h9:at8 s 9=(n:Int)):
  Calls prog 211 #[.string s] w fun e w'=>∃a2 c2,e=.returned (.slice a2 n c2)∧(SegI w' a2 (zdh s)∧∀b off,a2=some ⟨b,off,none⟩→w.heap.size≤b)∧Below w.heap.size w w':=by
 have hB:∀k (hk:k<s.size),((s[k]'hk).toNat:Int)=at8 s k:=ziy s;have hW:=ziz s;have A2:∀k,IntKind.i64.wrap (at8 s k)=at8 s k:=fun k=>by have:=zh5 s k;rw[IntKind.wrap_i64];omega
 have K:Hid (zdk s 20=n):=zk5 h9 hn;have A3:∀w:World,(Instr.makeSlice 35 (.int .i64 (n:Int)) (.int .i64 (n:Int))).run prog w=.ok (.slice (some ⟨w.heap.size,0,none⟩) n n) (w.alloc (.cells (cellsI (List.replicate n 0)).toArray 3)):=z36 n (by omega);have A4:(n:Int)≤20:=by omega
 obtain⟨l,E⟩:∃l,l=zdh s:=⟨_,rfl⟩;have B:Hid (l.length=n):=by rw[Hid,E,zdb,K.o]
 have J:=zab E;clear E;go_enter func211,ntmps211;go_wp2
 go_loopw [12] (fun i wr=>∃k:Nat,k≤n∧i=.int .i64 k∧Hid (wr.heap[w.heap.size]?=some (.cells (cellsI (zbt 0 l k)).toArray 3 (0,0)))∧Below w.heap.size w wr) (fun i _=>n - (intOf i).toNat)
 case atStart=>exact⟨0,Nat.zero_le _,rfl,by rw[zfp,B.o];exact heap_alloc_new w _,zaa _ _⟩
 case round=>
  obtain⟨k,hk,rfl,A,C⟩:=hrel;have I:w.heap.size<wr.heap.size:=(Array.getElem?_eq_some_iff.1 A.o).1;by_cases hlt:k<n
  ·have A0:(k:Int)<(n:Int):=by omega
   have A1:10+k<s.size:=by omega
   have hT:((10:Int)+(k:Int)).toNat=10+k:=by omega
   obtain⟨y,hy⟩:∃y,wr.cell? ⟨w.heap.size,k,none⟩=some (.int .i64 y):=by
    have F:k<(zbt 0 l k).length:=by rw[zev _ _ _ (by rw[B.o];omega),B.o];exact hlt
    refine⟨(zbt 0 l k)[k],?_⟩;rw[cell_of_row wr _ _ _ _ _ A.o];simp[cellsI,F]
   have fz:=frozen_of_row wr _ k _ _ A.o;have L:Hid (l[k]?=some (at8 s (10+k))):=by rw[Hid,J.o];exact zjv s k (by rw[K.o];exact hlt)
   go_wp2
   go_roundw
   case rel=>
    refine⟨k+1,by omega,by go_num,?_,C.setCell (by simp) _⟩;rw[Hid,heap_setCell_same _ _ _ _ _ _ A.o,←zgt 0 l k _ L.o,←zju];simp
   case measure=>simp[intOf];omega
  ·have e:n=k:=by omega
   subst e;have D:=A.o;rw[←B.o,ziw]at D;have M:=zab D;clear D A;go_wp2;go_ret;refine⟨_,_,rfl,⟨?_,fun b off e=>by cases e;exact Nat.le_refl _⟩,C⟩;rw[←J.o];by_cases h0:l=[]
   ·exact .inl h0
   ·refine .inr ⟨w.heap.size,0,rfl,I,fun i hi=>?_⟩;rw[cell_of_row wr _ _ _ _ _ M.o,Nat.zero_add];have:=zgs l i hi
    simpa using this
theorem zkz(s:ByteArray)(w:World)(hs:s.size=32)(h9:20<at8 s 9):
  Calls prog 211 #[.string s] w fun e w'=>∃a2 c2,e=.returned (.slice a2 20 c2)∧(SegI w' a2 (zdh s)∧∀b off,a2=some ⟨b,off,none⟩→w.heap.size≤b)∧Below w.heap.size w w':=by
 have hB:∀k (hk:k<s.size),((s[k]'hk).toNat:Int)=at8 s k:=ziy s;have hW:=ziz s;have A2:∀k,IntKind.i64.wrap (at8 s k)=at8 s k:=fun k=>by have:=zh5 s k;rw[IntKind.wrap_i64];omega
 have K:Hid (zdk s 20=20):=zi0 h9;have A3:¬at8 s 9<20:=by omega
 have A4:∀w:World,(Instr.makeSlice 35 (.int .i64 20) (.int .i64 20)).run prog w=.ok (.slice (some ⟨w.heap.size,0,none⟩) 20 20) (w.alloc (.cells (cellsI (List.replicate 20 0)).toArray 3)):=z36 20 (by omega);obtain⟨l,E⟩:∃l,l=zdh s:=⟨_,rfl⟩;have B:Hid (l.length=20):=by rw[Hid,E,zdb,K.o]
 have J:=zab E;clear E;go_enter func211,ntmps211;go_wp2
 go_loopw [12] (fun i wr=>∃k:Nat,k≤20∧i=.int .i64 k∧Hid (wr.heap[w.heap.size]?=some (.cells (cellsI (zbt 0 l k)).toArray 3 (0,0)))∧Below w.heap.size w wr) (fun i _=>20 - (intOf i).toNat)
 case atStart=>exact⟨0,Nat.zero_le _,rfl,by rw[zfp,B.o];exact heap_alloc_new w _,zaa _ _⟩
 case round=>
  obtain⟨k,hk,rfl,A,C⟩:=hrel;have I:w.heap.size<wr.heap.size:=(Array.getElem?_eq_some_iff.1 A.o).1;by_cases hlt:k<20
  ·have A0:(k:Int)<20:=by omega
   have A1:10+k<s.size:=by omega
   have hT:((10:Int)+(k:Int)).toNat=10+k:=by omega
   obtain⟨y,hy⟩:∃y,wr.cell? ⟨w.heap.size,k,none⟩=some (.int .i64 y):=by
    have F:k<(zbt 0 l k).length:=by rw[zev _ _ _ (by rw[B.o];omega),B.o];exact hlt
    refine⟨(zbt 0 l k)[k],?_⟩;rw[cell_of_row wr _ _ _ _ _ A.o];simp[cellsI,F]
   have fz:=frozen_of_row wr _ k _ _ A.o;have L:Hid (l[k]?=some (at8 s (10+k))):=by rw[Hid,J.o];exact zjv s k (by rw[K.o];exact hlt)
   go_wp2
   go_roundw
   case rel=>
    refine⟨k+1,by omega,by go_num,?_,C.setCell (by simp) _⟩;rw[Hid,heap_setCell_same _ _ _ _ _ _ A.o,←zgt 0 l k _ L.o,←zju];simp
   case measure=>simp[intOf];omega
  ·have e:k=20:=by omega
   subst e;have D:=A.o;rw[←B.o,ziw]at D;have M:=zab D;clear D A;go_wp2;go_ret;refine⟨_,_,rfl,⟨?_,fun b off e=>by cases e;exact Nat.le_refl _⟩,C⟩;rw[←J.o];by_cases h0:l=[]
   ·exact .inl h0
   ·refine .inr ⟨w.heap.size,0,rfl,I,fun i hi=>?_⟩;rw[cell_of_row wr _ _ _ _ _ M.o,Nat.zero_add];have:=zgs l i hi
    simpa using this
theorem zls(s:ByteArray)(w:World)(hs:s.size=32):
  Calls prog 211 #[.string s] w fun e w'=>∃a2 c2,e=.returned (.slice a2 (zdh s).length c2)∧(SegI w' a2 (zdh s)∧∀b off,a2=some ⟨b,off,none⟩→w.heap.size≤b)∧Below w.heap.size w w':=by
 rw[zdb];by_cases h:at8 s 9≤20
 ·obtain⟨n,A⟩:=Int.eq_ofNat_of_zero_le (zh5 s 9).1;rw[zk5 A (by omega)];exact zlr s n w hs (by omega) A
 ·rw[zi0 (show((20:Nat):Int)<at8 s 9 by omega)];exact zkz s w hs (by omega)
theorem zni(l:List (Int×Bool))(k:Nat)(x:Int)(f:Bool):((zec l).set (k*2) (.int .i64 x)).set (k*2+1) (.bool f)=zec (l.set k (x,f)):=by
 induction l generalizing k with
 |nil=>rfl
 |cons y r ih=>
  cases k with
  |zero=>rfl
  |succ k=>
   have A:(k+1)*2=k*2+1+1:=by omega
   rw[List.set_cons_succ,zec,zec,A];simp only[List.set_cons_succ];rw[ih]
theorem zv0(n i:Nat)(h:i<n*2):(zec (List.replicate n (0,false)))[i]?=some (#[Value.int .i64 0,Value.bool false][i%2]!):=by
 have A:i/2<(List.replicate n ((0:Int),false)).length:=by rw[List.length_replicate];omega
 have:=zgu (List.replicate n (0,false)) (i/2) A
 have hd:(List.replicate n ((0:Int),false)).getD (i/2) (0,false)=(0,false):=by
  rw[List.length_replicate]at A;rw[List.getD,List.getElem?_replicate,if_pos A];rfl
 rw[hd]at this;by_cases h0:i%2=0
 ·rw[show i=i/2*2 from by omega,this.1,show i/2*2%2=0 from by omega];rfl
 ·rw[show i=i/2*2+1 from by omega,this.2,show(i/2*2+1)%2=1 from by omega];rfl
theorem z47(n:Nat)(h:n≤1000)(w:World):(Instr.makeSlice 117 (.int .i64 (n:Int)) (.int .i64 (n:Int))).run prog w=.ok (.slice (some ⟨w.heap.size,0,none⟩) n n) (w.alloc (.cells (zec (List.replicate n (0,false))).toArray 202)):=by
 obtain⟨E,D,A,C,B⟩:=info_parts z52;have:=run_make (P:=prog) w 117 202 E (.agg #[.int .i64 0,.bool false]) underlying117 D A .i64 .i64 n n (by omega) (by omega) (by rw[B];omega) (by omega);rw[this,C,Int.toNat_natCast]
 congr 3
 apply Array.ext';apply List.ext_getElem?;intro i;by_cases h2:i<n*2
 ·rw[zv0 n i h2];simp[madeCells,h2,Value.cells]
 ·rw[List.getElem?_eq_none (by simp[madeCells];omega),List.getElem?_eq_none (by rw[zoi,List.length_replicate];omega)]
theorem zok(s:ByteArray)(n:Nat)(w:World)(hs:s.size=32)(hn:n≤10)(h9:at8 s 9=(n:Int)):
  Calls prog 210 #[.string s] w fun e w'=>∃a2 c2,e=.returned (.slice a2 n c2)∧(SegT w' a2 (zie s)∧∀b off,a2=some ⟨b,off,none⟩→w.heap.size≤b)∧Below w.heap.size w w':=by
 have hB:∀k (hk:k<s.size),((s[k]'hk).toNat:Int)=at8 s k:=ziy s;have hW:=ziz s;have A5:∀k,IntKind.i64.wrap (at8 s k)=at8 s k:=fun k=>by have:=zh5 s k;rw[IntKind.wrap_i64];omega
 have M:Hid (zdk s 10=n):=zk5 h9 hn;have A7:∀w:World,(Instr.makeSlice 117 (.int .i64 (n:Int)) (.int .i64 (n:Int))).run prog w=.ok (.slice (some ⟨w.heap.size,0,none⟩) n n) (w.alloc (.cells (zec (List.replicate n (0,false))).toArray 202)):=z47 n (by omega);have A8:(n:Int)≤10:=by omega
 obtain⟨l,D⟩:∃l,l=zie s:=⟨_,rfl⟩;have B:Hid (l.length=n):=by rw[Hid,D,zd8,M.o]
 have K:=zab D;clear D;go_enter func210,ntmps210;go_wp2
 go_loopw [13] (fun i wr=>∃k:Nat,k≤n∧i=.int .i64 k∧Hid (wr.heap[w.heap.size]?=some (.cells (zec (zbt (0,false) l k)).toArray 202 (0,0)))∧Below w.heap.size w wr) (fun i _=>n - (intOf i).toNat)
 case atStart=>exact⟨0,Nat.zero_le _,rfl,by rw[zfp,B.o];exact heap_alloc_new w _,zaa _ _⟩
 case round=>
  obtain⟨k,hk,rfl,A,C⟩:=hrel;have I:w.heap.size<wr.heap.size:=(Array.getElem?_eq_some_iff.1 A.o).1;by_cases hlt:k<n
  ·have A0:(k:Int)<(n:Int):=by omega
   have A2:10+2*k<s.size:=by omega
   have A1:11+2*k<s.size:=by omega
   have hT:((10:Int)+2*(k:Int)).toNat=10+2*k:=by omega
   have A6:((10:Int)+2*(k:Int)+1).toNat=11+2*k:=by omega
   have u1:IntKind.i64.wrap (2*(k:Int))=2*(k:Int):=by rw[IntKind.wrap_i64];omega
   have u2:IntKind.i64.wrap (10+2*(k:Int))=10+2*(k:Int):=by rw[IntKind.wrap_i64];omega
   have u3:IntKind.i64.wrap (10+2*(k:Int)+1)=10+2*(k:Int)+1:=by rw[IntKind.wrap_i64];omega
   obtain⟨y,f,hy,A4⟩:∃y f,wr.cell? ⟨w.heap.size,k*2,none⟩=some (.int .i64 y)∧wr.cell? ⟨w.heap.size,k*2+1,none⟩=some (.bool f):=by
    have E:k<(zbt (0,false) l k).length:=by rw[zev _ _ _ (by rw[B.o];omega),B.o];exact hlt
    have:=zgu (zbt (0,false) l k) k E;refine⟨((zbt (0,false) l k).getD k (0,false)).1,((zbt (0,false) l k).getD k (0,false)).2,?_,?_⟩
    ·rw[cell_of_row wr _ _ _ _ _ A.o,List.getElem?_toArray];exact this.1
    ·rw[cell_of_row wr _ _ _ _ _ A.o,List.getElem?_toArray];exact this.2
   have fz:=frozen_of_row wr _ (k*2) _ _ A.o;have A3:=frozen_of_row wr _ (k*2+1) _ _ A.o;have N:Hid (l[k]?=some (at8 s (10+2*k),at8 s (11+2*k) !=0)):=by rw[Hid,K.o];exact zoj s k (by rw[M.o];exact hlt)
   go_wp2
   go_region
   all_goals
    go_wp2
    go_roundw
    case rel=>
     refine⟨k+1,by omega,by go_num,?_,((C.setCell (by simp) _).setCell (by simp) _).drew⟩;have J:=heap_setCell_same wr w.heap.size (k*2) _ _ (.int .i64 (at8 s (10+2*k))) A.o;refine(heap_setCell_same _ w.heap.size (k*2+1) _ _ _ J).trans ?_;rw[←zgt (0,false) l k _ N.o,←zni];simp
    case measure=>simp[intOf];omega
  ·have e:n=k:=by omega
   subst e;have F:=A.o;rw[←B.o,ziw]at F;have L:=zab F;clear F A;go_wp2;go_ret;refine⟨_,_,rfl,⟨?_,fun b off e=>by cases e;exact Nat.le_refl _⟩,C⟩;rw[←K.o];by_cases h0:l=[]
   ·exact .inl h0
   ·refine .inr ⟨w.heap.size,0,rfl,I,fun i hi=>?_⟩;rw[cell_of_row wr _ _ _ _ _ L.o,cell_of_row wr _ _ _ _ _ L.o,Nat.zero_add,List.getElem?_toArray,List.getElem?_toArray];exact zgu l i hi
theorem zmw(s:ByteArray)(w:World)(hs:s.size=32)(h9:10<at8 s 9):
  Calls prog 210 #[.string s] w fun e w'=>∃a2 c2,e=.returned (.slice a2 10 c2)∧(SegT w' a2 (zie s)∧∀b off,a2=some ⟨b,off,none⟩→w.heap.size≤b)∧Below w.heap.size w w':=by
 have hB:∀k (hk:k<s.size),((s[k]'hk).toNat:Int)=at8 s k:=ziy s;have hW:=ziz s;have A5:∀k,IntKind.i64.wrap (at8 s k)=at8 s k:=fun k=>by have:=zh5 s k;rw[IntKind.wrap_i64];omega
 have M:Hid (zdk s 10=10):=zi0 h9;have A7:¬at8 s 9<10:=by omega
 have A8:∀w:World,(Instr.makeSlice 117 (.int .i64 10) (.int .i64 10)).run prog w=.ok (.slice (some ⟨w.heap.size,0,none⟩) 10 10) (w.alloc (.cells (zec (List.replicate 10 (0,false))).toArray 202)):=z47 10 (by omega);obtain⟨l,D⟩:∃l,l=zie s:=⟨_,rfl⟩;have B:Hid (l.length=10):=by rw[Hid,D,zd8,M.o]
 have K:=zab D;clear D;go_enter func210,ntmps210;go_wp2
 go_loopw [13] (fun i wr=>∃k:Nat,k≤10∧i=.int .i64 k∧Hid (wr.heap[w.heap.size]?=some (.cells (zec (zbt (0,false) l k)).toArray 202 (0,0)))∧Below w.heap.size w wr) (fun i _=>10 - (intOf i).toNat)
 case atStart=>exact⟨0,Nat.zero_le _,rfl,by rw[zfp,B.o];exact heap_alloc_new w _,zaa _ _⟩
 case round=>
  obtain⟨k,hk,rfl,A,C⟩:=hrel;have I:w.heap.size<wr.heap.size:=(Array.getElem?_eq_some_iff.1 A.o).1;by_cases hlt:k<10
  ·have A0:(k:Int)<10:=by omega
   have A2:10+2*k<s.size:=by omega
   have A1:11+2*k<s.size:=by omega
   have hT:((10:Int)+2*(k:Int)).toNat=10+2*k:=by omega
   have A6:((10:Int)+2*(k:Int)+1).toNat=11+2*k:=by omega
   have u1:IntKind.i64.wrap (2*(k:Int))=2*(k:Int):=by rw[IntKind.wrap_i64];omega
   have u2:IntKind.i64.wrap (10+2*(k:Int))=10+2*(k:Int):=by rw[IntKind.wrap_i64];omega
   have u3:IntKind.i64.wrap (10+2*(k:Int)+1)=10+2*(k:Int)+1:=by rw[IntKind.wrap_i64];omega
   obtain⟨y,f,hy,A4⟩:∃y f,wr.cell? ⟨w.heap.size,k*2,none⟩=some (.int .i64 y)∧wr.cell? ⟨w.heap.size,k*2+1,none⟩=some (.bool f):=by
    have E:k<(zbt (0,false) l k).length:=by rw[zev _ _ _ (by rw[B.o];omega),B.o];exact hlt
    have:=zgu (zbt (0,false) l k) k E;refine⟨((zbt (0,false) l k).getD k (0,false)).1,((zbt (0,false) l k).getD k (0,false)).2,?_,?_⟩
    ·rw[cell_of_row wr _ _ _ _ _ A.o,List.getElem?_toArray];exact this.1
    ·rw[cell_of_row wr _ _ _ _ _ A.o,List.getElem?_toArray];exact this.2
   have fz:=frozen_of_row wr _ (k*2) _ _ A.o;have A3:=frozen_of_row wr _ (k*2+1) _ _ A.o;have N:Hid (l[k]?=some (at8 s (10+2*k),at8 s (11+2*k) !=0)):=by rw[Hid,K.o];exact zoj s k (by rw[M.o];exact hlt)
   go_wp2
   go_region
   all_goals
    go_wp2
    go_roundw
    case rel=>
     refine⟨k+1,by omega,by go_num,?_,((C.setCell (by simp) _).setCell (by simp) _).drew⟩;have J:=heap_setCell_same wr w.heap.size (k*2) _ _ (.int .i64 (at8 s (10+2*k))) A.o;refine(heap_setCell_same _ w.heap.size (k*2+1) _ _ _ J).trans ?_;rw[←zgt (0,false) l k _ N.o,←zni];simp
    case measure=>simp[intOf];omega
  ·have e:k=10:=by omega
   subst e;have F:=A.o;rw[←B.o,ziw]at F;have L:=zab F;clear F A;go_wp2;go_ret;refine⟨_,_,rfl,⟨?_,fun b off e=>by cases e;exact Nat.le_refl _⟩,C⟩;rw[←K.o];by_cases h0:l=[]
   ·exact .inl h0
   ·refine .inr ⟨w.heap.size,0,rfl,I,fun i hi=>?_⟩;rw[cell_of_row wr _ _ _ _ _ L.o,cell_of_row wr _ _ _ _ _ L.o,Nat.zero_add,List.getElem?_toArray,List.getElem?_toArray];exact zgu l i hi
theorem zol(s:ByteArray)(w:World)(hs:s.size=32):
  Calls prog 210 #[.string s] w fun e w'=>∃a2 c2,e=.returned (.slice a2 (zie s).length c2)∧(SegT w' a2 (zie s)∧∀b off,a2=some ⟨b,off,none⟩→w.heap.size≤b)∧Below w.heap.size w w':=by
 rw[zd8];by_cases h:at8 s 9≤10
 ·obtain⟨n,A⟩:=Int.eq_ofNat_of_zero_le (zh5 s 9).1;rw[zk5 A (by omega)];exact zok s n w hs (by omega) A
 ·rw[zi0 (show((10:Nat):Int)<at8 s 9 by omega)];exact zmw s w hs (by omega)
