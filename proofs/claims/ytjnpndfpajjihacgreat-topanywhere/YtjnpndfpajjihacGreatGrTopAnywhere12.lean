/-
  
-/
import Derived.Test.YtjnpndfpajjihacGreatSGood
import Derived.Test.YtjnpndfpajjihacGreatGrTopAnywhere3
set_option maxRecDepth 100000
set_option maxHeartbeats 40000000
namespace Go.Proofs.YtjnpndfpajjihacGreat
open Go.Proofs.Tryz
open Go.RowKit
def zdi (s:ByteArray)(most:Nat):Nat:=min (at8 s 9).toNat most
def zde (s:ByteArray):List Int:=(List.range (zdi s 20)).map fun i=>at8 s (10+i)
def zig (s:ByteArray):List (Int×Bool):=(List.range (zdi s 10)).map fun i=>(at8 s (10+2*i),at8 s (11+2*i) !=0)
theorem zc8(s:ByteArray):(zde s).length=zdi s 20:=by simp[zde]
theorem zeb(s:ByteArray):(zig s).length=zdi s 10:=by simp[zig]
theorem zjt(s:ByteArray)(k:Nat)(h:k<zdi s 20):(zde s)[k]?=some (at8 s (10+k)):=by simp[zde,h]
theorem zoi(s:ByteArray)(k:Nat)(h:k<zdi s 10):(zig s)[k]?=some (at8 s (10+2*k),at8 s (11+2*k) !=0):=by simp[zig,h]
theorem zk3{s:ByteArray}{most n:Nat}(h:at8 s 9=(n:Int))(hn:n≤most):zdi s most=n:=by rw[zdi,h,Int.toNat_natCast];omega
theorem ziz{s:ByteArray}{most:Nat}(h:(most:Int)<at8 s 9):zdi s most=most:=by rw[zdi];omega
theorem zlq(s:ByteArray)(n:Nat)(w:World)(hs:s.size=32)(hn:n≤20)(h9:at8 s 9=(n:Int)):
  Calls prog 211 #[.string s] w fun e w'=>∃a2 c2,e=.returned (.slice a2 n c2)∧(SegI w' a2 (zde s)∧∀b off,a2=some ⟨b,off,none⟩→w.heap.size≤b)∧Below w.heap.size w w':=by
 have hB:∀k (hk:k<s.size),((s[k]'hk).toNat:Int)=at8 s k:=zix s;have hW:=ziy s;have A2:∀k,IntKind.i64.wrap (at8 s k)=at8 s k:=fun k=>by have:=zh8 s k;rw[IntKind.wrap_i64];omega
 have K:Hid (zdi s 20=n):=zk3 h9 hn;have A4:∀w:World,(Instr.makeSlice 35 (.int .i64 (n:Int)) (.int .i64 (n:Int))).run prog w=.ok (.slice (some ⟨w.heap.size,0,none⟩) n n) (w.alloc (.cells (cellsI (List.replicate n 0)).toArray 3)):=z4f n (by omega);have A3:(n:Int)≤20:=by omega
 obtain⟨l,E⟩:∃l,l=zde s:=⟨_,rfl⟩;have B:Hid (l.length=n):=by rw[Hid,E,zc8,K.o]
 have J:=zaa E;clear E;go_enter func211,ntmps211;go_wp2
 go_loopw [12] (fun i wr=>∃k:Nat,k≤n∧i=.int .i64 k∧Hid (wr.heap[w.heap.size]?=some (.cells (cellsI (zbt 0 l k)).toArray 3 (0,0)))∧Below w.heap.size w wr) (fun i _=>n - (intOf i).toNat)
 case atStart=>exact⟨0,Nat.zero_le _,rfl,by rw[zfn,B.o];exact heap_alloc_new w _,zab _ _⟩
 case round=>
  obtain⟨k,hk,rfl,A,C⟩:=hrel;have I:w.heap.size<wr.heap.size:=(Array.getElem?_eq_some_iff.1 A.o).1;by_cases hlt:k<n
  ·have A0:(k:Int)<(n:Int):=by omega
   have A1:10+k<s.size:=by omega
   have hT:((10:Int)+(k:Int)).toNat=10+k:=by omega
   obtain⟨y,hy⟩:∃y,wr.cell? ⟨w.heap.size,k,none⟩=some (.int .i64 y):=by
    have D:k<(zbt 0 l k).length:=by rw[zex _ _ _ (by rw[B.o];omega),B.o];exact hlt
    refine⟨(zbt 0 l k)[k],?_⟩;rw[cell_of_row wr _ _ _ _ _ A.o];simp[cellsI,D]
   have fz:=frozen_of_row wr _ k _ _ A.o;have L:Hid (l[k]?=some (at8 s (10+k))):=by rw[Hid,J.o];exact zjt s k (by rw[K.o];exact hlt)
   go_wp2
   go_roundw
   case rel=>
    refine⟨k+1,by omega,by go_num,?_,C.setCell (by simp) _⟩;rw[Hid,heap_setCell_same _ _ _ _ _ _ A.o,←zgq 0 l k _ L.o,←zjs];simp
   case measure=>simp[intOf];omega
  ·have e:n=k:=by omega
   subst e;have F:=A.o;rw[←B.o,ziv]at F;have M:=zaa F;clear F A;go_wp2;go_ret;refine⟨_,_,rfl,⟨?_,fun b off e=>by cases e;exact Nat.le_refl _⟩,C⟩;rw[←J.o];by_cases h0:l=[]
   ·exact .inl h0
   ·refine .inr ⟨w.heap.size,0,rfl,I,fun i hi=>?_⟩;rw[cell_of_row wr _ _ _ _ _ M.o,Nat.zero_add];have:=zgp l i hi
    simpa using this
theorem zky(s:ByteArray)(w:World)(hs:s.size=32)(h9:20<at8 s 9):
  Calls prog 211 #[.string s] w fun e w'=>∃a2 c2,e=.returned (.slice a2 20 c2)∧(SegI w' a2 (zde s)∧∀b off,a2=some ⟨b,off,none⟩→w.heap.size≤b)∧Below w.heap.size w w':=by
 have hB:∀k (hk:k<s.size),((s[k]'hk).toNat:Int)=at8 s k:=zix s;have hW:=ziy s;have A2:∀k,IntKind.i64.wrap (at8 s k)=at8 s k:=fun k=>by have:=zh8 s k;rw[IntKind.wrap_i64];omega
 have K:Hid (zdi s 20=20):=ziz h9;have A4:¬at8 s 9<20:=by omega
 have A3:∀w:World,(Instr.makeSlice 35 (.int .i64 20) (.int .i64 20)).run prog w=.ok (.slice (some ⟨w.heap.size,0,none⟩) 20 20) (w.alloc (.cells (cellsI (List.replicate 20 0)).toArray 3)):=z4f 20 (by omega);obtain⟨l,E⟩:∃l,l=zde s:=⟨_,rfl⟩;have B:Hid (l.length=20):=by rw[Hid,E,zc8,K.o]
 have J:=zaa E;clear E;go_enter func211,ntmps211;go_wp2
 go_loopw [12] (fun i wr=>∃k:Nat,k≤20∧i=.int .i64 k∧Hid (wr.heap[w.heap.size]?=some (.cells (cellsI (zbt 0 l k)).toArray 3 (0,0)))∧Below w.heap.size w wr) (fun i _=>20 - (intOf i).toNat)
 case atStart=>exact⟨0,Nat.zero_le _,rfl,by rw[zfn,B.o];exact heap_alloc_new w _,zab _ _⟩
 case round=>
  obtain⟨k,hk,rfl,A,C⟩:=hrel;have I:w.heap.size<wr.heap.size:=(Array.getElem?_eq_some_iff.1 A.o).1;by_cases hlt:k<20
  ·have A0:(k:Int)<20:=by omega
   have A1:10+k<s.size:=by omega
   have hT:((10:Int)+(k:Int)).toNat=10+k:=by omega
   obtain⟨y,hy⟩:∃y,wr.cell? ⟨w.heap.size,k,none⟩=some (.int .i64 y):=by
    have D:k<(zbt 0 l k).length:=by rw[zex _ _ _ (by rw[B.o];omega),B.o];exact hlt
    refine⟨(zbt 0 l k)[k],?_⟩;rw[cell_of_row wr _ _ _ _ _ A.o];simp[cellsI,D]
   have fz:=frozen_of_row wr _ k _ _ A.o;have L:Hid (l[k]?=some (at8 s (10+k))):=by rw[Hid,J.o];exact zjt s k (by rw[K.o];exact hlt)
   go_wp2
   go_roundw
   case rel=>
    refine⟨k+1,by omega,by go_num,?_,C.setCell (by simp) _⟩;rw[Hid,heap_setCell_same _ _ _ _ _ _ A.o,←zgq 0 l k _ L.o,←zjs];simp
   case measure=>simp[intOf];omega
  ·have e:k=20:=by omega
   subst e;have F:=A.o;rw[←B.o,ziv]at F;have M:=zaa F;clear F A;go_wp2;go_ret;refine⟨_,_,rfl,⟨?_,fun b off e=>by cases e;exact Nat.le_refl _⟩,C⟩;rw[←J.o];by_cases h0:l=[]
   ·exact .inl h0
   ·refine .inr ⟨w.heap.size,0,rfl,I,fun i hi=>?_⟩;rw[cell_of_row wr _ _ _ _ _ M.o,Nat.zero_add];have:=zgp l i hi
    simpa using this
theorem zlr(s:ByteArray)(w:World)(hs:s.size=32):
  Calls prog 211 #[.string s] w fun e w'=>∃a2 c2,e=.returned (.slice a2 (zde s).length c2)∧(SegI w' a2 (zde s)∧∀b off,a2=some ⟨b,off,none⟩→w.heap.size≤b)∧Below w.heap.size w w':=by
 rw[zc8];by_cases h:at8 s 9≤20
 ·obtain⟨n,A⟩:=Int.eq_ofNat_of_zero_le (zh8 s 9).1;rw[zk3 A (by omega)];exact zlq s n w hs (by omega) A
 ·rw[ziz (show((20:Nat):Int)<at8 s 9 by omega)];exact zky s w hs (by omega)
theorem zni(l:List (Int×Bool))(k:Nat)(x:Int)(f:Bool):((zeg l).set (k*2) (.int .i64 x)).set (k*2+1) (.bool f)=zeg (l.set k (x,f)):=by
 induction l generalizing k with
 |nil=>rfl
 |cons y r ih=>
  cases k with
  |zero=>rfl
  |succ k=>
   have A:(k+1)*2=k*2+1+1:=by omega
   rw[List.set_cons_succ,zeg,zeg,A];simp only[List.set_cons_succ];rw[ih]
theorem zvz(n i:Nat)(h:i<n*2):(zeg (List.replicate n (0,false)))[i]?=some (#[Value.int .i64 0,Value.bool false][i%2]!):=by
 have A:i/2<(List.replicate n ((0:Int),false)).length:=by rw[List.length_replicate];omega
 have:=zgr (List.replicate n (0,false)) (i/2) A
 have hd:(List.replicate n ((0:Int),false)).getD (i/2) (0,false)=(0,false):=by
  rw[List.length_replicate]at A;rw[List.getD,List.getElem?_replicate,if_pos A];rfl
 rw[hd]at this;by_cases h0:i%2=0
 ·rw[show i=i/2*2 from by omega,this.1,show i/2*2%2=0 from by omega];rfl
 ·rw[show i=i/2*2+1 from by omega,this.2,show(i/2*2+1)%2=1 from by omega];rfl
theorem z5l(n:Nat)(h:n≤1000)(w:World):(Instr.makeSlice 117 (.int .i64 (n:Int)) (.int .i64 (n:Int))).run prog w=.ok (.slice (some ⟨w.heap.size,0,none⟩) n n) (w.alloc (.cells (zeg (List.replicate n (0,false))).toArray 202)):=by
 obtain⟨D,E,A,B,C⟩:=info_parts z6l;have:=run_make (P:=prog) w 117 202 D (.agg #[.int .i64 0,.bool false]) underlying117 E A .i64 .i64 n n (by omega) (by omega) (by rw[C];omega) (by omega);rw[this,B,Int.toNat_natCast]
 congr 3
 apply Array.ext';apply List.ext_getElem?;intro i;by_cases h2:i<n*2
 ·rw[zvz n i h2];simp[madeCells,h2,Value.cells]
 ·rw[List.getElem?_eq_none (by simp[madeCells];omega),List.getElem?_eq_none (by rw[zoh,List.length_replicate];omega)]
theorem zoj(s:ByteArray)(n:Nat)(w:World)(hs:s.size=32)(hn:n≤10)(h9:at8 s 9=(n:Int)):
  Calls prog 210 #[.string s] w fun e w'=>∃a2 c2,e=.returned (.slice a2 n c2)∧(SegT w' a2 (zig s)∧∀b off,a2=some ⟨b,off,none⟩→w.heap.size≤b)∧Below w.heap.size w w':=by
 have hB:∀k (hk:k<s.size),((s[k]'hk).toNat:Int)=at8 s k:=zix s;have hW:=ziy s;have A5:∀k,IntKind.i64.wrap (at8 s k)=at8 s k:=fun k=>by have:=zh8 s k;rw[IntKind.wrap_i64];omega
 have L:Hid (zdi s 10=n):=zk3 h9 hn;have A6:∀w:World,(Instr.makeSlice 117 (.int .i64 (n:Int)) (.int .i64 (n:Int))).run prog w=.ok (.slice (some ⟨w.heap.size,0,none⟩) n n) (w.alloc (.cells (zeg (List.replicate n (0,false))).toArray 202)):=z5l n (by omega);have A3:(n:Int)≤10:=by omega
 obtain⟨l,F⟩:∃l,l=zig s:=⟨_,rfl⟩;have B:Hid (l.length=n):=by rw[Hid,F,zeb,L.o]
 have K:=zaa F;clear F;go_enter func210,ntmps210;go_wp2
 go_loopw [13] (fun i wr=>∃k:Nat,k≤n∧i=.int .i64 k∧Hid (wr.heap[w.heap.size]?=some (.cells (zeg (zbt (0,false) l k)).toArray 202 (0,0)))∧Below w.heap.size w wr) (fun i _=>n - (intOf i).toNat)
 case atStart=>exact⟨0,Nat.zero_le _,rfl,by rw[zfn,B.o];exact heap_alloc_new w _,zab _ _⟩
 case round=>
  obtain⟨k,hk,rfl,A,C⟩:=hrel;have I:w.heap.size<wr.heap.size:=(Array.getElem?_eq_some_iff.1 A.o).1;by_cases hlt:k<n
  ·have A1:(k:Int)<(n:Int):=by omega
   have A2:10+2*k<s.size:=by omega
   have A0:11+2*k<s.size:=by omega
   have hT:((10:Int)+2*(k:Int)).toNat=10+2*k:=by omega
   have A7:((10:Int)+2*(k:Int)+1).toNat=11+2*k:=by omega
   have u1:IntKind.i64.wrap (2*(k:Int))=2*(k:Int):=by rw[IntKind.wrap_i64];omega
   have u2:IntKind.i64.wrap (10+2*(k:Int))=10+2*(k:Int):=by rw[IntKind.wrap_i64];omega
   have u3:IntKind.i64.wrap (10+2*(k:Int)+1)=10+2*(k:Int)+1:=by rw[IntKind.wrap_i64];omega
   obtain⟨y,f,hy,A8⟩:∃y f,wr.cell? ⟨w.heap.size,k*2,none⟩=some (.int .i64 y)∧wr.cell? ⟨w.heap.size,k*2+1,none⟩=some (.bool f):=by
    have D:k<(zbt (0,false) l k).length:=by rw[zex _ _ _ (by rw[B.o];omega),B.o];exact hlt
    have:=zgr (zbt (0,false) l k) k D;refine⟨((zbt (0,false) l k).getD k (0,false)).1,((zbt (0,false) l k).getD k (0,false)).2,?_,?_⟩
    ·rw[cell_of_row wr _ _ _ _ _ A.o,List.getElem?_toArray];exact this.1
    ·rw[cell_of_row wr _ _ _ _ _ A.o,List.getElem?_toArray];exact this.2
   have fz:=frozen_of_row wr _ (k*2) _ _ A.o;have A4:=frozen_of_row wr _ (k*2+1) _ _ A.o;have N:Hid (l[k]?=some (at8 s (10+2*k),at8 s (11+2*k) !=0)):=by rw[Hid,K.o];exact zoi s k (by rw[L.o];exact hlt)
   go_wp2
   go_region
   all_goals
    go_wp2
    go_roundw
    case rel=>
     refine⟨k+1,by omega,by go_num,?_,((C.setCell (by simp) _).setCell (by simp) _).drew⟩;have M:=heap_setCell_same wr w.heap.size (k*2) _ _ (.int .i64 (at8 s (10+2*k))) A.o;refine(heap_setCell_same _ w.heap.size (k*2+1) _ _ _ M).trans ?_;rw[←zgq (0,false) l k _ N.o,←zni];simp
    case measure=>simp[intOf];omega
  ·have e:n=k:=by omega
   subst e;have E:=A.o;rw[←B.o,ziv]at E;have J:=zaa E;clear E A;go_wp2;go_ret;refine⟨_,_,rfl,⟨?_,fun b off e=>by cases e;exact Nat.le_refl _⟩,C⟩;rw[←K.o];by_cases h0:l=[]
   ·exact .inl h0
   ·refine .inr ⟨w.heap.size,0,rfl,I,fun i hi=>?_⟩;rw[cell_of_row wr _ _ _ _ _ J.o,cell_of_row wr _ _ _ _ _ J.o,Nat.zero_add,List.getElem?_toArray,List.getElem?_toArray];exact zgr l i hi
theorem zmv(s:ByteArray)(w:World)(hs:s.size=32)(h9:10<at8 s 9):
  Calls prog 210 #[.string s] w fun e w'=>∃a2 c2,e=.returned (.slice a2 10 c2)∧(SegT w' a2 (zig s)∧∀b off,a2=some ⟨b,off,none⟩→w.heap.size≤b)∧Below w.heap.size w w':=by
 have hB:∀k (hk:k<s.size),((s[k]'hk).toNat:Int)=at8 s k:=zix s;have hW:=ziy s;have A4:∀k,IntKind.i64.wrap (at8 s k)=at8 s k:=fun k=>by have:=zh8 s k;rw[IntKind.wrap_i64];omega
 have L:Hid (zdi s 10=10):=ziz h9;have A6:¬at8 s 9<10:=by omega
 have A5:∀w:World,(Instr.makeSlice 117 (.int .i64 10) (.int .i64 10)).run prog w=.ok (.slice (some ⟨w.heap.size,0,none⟩) 10 10) (w.alloc (.cells (zeg (List.replicate 10 (0,false))).toArray 202)):=z5l 10 (by omega);obtain⟨l,F⟩:∃l,l=zig s:=⟨_,rfl⟩;have B:Hid (l.length=10):=by rw[Hid,F,zeb,L.o]
 have K:=zaa F;clear F;go_enter func210,ntmps210;go_wp2
 go_loopw [13] (fun i wr=>∃k:Nat,k≤10∧i=.int .i64 k∧Hid (wr.heap[w.heap.size]?=some (.cells (zeg (zbt (0,false) l k)).toArray 202 (0,0)))∧Below w.heap.size w wr) (fun i _=>10 - (intOf i).toNat)
 case atStart=>exact⟨0,Nat.zero_le _,rfl,by rw[zfn,B.o];exact heap_alloc_new w _,zab _ _⟩
 case round=>
  obtain⟨k,hk,rfl,A,C⟩:=hrel;have I:w.heap.size<wr.heap.size:=(Array.getElem?_eq_some_iff.1 A.o).1;by_cases hlt:k<10
  ·have A1:(k:Int)<10:=by omega
   have A2:10+2*k<s.size:=by omega
   have A0:11+2*k<s.size:=by omega
   have hT:((10:Int)+2*(k:Int)).toNat=10+2*k:=by omega
   have A7:((10:Int)+2*(k:Int)+1).toNat=11+2*k:=by omega
   have u1:IntKind.i64.wrap (2*(k:Int))=2*(k:Int):=by rw[IntKind.wrap_i64];omega
   have u2:IntKind.i64.wrap (10+2*(k:Int))=10+2*(k:Int):=by rw[IntKind.wrap_i64];omega
   have u3:IntKind.i64.wrap (10+2*(k:Int)+1)=10+2*(k:Int)+1:=by rw[IntKind.wrap_i64];omega
   obtain⟨y,f,hy,A8⟩:∃y f,wr.cell? ⟨w.heap.size,k*2,none⟩=some (.int .i64 y)∧wr.cell? ⟨w.heap.size,k*2+1,none⟩=some (.bool f):=by
    have D:k<(zbt (0,false) l k).length:=by rw[zex _ _ _ (by rw[B.o];omega),B.o];exact hlt
    have:=zgr (zbt (0,false) l k) k D;refine⟨((zbt (0,false) l k).getD k (0,false)).1,((zbt (0,false) l k).getD k (0,false)).2,?_,?_⟩
    ·rw[cell_of_row wr _ _ _ _ _ A.o,List.getElem?_toArray];exact this.1
    ·rw[cell_of_row wr _ _ _ _ _ A.o,List.getElem?_toArray];exact this.2
   have fz:=frozen_of_row wr _ (k*2) _ _ A.o;have A3:=frozen_of_row wr _ (k*2+1) _ _ A.o;have N:Hid (l[k]?=some (at8 s (10+2*k),at8 s (11+2*k) !=0)):=by rw[Hid,K.o];exact zoi s k (by rw[L.o];exact hlt)
   go_wp2
   go_region
   all_goals
    go_wp2
    go_roundw
    case rel=>
     refine⟨k+1,by omega,by go_num,?_,((C.setCell (by simp) _).setCell (by simp) _).drew⟩;have M:=heap_setCell_same wr w.heap.size (k*2) _ _ (.int .i64 (at8 s (10+2*k))) A.o;refine(heap_setCell_same _ w.heap.size (k*2+1) _ _ _ M).trans ?_;rw[←zgq (0,false) l k _ N.o,←zni];simp
    case measure=>simp[intOf];omega
  ·have e:k=10:=by omega
   subst e;have E:=A.o;rw[←B.o,ziv]at E;have J:=zaa E;clear E A;go_wp2;go_ret;refine⟨_,_,rfl,⟨?_,fun b off e=>by cases e;exact Nat.le_refl _⟩,C⟩;rw[←K.o];by_cases h0:l=[]
   ·exact .inl h0
   ·refine .inr ⟨w.heap.size,0,rfl,I,fun i hi=>?_⟩;rw[cell_of_row wr _ _ _ _ _ J.o,cell_of_row wr _ _ _ _ _ J.o,Nat.zero_add,List.getElem?_toArray,List.getElem?_toArray];exact zgr l i hi
theorem zok(s:ByteArray)(w:World)(hs:s.size=32):
  Calls prog 210 #[.string s] w fun e w'=>∃a2 c2,e=.returned (.slice a2 (zig s).length c2)∧(SegT w' a2 (zig s)∧∀b off,a2=some ⟨b,off,none⟩→w.heap.size≤b)∧Below w.heap.size w w':=by
 rw[zeb];by_cases h:at8 s 9≤10
 ·obtain⟨n,A⟩:=Int.eq_ofNat_of_zero_le (zh8 s 9).1;rw[zk3 A (by omega)];exact zoj s n w hs (by omega) A
 ·rw[ziz (show((10:Nat):Int)<at8 s 9 by omega)];exact zmv s w hs (by omega)
