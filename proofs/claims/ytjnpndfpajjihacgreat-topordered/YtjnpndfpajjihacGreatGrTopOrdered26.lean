/-
  
-/
import Derived.Test.YtjnpndfpajjihacGreatGrTopOrdered25
import Derived.Test.YtjnpndfpajjihacGreatGrTopOrdered3
set_option maxRecDepth 100000
set_option maxHeartbeats 40000000
namespace Go.Proofs.YtjnpndfpajjihacGreat
open Go.RowKit Go.Shelf
attribute [local go_sem] Oper.semAt_some
def KeepsR (Bs Bn:Nat)(W W':World):Prop:=∀k,(k=Bs∨k=Bn)→∀o,W.heap[k]?=some o→o.isCells=true→W'.heap[k]?=some o
theorem KeepsR.refl(Bs Bn:Nat)(W:World):KeepsR Bs Bn W W:=fun _ _ _ h _=>h
theorem KeepsR.trans{Bs Bn:Nat}(A B C:World)(h:KeepsR Bs Bn A B)(k:KeepsR Bs Bn B C):KeepsR Bs Bn A C:=fun j hj o ho hc=>k j hj o (h j hj o ho hc) hc
theorem KeepsR.put{Bs Bn:Nat}(W:World)(r:Nat)(o o':Obj)(hr:W.heap[r]?=some o)(ho:o.isCells=false):KeepsR Bs Bn W (W.putObj r o'):=by
 intro k _ x A B;by_cases e:k=r
 ·subst e;rw[hr]at A;cases A;rw[ho]at B;cases B
 ·exact(World.putObj_heap_other e).trans A
theorem zy8{W W':World}{b:Nat}(h:W'.heap[b]?=W.heap[b]?)(o:Nat):W'.cell? ⟨b,o,none⟩=W.cell? ⟨b,o,none⟩:=by
 simp only[World.cell?,h]
theorem z2j{W:World}{b o:Nat}{v:Value}(h:W.cell? ⟨b,o,none⟩=some v):∃x,W.heap[b]?=some x∧x.isCells=true:=by
 unfold World.cell? at h;split at h
 ·rename_i c t f A;exact⟨_,A,rfl⟩
 ·cases h
theorem KeepsR.cell{Bs Bn:Nat}{W W':World}(h:KeepsR Bs Bn W W'){B:Nat}(hB:B=Bs∨B=Bn){o:Nat}{v:Value}(hc:W.cell? ⟨B,o,none⟩=some v):W'.cell? ⟨B,o,none⟩=some v:=by
 obtain⟨x,A,C⟩:=z2j hc;exact(zy8 ((h B hB x A C).trans A.symm) o).trans hc
def z5h (m:List (Int×ByteArray))(k:Nat):Array Value:=#[.int .i64 ((m.length - 1 - k:Nat):Int),.agg #[.int .i64 (m.getD (m.length - 1 - k) (0,ByteArray.empty)).1,.string (m.getD (m.length - 1 - k) (0,ByteArray.empty)).2]]
def zy9 (a:Option Addr):Nat:=match a with|some x=>x.block|none=>0
open Go.Proofs.Tryz
open Go.RowKit Go.Shelf
attribute [local go_sem] Oper.semAt_some
theorem z3g(F:Fence)(n:Nat)(hF:F.fn 188)(hro:F.round=none)(a:Option Addr)(len cap:Nat)(w:World):
  CallsIn F n prog 188 #[.slice a len cap] w fun e w'=>e=.returned (.func (.func 209) #[] #[.pointer (some ⟨w.heap.size,0,none⟩)])∧w'=w.alloc (.cells #[.slice a len cap] 88):=by
 refine callsIn_of_wp func188 rfl hF ?_ hro;simp only[ntmps188,List.size_toArray,List.length_cons,List.length_nil,Nat.reduceAdd,Nat.reduceSub,Array.replicate_succ,Array.replicate_zero,List.push_toArray,List.append_toArray,List.nil_append,List.cons_append]
 gi_wp2
 go_ret;exact⟨rfl,rfl⟩
def z3h (c:Nat→Nat→Value)(N:Nat)(k:Nat):Array Value:=#[.int .i64 ((N - 1 - k:Nat):Int),.agg #[c (N - 1 - k) 0,c (N - 1 - k) 1,c (N - 1 - k) 2,c (N - 1 - k) 3,c (N - 1 - k) 4,c (N - 1 - k) 5,c (N - 1 - k) 6,c (N - 1 - k) 7,c (N - 1 - k) 8,c (N - 1 - k) 9]]
theorem zxo(F:Fence)(n:Nat)(hF:F.fn 209)(hro:F.round=none)(hn:1≤n)(l Bs b off cap N:Nat)(hlen:N≤maxLen)(c:Nat→Nat→Value)(J:Nat→World→Prop)(S:World→Prop)
  (hY:∀k V,k<N→J k V→YieldAt F (n - 1) prog l (z3h c N k) V fun e V'=>KeepsR Bs b V V'∧((e=.returned (.bool true)∧J (k+1) V')∨(e=.returned (.bool false)∧S V')))
  (W:World) (hBs:W.cell? ⟨Bs,0,none⟩=some (.slice (some ⟨b,off,none⟩) N cap)) (hrow:∀i,i<N→∀q,q<10→W.cell? ⟨b,off+i*10+q,none⟩=some (c i q)) (h0:J 0 W):
  CallsIn F n prog 209 #[.func (.yield l) #[] #[],.pointer (some ⟨Bs,0,none⟩)] W fun e W'=>(∃v,e=.returned v)∧(J N W'∨S W'):=by
 unfold maxLen at hlen;refine callsIn_of_wp func209 rfl hF ?_ hro;simp only[ntmps209,List.size_toArray,List.length_cons,List.length_nil,Nat.reduceAdd,Nat.reduceSub,Array.replicate_succ,Array.replicate_zero,List.push_toArray,List.append_toArray,List.nil_append,List.cons_append]
 gi_wp2
 gi_loopw [3] (fun i wr=>∃k:Nat,k≤N∧i=.int .i64 ((N:Int) - 1 - (k:Int))∧J k wr∧KeepsR Bs b W wr) (fun i _=>(intOf i+1).toNat)
 case atStart=>exact⟨0,Nat.zero_le _,by go_num,h0,KeepsR.refl _ _ _⟩
 case round=>
  obtain⟨k,hk,rfl,Y,A⟩:=hrel;have c1:=A.cell (.inl rfl) hBs;by_cases hlt:k<N
  ·obtain⟨j,y⟩:∃j,j=N - 1 - k:=⟨_,rfl⟩;have X:(N:Int) - 1 - (k:Int)=(j:Int):=by omega
   have B:=hrow j (by omega);have m:wr.cell? ⟨b,off+j*10,none⟩=some (c j 0):=A.cell (.inr rfl) (B 0 (by decide));have h:=A.cell (.inr rfl) (B 1 (by decide));have p:=A.cell (.inr rfl) (B 2 (by decide));have d:=A.cell (.inr rfl) (B 3 (by decide));have w:=A.cell (.inr rfl) (B 4 (by decide));have a:=A.cell (.inr rfl) (B 5 (by decide));have Z:=A.cell (.inr rfl) (B 6 (by decide));have u:=A.cell (.inr rfl) (B 7 (by decide));have z:=A.cell (.inr rfl) (B 8 (by decide));have r:=A.cell (.inr rfl) (B 9 (by decide));obtain⟨fn,A3,assign,body,U,s⟩:=hY k wr hlt Y;rw[z3h,←y]at U;obtain⟨x0,Q⟩:∃x,x=c j 0:=⟨_,rfl⟩;obtain⟨x1,O⟩:∃x,x=c j 1:=⟨_,rfl⟩;obtain⟨x2,C⟩:∃x,x=c j 2:=⟨_,rfl⟩;obtain⟨x3,I⟩:∃x,x=c j 3:=⟨_,rfl⟩;obtain⟨x4,E⟩:∃x,x=c j 4:=⟨_,rfl⟩;obtain⟨x5,K⟩:∃x,x=c j 5:=⟨_,rfl⟩;obtain⟨x6,L⟩:∃x,x=c j 6:=⟨_,rfl⟩;obtain⟨x7,M⟩:∃x,x=c j 7:=⟨_,rfl⟩;obtain⟨x8,D⟩:∃x,x=c j 8:=⟨_,rfl⟩;obtain⟨x9,R⟩:∃x,x=c j 9:=⟨_,rfl⟩;rw[←Q,←O,←C,←I,←E,←K,←L,←M,←D,←R]at U;rw[←Q]at m;rw[←O]at h;rw[←C]at p;rw[←I]at d;rw[←E]at w;rw[←K]at a;rw[←L]at Z;rw[←M]at u;rw[←D]at z;rw[←R]at r;rw[X];have A6:(0:Int)≤(j:Int):=by omega
   have A5:j<N:=by omega
   have HJ:=zab y;clear B Q O C I E K L M D R y X
   gi_wp2
   refine s.mono ?_;rintro e W3 ⟨A2,⟨rfl,A1⟩|⟨rfl,A0⟩⟩
   ·have c3:=KeepsR.trans _ _ _ A A2;have d:=c3.cell (.inl rfl) hBs;clear s U m h p w a Z u z r
    gi_wp2
    go_roundw
    case rel=>exact⟨k+1,by omega,by have:=HJ.o;go_num,A1,c3⟩
    case measure=>have:=HJ.o;first|(simp[intOf];omega)|simp[intOf]
   ·clear s U m h p d w a Z u z r
    gi_wp2
    refine bodyPost_ret (results_none rfl _ _ _) rfl ?_;exact⟨⟨_,rfl⟩,.inr A0⟩
  ·have e:k=N:=by omega
   subst e;have A4:¬((0:Int)≤(k:Int) - 1 - (k:Int)):=by omega
   gi_wp2
   go_end0
   exact⟨⟨_,rfl⟩,.inl Y⟩
theorem zxp(F:Fence)(n:Nat)(hF:F.fn 209)(hro:F.round=none)(l Bs cap:Nat)(a:Option Addr)(J:Nat→World→Prop)(S:World→Prop)(W:World)(hBs:W.cell? ⟨Bs,0,none⟩=some (.slice a 0 cap))(h0:J 0 W):
  CallsIn F n prog 209 #[.func (.yield l) #[] #[],.pointer (some ⟨Bs,0,none⟩)] W fun e W'=>(∃v,e=.returned v)∧(J 0 W'∨S W'):=by
 refine callsIn_of_wp func209 rfl hF ?_ hro;simp only[ntmps209,List.size_toArray,List.length_cons,List.length_nil,Nat.reduceAdd,Nat.reduceSub,Array.replicate_succ,Array.replicate_zero,List.push_toArray,List.append_toArray,List.nil_append,List.cons_append]
 gi_wp2
 gi_loopw [3] (fun i wr=>i=.int .i64 (-1)∧J 0 wr∧wr=W) (fun _ _=>0)
 case atStart=>exact⟨by go_num,h0,rfl⟩
 case round=>
  obtain⟨rfl,A,rfl⟩:=hrel
  gi_wp2
  go_end0
  exact⟨⟨_,rfl⟩,.inl A⟩
theorem zrt(F:Fence)(n:Nat)(hF:F.fn 209)(hro:F.round=none)(hn:1≤n)(Bs cap:Nat)(a:Option Addr)(m:List Tx)(hlen:m.length≤maxLen)(w:World)(hlt:Bs<w.heap.size)(hBs:w.cell? ⟨Bs,0,none⟩=some (.slice a m.length cap))(hm:SegTx w a m):
  ∃c:Nat→Nat→Value,zvg F n prog 209 #[.pointer (some ⟨Bs,0,none⟩)] (z3h c m.length) m.length (KeepsR Bs (zy9 a)) w∧
   ∀i,i<m.length→IsTx w (.agg #[c i 0,c i 1,c i 2,c i 3,c i 4,c i 5,c i 6,c i 7,c i 8,c i 9]) (m.getD i txz):=by
 rcases hm with rfl|⟨b,off,rfl,hb,hc⟩
 ·refine⟨fun _ _=>undef,fun l J S W hW hY h0=>?_,fun i hi=>by simp at hi⟩;exact zxp F n hF hro l Bs cap a J S W (zac hW hlt hBs) h0
 ·refine⟨fun i q=>(w.cell? ⟨b,off+i*10+q,none⟩).getD undef,fun l J S W hW hY h0=>?_,fun i hi=>?_⟩
  ·refine zxo F n hF hro hn l Bs b off cap m.length hlen _ J S hY W (zac hW hlt hBs) (fun i hi q hq=>zac hW hb ?_) h0;obtain⟨_,_,_,_,_,_,⟨B,A,I,L,K,N,M,E,C,D⟩,_⟩:=hc i hi
   match q,hq with
   |0,_=>exact B.trans (by rw[show off+i*10+0=off+i*10 from rfl,B];rfl)
   |1,_=>exact A.trans (by rw[A];rfl)
   |2,_=>exact I.trans (by rw[I];rfl)
   |3,_=>exact L.trans (by rw[L];rfl)
   |4,_=>exact K.trans (by rw[K];rfl)
   |5,_=>exact N.trans (by rw[N];rfl)
   |6,_=>exact M.trans (by rw[M];rfl)
   |7,_=>exact E.trans (by rw[E];rfl)
   |8,_=>exact C.trans (by rw[C];rfl)
   |9,_=>exact D.trans (by rw[D];rfl)
  ·obtain⟨_,_,_,_,_,_,⟨B,A,I,L,K,N,M,E,C,D⟩,O⟩:=hc i hi;have Q:w.cell? ⟨b,off+i*10+0,none⟩=_:=B;simp only[Q,A,I,L,K,N,M,E,C,D,Option.getD_some];exact O
open Go.RowKit Go.Shelf
attribute [local go_sem] Oper.semAt_some
theorem z3j(F:Fence)(n:Nat)(hF:F.fn 151)(hro:F.round=none)(a:Option Addr)(len cap:Nat)(w:World):
  CallsIn F n prog 151 #[.slice a len cap] w fun e w'=>e=.returned (.func (.func 192) #[] #[.pointer (some ⟨w.heap.size,0,none⟩)])∧w'=w.alloc (.cells #[.slice a len cap] 34):=by
 refine callsIn_of_wp func151 rfl hF ?_ hro;simp only[ntmps151,List.size_toArray,List.length_cons,List.length_nil,Nat.reduceAdd,Nat.reduceSub,Array.replicate_succ,Array.replicate_zero,List.push_toArray,List.append_toArray,List.nil_append,List.cons_append]
 gi_wp2
 go_ret;exact⟨rfl,rfl⟩
theorem zxt(F:Fence)(n:Nat)(hF:F.fn 192)(hro:F.round=none)(hn:1≤n)(l Bs b off cap:Nat)(m:List (Int×ByteArray))(hlen:m.length≤maxLen)(J:Nat→World→Prop)
  (hY:∀k V,k<m.length→J k V→YieldAt F (n - 1) prog l #[.int .i64 ((m.length - 1 - k:Nat):Int),.agg #[.int .i64 (m.getD (m.length - 1 - k) (0,ByteArray.empty)).1,.string (m.getD (m.length - 1 - k) (0,ByteArray.empty)).2]] V fun e V'=>e=.returned (.bool true)∧J (k+1) V'∧KeepsR Bs b V V')
  (W:World) (hBs:W.cell? ⟨Bs,0,none⟩=some (.slice (some ⟨b,off,none⟩) m.length cap)) (hrow:∀i,i<m.length→W.cell? ⟨b,off+i*2,none⟩=some (.int .i64 (m.getD i (0,ByteArray.empty)).1)∧W.cell? ⟨b,off+i*2+1,none⟩=some (.string (m.getD i (0,ByteArray.empty)).2)) (h0:J 0 W):
  CallsIn F n prog 192 #[.func (.yield l) #[] #[],.pointer (some ⟨Bs,0,none⟩)] W fun e W'=>(∃v,e=.returned v)∧J m.length W':=by
 unfold maxLen at hlen;refine callsIn_of_wp func192 rfl hF ?_ hro;simp only[ntmps192,List.size_toArray,List.length_cons,List.length_nil,Nat.reduceAdd,Nat.reduceSub,Array.replicate_succ,Array.replicate_zero,List.push_toArray,List.append_toArray,List.nil_append,List.cons_append]
 gi_wp2
 gi_loopw [3] (fun i wr=>∃k:Nat,k≤m.length∧i=.int .i64 ((m.length:Int) - 1 - (k:Int))∧J k wr∧KeepsR Bs b W wr) (fun i _=>(intOf i+1).toNat)
 case atStart=>exact⟨0,Nat.zero_le _,by go_num,h0,KeepsR.refl _ _ _⟩
 case round=>
  obtain⟨k,hk,rfl,C,A⟩:=hrel;have c1:=A.cell (.inl rfl) hBs;by_cases hlt:k<m.length
  ·obtain⟨j,E⟩:∃j,j=m.length - 1 - k:=⟨_,rfl⟩;have B:(m.length:Int) - 1 - (k:Int)=(j:Int):=by omega
   obtain⟨K,I⟩:=hrow j (by omega);have Q:=A.cell (.inr rfl) K;have L:=A.cell (.inr rfl) I;obtain⟨fn,A0,assign,body,D,N⟩:=hY k wr hlt C;rw[←E]at D;obtain⟨x,R⟩:∃x,x=m.getD j (0,ByteArray.empty):=⟨_,rfl⟩;rw[←R]at Q L D;rw[B];have A3:(0:Int)≤(j:Int):=by omega
   have A2:j<m.length:=by omega
   have O:=zab E;clear K I R E B
   gi_wp2
   refine N.mono ?_;rintro e W3 ⟨rfl,M,S⟩;have c3:=KeepsR.trans _ _ _ A S;have d3:=c3.cell (.inl rfl) hBs;clear N D Q L
   gi_wp2
   go_roundw
   case rel=>exact⟨k+1,by omega,by have:=O.o;go_num,M,c3⟩
   case measure=>have:=O.o;first|(simp[intOf];omega)|simp[intOf]
  ·have e:k=m.length:=by omega
   subst e;have A1:¬((0:Int)≤(m.length:Int) - 1 - (m.length:Int)):=by omega
   gi_wp2
   go_end0
   exact⟨⟨_,rfl⟩,C⟩
theorem zxu(F:Fence)(n:Nat)(hF:F.fn 192)(hro:F.round=none)(l Bs cap:Nat)(a:Option Addr)(J:Nat→World→Prop)(W:World)(hBs:W.cell? ⟨Bs,0,none⟩=some (.slice a 0 cap))(h0:J 0 W):
  CallsIn F n prog 192 #[.func (.yield l) #[] #[],.pointer (some ⟨Bs,0,none⟩)] W fun e W'=>(∃v,e=.returned v)∧J 0 W':=by
 refine callsIn_of_wp func192 rfl hF ?_ hro;simp only[ntmps192,List.size_toArray,List.length_cons,List.length_nil,Nat.reduceAdd,Nat.reduceSub,Array.replicate_succ,Array.replicate_zero,List.push_toArray,List.append_toArray,List.nil_append,List.cons_append]
 gi_wp2
 gi_loopw [3] (fun i wr=>i=.int .i64 (-1)∧J 0 wr∧wr=W) (fun _ _=>0)
 case atStart=>exact⟨by go_num,h0,rfl⟩
 case round=>
  obtain⟨rfl,A,rfl⟩:=hrel
  gi_wp2
  go_end0
  exact⟨⟨_,rfl⟩,A⟩
theorem zrx(F:Fence)(n:Nat)(hF:F.fn 192)(hro:F.round=none)(hn:1≤n)(Bs cap:Nat)(a:Option Addr)(m:List (Int×ByteArray))(hlen:m.length≤maxLen)(w:World)(hlt:Bs<w.heap.size)(hBs:w.cell? ⟨Bs,0,none⟩=some (.slice a m.length cap))(hm:SegW w a m):
  zi7 F n prog 192 #[.pointer (some ⟨Bs,0,none⟩)] (z5h m) m.length (KeepsR Bs (zy9 a)) w:=by
 intro l J W A hd C B;rcases hm with rfl|⟨b,off,rfl,hb,hc⟩
 ·exact zxu F n hF hro l Bs cap a J W (zac A hlt hBs) B
 ·exact zxt F n hF hro hn l Bs b off cap m hlen J C W (zac A hlt hBs) (fun i hi=>⟨zac A hb (hc i hi).1,zac A hb (hc i hi).2⟩) B
