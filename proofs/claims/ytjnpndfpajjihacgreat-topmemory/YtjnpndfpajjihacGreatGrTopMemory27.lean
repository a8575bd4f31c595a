/-
  
-/
import Derived.Test.YtjnpndfpajjihacGreatGrTopMemory26
import Derived.Test.YtjnpndfpajjihacGreatGrTopMemory3
set_option maxRecDepth 100000
set_option maxHeartbeats 40000000
namespace Go.Proofs.YtjnpndfpajjihacGreat
open Go.RowKit Go.Shelf
attribute [local go_sem] Oper.semAt_some
def KeepsR (Bs Bn:Nat)(W W':World):Prop:=∀k,(k=Bs∨k=Bn)→∀o,W.heap[k]?=some o→o.isCells=true→W'.heap[k]?=some o
theorem KeepsR.refl (Bs Bn:Nat)(W:World):KeepsR Bs Bn W W:=fun _ _ _ h _=>h
theorem KeepsR.trans {Bs Bn:Nat}(A B C:World)(h:KeepsR Bs Bn A B)(k:KeepsR Bs Bn B C):KeepsR Bs Bn A C:=fun j hj o ho hc=>k j hj o (h j hj o ho hc) hc
theorem KeepsR.put {Bs Bn:Nat}(W:World)(r:Nat)(o o':Obj)(hr:W.heap[r]?=some o)(ho:o.isCells=false):KeepsR Bs Bn W (W.putObj r o'):=by
 intro k _ x hx hc;by_cases e:k=r
 ·subst e
  rw[hr] at hx;cases hx;rw[ho] at hc;cases hc
 ·exact(World.putObj_heap_other e).trans hx
theorem zye {W W':World}{b:Nat}(h:W'.heap[b]?=W.heap[b]?)(o:Nat):W'.cell? ⟨b,o,none⟩=W.cell? ⟨b,o,none⟩:=by
 simp only[World.cell?,h]
theorem z1g {W:World}{b o:Nat}{v:Value}(h:W.cell? ⟨b,o,none⟩=some v):∃x,W.heap[b]?=some x∧x.isCells=true:=by
 unfold World.cell? at h;split at h
 ·rename_i c t f hx
  exact⟨_,hx,rfl⟩
 ·cases h
theorem KeepsR.cell {Bs Bn:Nat}{W W':World}(h:KeepsR Bs Bn W W'){B:Nat}(hB:B=Bs∨B=Bn){o:Nat}{v:Value}(hc:W.cell? ⟨B,o,none⟩=some v):W'.cell? ⟨B,o,none⟩=some v:=by
 obtain⟨x,h1,h2⟩:=z1g hc;exact(zye ((h B hB x h1 h2).trans h1.symm) o).trans hc
def z4b (m:List (Int×ByteArray))(k:Nat):Array Value:=#[.int .i64 ((m.length - 1 - k:Nat):Int),.agg #[.int .i64 (m.getD (m.length - 1 - k) (0,ByteArray.empty)).1,.string (m.getD (m.length - 1 - k) (0,ByteArray.empty)).2]]
def zyf (a:Option Addr):Nat:=match a with|some x=>x.block|none=>0
attribute [local go_sem] Oper.semAt_some
theorem z2b (F:Fence)(n:Nat)(hF:F.fn 188)(hro:F.round=none)(a:Option Addr)(len cap:Nat)(w:World):
  CallsIn F n Tryz.prog 188 #[.slice a len cap] w fun e w'=>e=.returned (.func (.func 209) #[] #[.pointer (some ⟨w.heap.size,0,none⟩)])∧w'=w.alloc (.cells #[.slice a len cap] 88):=by
 refine callsIn_of_wp Tryz.func188 rfl hF ?_ hro;simp only[Tryz.ntmps188,List.size_toArray,List.length_cons,List.length_nil,Nat.reduceAdd,Nat.reduceSub,Array.replicate_succ,Array.replicate_zero,List.push_toArray,List.append_toArray,List.nil_append,List.cons_append]
 gi_wp2
 go_ret;exact⟨rfl,rfl⟩
def z2c (c:Nat→Nat→Value)(N:Nat)(k:Nat):Array Value:=#[.int .i64 ((N - 1 - k:Nat):Int),.agg #[c (N - 1 - k) 0,c (N - 1 - k) 1,c (N - 1 - k) 2,c (N - 1 - k) 3,c (N - 1 - k) 4,c (N - 1 - k) 5,c (N - 1 - k) 6,c (N - 1 - k) 7,c (N - 1 - k) 8,c (N - 1 - k) 9]]
theorem zwr (F:Fence)(n:Nat)(hF:F.fn 209)(hro:F.round=none)(hn:1≤n)(l Bs b off cap N:Nat)(hlen:N≤maxLen)(c:Nat→Nat→Value)(J:Nat→World→Prop)(S:World→Prop)
  (hY:∀k V,k<N→J k V→YieldAt F (n - 1) Tryz.prog l (z2c c N k) V fun e V'=>KeepsR Bs b V V'∧((e=.returned (.bool true)∧J (k+1) V')∨(e=.returned (.bool false)∧S V')))
  (W:World) (hBs:W.cell? ⟨Bs,0,none⟩=some (.slice (some ⟨b,off,none⟩) N cap)) (hrow:∀i,i<N→∀q,q<10→W.cell? ⟨b,off+i*10+q,none⟩=some (c i q)) (h0:J 0 W):
  CallsIn F n Tryz.prog 209 #[.func (.yield l) #[] #[],.pointer (some ⟨Bs,0,none⟩)] W fun e W'=>(∃v,e=.returned v)∧(J N W'∨S W'):=by
 unfold maxLen at hlen;refine callsIn_of_wp Tryz.func209 rfl hF ?_ hro;simp only[Tryz.ntmps209,List.size_toArray,List.length_cons,List.length_nil,Nat.reduceAdd,Nat.reduceSub,Array.replicate_succ,Array.replicate_zero,List.push_toArray,List.append_toArray,List.nil_append,List.cons_append]
 gi_wp2
 gi_loopw [3] (fun i wr=>∃k:Nat,k≤N∧i=.int .i64 ((N:Int) - 1 - (k:Int))∧J k wr∧KeepsR Bs b W wr) (fun i _=>(intOf i+1).toNat)
 case atStart=>exact⟨0,Nat.zero_le _,by go_num,h0,KeepsR.refl _ _ _⟩
 case round=>
  obtain⟨k,hk,rfl,hJs,hKr⟩:=hrel;have c1:=hKr.cell (.inl rfl) hBs;by_cases hlt:k<N
  ·obtain⟨j,hj⟩:∃j,j=N - 1 - k:=⟨_,rfl⟩
   have hjI:(N:Int) - 1 - (k:Int)=(j:Int):=by omega
   have hr:=hrow j (by omega);have d0:wr.cell? ⟨b,off+j*10,none⟩=some (c j 0):=hKr.cell (.inr rfl) (hr 0 (by decide));have d1:=hKr.cell (.inr rfl) (hr 1 (by decide));have d2:=hKr.cell (.inr rfl) (hr 2 (by decide));have d3:=hKr.cell (.inr rfl) (hr 3 (by decide));have d4:=hKr.cell (.inr rfl) (hr 4 (by decide));have d5:=hKr.cell (.inr rfl) (hr 5 (by decide));have d6:=hKr.cell (.inr rfl) (hr 6 (by decide));have d7:=hKr.cell (.inr rfl) (hr 7 (by decide));have d8:=hKr.cell (.inr rfl) (hr 8 (by decide));have d9:=hKr.cell (.inr rfl) (hr 9 (by decide));obtain⟨fn,tmps,assign,body,hy,hR⟩:=hY k wr hlt hJs;rw[z2c,←hj] at hy;obtain⟨x0,hx0⟩:∃x,x=c j 0:=⟨_,rfl⟩;obtain⟨x1,hx1⟩:∃x,x=c j 1:=⟨_,rfl⟩;obtain⟨x2,hx2⟩:∃x,x=c j 2:=⟨_,rfl⟩;obtain⟨x3,hx3⟩:∃x,x=c j 3:=⟨_,rfl⟩;obtain⟨x4,hx4⟩:∃x,x=c j 4:=⟨_,rfl⟩;obtain⟨x5,hx5⟩:∃x,x=c j 5:=⟨_,rfl⟩;obtain⟨x6,hx6⟩:∃x,x=c j 6:=⟨_,rfl⟩;obtain⟨x7,hx7⟩:∃x,x=c j 7:=⟨_,rfl⟩;obtain⟨x8,hx8⟩:∃x,x=c j 8:=⟨_,rfl⟩;obtain⟨x9,hx9⟩:∃x,x=c j 9:=⟨_,rfl⟩;rw[←hx0,←hx1,←hx2,←hx3,←hx4,←hx5,←hx6,←hx7,←hx8,←hx9] at hy;rw[←hx0] at d0;rw[←hx1] at d1;rw[←hx2] at d2;rw[←hx3] at d3;rw[←hx4] at d4;rw[←hx5] at d5;rw[←hx6] at d6;rw[←hx7] at d7;rw[←hx8] at d8;rw[←hx9] at d9;rw[hjI];have hj0:(0:Int)≤(j:Int):=by omega
   have hjl:j<N:=by omega
   have HJ:=zaa hj;clear hr hx0 hx1 hx2 hx3 hx4 hx5 hx6 hx7 hx8 hx9 hj hjI
   gi_wp2
   refine hR.mono ?_;rintro e W3 ⟨hk3,⟨rfl,hJ3⟩|⟨rfl,hS3⟩⟩
   ·have c3:=KeepsR.trans _ _ _ hKr hk3
    have d3:=c3.cell (.inl rfl) hBs;clear hR hy d0 d1 d2 d4 d5 d6 d7 d8 d9
    gi_wp2
    go_roundw
    case rel=>exact⟨k+1,by omega,by have:=HJ.o;go_num,hJ3,c3⟩
    case measure=>have:=HJ.o;first|(simp[intOf];omega)|simp[intOf]
   ·clear hR hy d0 d1 d2 d3 d4 d5 d6 d7 d8 d9
    gi_wp2
    refine bodyPost_ret (results_none rfl _ _ _) rfl ?_;exact⟨⟨_,rfl⟩,.inr hS3⟩
  ·have e:k=N:=by omega
   subst e;have hneg:¬((0:Int)≤(k:Int) - 1 - (k:Int)):=by omega
   gi_wp2
   go_end0
   exact⟨⟨_,rfl⟩,.inl hJs⟩
theorem zws (F:Fence)(n:Nat)(hF:F.fn 209)(hro:F.round=none)(l Bs cap:Nat)(a:Option Addr)(J:Nat→World→Prop)(S:World→Prop)(W:World)(hBs:W.cell? ⟨Bs,0,none⟩=some (.slice a 0 cap))(h0:J 0 W):
  CallsIn F n Tryz.prog 209 #[.func (.yield l) #[] #[],.pointer (some ⟨Bs,0,none⟩)] W fun e W'=>(∃v,e=.returned v)∧(J 0 W'∨S W'):=by
 refine callsIn_of_wp Tryz.func209 rfl hF ?_ hro;simp only[Tryz.ntmps209,List.size_toArray,List.length_cons,List.length_nil,Nat.reduceAdd,Nat.reduceSub,Array.replicate_succ,Array.replicate_zero,List.push_toArray,List.append_toArray,List.nil_append,List.cons_append]
 gi_wp2
 gi_loopw [3] (fun i wr=>i=.int .i64 (-1)∧J 0 wr∧wr=W) (fun _ _=>0)
 case atStart=>exact⟨by go_num,h0,rfl⟩
 case round=>
  obtain⟨rfl,hJs,rfl⟩:=hrel
  gi_wp2
  go_end0
  exact⟨⟨_,rfl⟩,.inl hJs⟩
theorem zq7 (F:Fence)(n:Nat)(hF:F.fn 209)(hro:F.round=none)(hn:1≤n)(Bs cap:Nat)(a:Option Addr)(m:List Tx)(hlen:m.length≤maxLen)(w:World)(hlt:Bs<w.heap.size)(hBs:w.cell? ⟨Bs,0,none⟩=some (.slice a m.length cap))(hm:SegTx w a m):
  ∃c:Nat→Nat→Value,zup F n Tryz.prog 209 #[.pointer (some ⟨Bs,0,none⟩)] (z2c c m.length) m.length (KeepsR Bs (zyf a)) w∧
   ∀i,i<m.length→IsTx w (.agg #[c i 0,c i 1,c i 2,c i 3,c i 4,c i 5,c i 6,c i 7,c i 8,c i 9]) (m.getD i txz):=by
 rcases hm with rfl|⟨b,off,rfl,hb,hc⟩
 ·refine⟨fun _ _=>undef,fun l J S W hW hY h0=>?_,fun i hi=>by simp at hi⟩
  exact zws F n hF hro l Bs cap a J S W (zac hW hlt hBs) h0
 ·refine⟨fun i q=>(w.cell? ⟨b,off+i*10+q,none⟩).getD undef,fun l J S W hW hY h0=>?_,fun i hi=>?_⟩
  ·refine zwr F n hF hro hn l Bs b off cap m.length hlen _ J S hY W (zac hW hlt hBs) (fun i hi q hq=>zac hW hb ?_) h0
   obtain⟨_,_,_,_,_,_,⟨t0,t1,t2,t3,t4,t5,t6,t7,t8,t9⟩,_⟩:=hc i hi
   match q,hq with
   |0,_=>exact t0.trans (by rw[show off+i*10+0=off+i*10 from rfl,t0];rfl)
   |1,_=>exact t1.trans (by rw[t1];rfl)
   |2,_=>exact t2.trans (by rw[t2];rfl)
   |3,_=>exact t3.trans (by rw[t3];rfl)
   |4,_=>exact t4.trans (by rw[t4];rfl)
   |5,_=>exact t5.trans (by rw[t5];rfl)
   |6,_=>exact t6.trans (by rw[t6];rfl)
   |7,_=>exact t7.trans (by rw[t7];rfl)
   |8,_=>exact t8.trans (by rw[t8];rfl)
   |9,_=>exact t9.trans (by rw[t9];rfl)
  ·obtain⟨_,_,_,_,_,_,⟨t0,t1,t2,t3,t4,t5,t6,t7,t8,t9⟩,hT⟩:=hc i hi
   have e0:w.cell? ⟨b,off+i*10+0,none⟩=_:=t0;simp only[e0,t1,t2,t3,t4,t5,t6,t7,t8,t9,Option.getD_some];exact hT
attribute [local go_sem] Oper.semAt_some
theorem z2e (F:Fence)(n:Nat)(hF:F.fn 151)(hro:F.round=none)(a:Option Addr)(len cap:Nat)(w:World):
  CallsIn F n Tryz.prog 151 #[.slice a len cap] w fun e w'=>e=.returned (.func (.func 192) #[] #[.pointer (some ⟨w.heap.size,0,none⟩)])∧w'=w.alloc (.cells #[.slice a len cap] 34):=by
 refine callsIn_of_wp Tryz.func151 rfl hF ?_ hro;simp only[Tryz.ntmps151,List.size_toArray,List.length_cons,List.length_nil,Nat.reduceAdd,Nat.reduceSub,Array.replicate_succ,Array.replicate_zero,List.push_toArray,List.append_toArray,List.nil_append,List.cons_append]
 gi_wp2
 go_ret;exact⟨rfl,rfl⟩
theorem zww (F:Fence)(n:Nat)(hF:F.fn 192)(hro:F.round=none)(hn:1≤n)(l Bs b off cap:Nat)(m:List (Int×ByteArray))(hlen:m.length≤maxLen)(J:Nat→World→Prop)
  (hY:∀k V,k<m.length→J k V→YieldAt F (n - 1) Tryz.prog l #[.int .i64 ((m.length - 1 - k:Nat):Int),.agg #[.int .i64 (m.getD (m.length - 1 - k) (0,ByteArray.empty)).1,.string (m.getD (m.length - 1 - k) (0,ByteArray.empty)).2]] V fun e V'=>e=.returned (.bool true)∧J (k+1) V'∧KeepsR Bs b V V')
  (W:World) (hBs:W.cell? ⟨Bs,0,none⟩=some (.slice (some ⟨b,off,none⟩) m.length cap)) (hrow:∀i,i<m.length→W.cell? ⟨b,off+i*2,none⟩=some (.int .i64 (m.getD i (0,ByteArray.empty)).1)∧W.cell? ⟨b,off+i*2+1,none⟩=some (.string (m.getD i (0,ByteArray.empty)).2)) (h0:J 0 W):
  CallsIn F n Tryz.prog 192 #[.func (.yield l) #[] #[],.pointer (some ⟨Bs,0,none⟩)] W fun e W'=>(∃v,e=.returned v)∧J m.length W':=by
 unfold maxLen at hlen;refine callsIn_of_wp Tryz.func192 rfl hF ?_ hro;simp only[Tryz.ntmps192,List.size_toArray,List.length_cons,List.length_nil,Nat.reduceAdd,Nat.reduceSub,Array.replicate_succ,Array.replicate_zero,List.push_toArray,List.append_toArray,List.nil_append,List.cons_append]
 gi_wp2
 gi_loopw [3] (fun i wr=>∃k:Nat,k≤m.length∧i=.int .i64 ((m.length:Int) - 1 - (k:Int))∧J k wr∧KeepsR Bs b W wr) (fun i _=>(intOf i+1).toNat)
 case atStart=>exact⟨0,Nat.zero_le _,by go_num,h0,KeepsR.refl _ _ _⟩
 case round=>
  obtain⟨k,hk,rfl,hJs,hKr⟩:=hrel;have c1:=hKr.cell (.inl rfl) hBs;by_cases hlt:k<m.length
  ·obtain⟨j,hj⟩:∃j,j=m.length - 1 - k:=⟨_,rfl⟩
   have hjI:(m.length:Int) - 1 - (k:Int)=(j:Int):=by omega
   obtain⟨r1,r2⟩:=hrow j (by omega);have d1:=hKr.cell (.inr rfl) r1;have d2:=hKr.cell (.inr rfl) r2;obtain⟨fn,tmps,assign,body,hy,hR⟩:=hY k wr hlt hJs;rw[←hj] at hy;obtain⟨x,hx⟩:∃x,x=m.getD j (0,ByteArray.empty):=⟨_,rfl⟩;rw[←hx] at d1 d2 hy;rw[hjI];have hj0:(0:Int)≤(j:Int):=by omega
   have hjl:j<m.length:=by omega
   have HJ:=zaa hj;clear r1 r2 hx hj hjI
   gi_wp2
   refine hR.mono ?_;rintro e W3 ⟨rfl,hJ3,hk3⟩;have c3:=KeepsR.trans _ _ _ hKr hk3;have d3:=c3.cell (.inl rfl) hBs;clear hR hy d1 d2
   gi_wp2
   go_roundw
   case rel=>exact⟨k+1,by omega,by have:=HJ.o;go_num,hJ3,c3⟩
   case measure=>have:=HJ.o;first|(simp[intOf];omega)|simp[intOf]
  ·have e:k=m.length:=by omega
   subst e;have hneg:¬((0:Int)≤(m.length:Int) - 1 - (m.length:Int)):=by omega
   gi_wp2
   go_end0
   exact⟨⟨_,rfl⟩,hJs⟩
theorem zwx (F:Fence)(n:Nat)(hF:F.fn 192)(hro:F.round=none)(l Bs cap:Nat)(a:Option Addr)(J:Nat→World→Prop)(W:World)(hBs:W.cell? ⟨Bs,0,none⟩=some (.slice a 0 cap))(h0:J 0 W):
  CallsIn F n Tryz.prog 192 #[.func (.yield l) #[] #[],.pointer (some ⟨Bs,0,none⟩)] W fun e W'=>(∃v,e=.returned v)∧J 0 W':=by
 refine callsIn_of_wp Tryz.func192 rfl hF ?_ hro;simp only[Tryz.ntmps192,List.size_toArray,List.length_cons,List.length_nil,Nat.reduceAdd,Nat.reduceSub,Array.replicate_succ,Array.replicate_zero,List.push_toArray,List.append_toArray,List.nil_append,List.cons_append]
 gi_wp2
 gi_loopw [3] (fun i wr=>i=.int .i64 (-1)∧J 0 wr∧wr=W) (fun _ _=>0)
 case atStart=>exact⟨by go_num,h0,rfl⟩
 case round=>
  obtain⟨rfl,hJs,rfl⟩:=hrel
  gi_wp2
  go_end0
  exact⟨⟨_,rfl⟩,hJs⟩
theorem zrb (F:Fence)(n:Nat)(hF:F.fn 192)(hro:F.round=none)(hn:1≤n)(Bs cap:Nat)(a:Option Addr)(m:List (Int×ByteArray))(hlen:m.length≤maxLen)(w:World)(hlt:Bs<w.heap.size)(hBs:w.cell? ⟨Bs,0,none⟩=some (.slice a m.length cap))(hm:SegW w a m):
  ziu F n Tryz.prog 192 #[.pointer (some ⟨Bs,0,none⟩)] (z4b m) m.length (KeepsR Bs (zyf a)) w:=by
 intro l J W hW hd hY h0;rcases hm with rfl|⟨b,off,rfl,hb,hc⟩
 ·exact zwx F n hF hro l Bs cap a J W (zac hW hlt hBs) h0
 ·exact zww F n hF hro hn l Bs b off cap m hlen J hY W (zac hW hlt hBs) (fun i hi=>⟨zac hW hb (hc i hi).1,zac hW hb (hc i hi).2⟩) h0
end Go.Proofs.YtjnpndfpajjihacGreat

