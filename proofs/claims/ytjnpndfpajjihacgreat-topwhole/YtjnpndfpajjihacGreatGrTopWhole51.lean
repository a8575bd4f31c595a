/-
  
-/
import Derived.Test.YtjnpndfpajjihacGreatJMaps
import Derived.Test.YtjnpndfpajjihacGreatGrTopWhole48
import Derived.Test.YtjnpndfpajjihacGreatJDisk
import Derived.Test.YtjnpndfpajjihacGreatJRing
set_option maxRecDepth 100000
set_option maxHeartbeats 40000000
namespace Go.Proofs.YtjnpndfpajjihacGreat
open Tryz
open Go.RowKit
theorem z52 (w:World):(zeroValue 56).run prog w=.ok (.map none) w:=by kernel_rfl
theorem MapM.lookSome {w:World}{B n:Nat}{f:Int→Option Nat}(h:MapF z4z w B n f)(x:Int)(hx:(Lit.int .i64 x).wf=true){M:Nat}(hf:f x=some M):
  (Instr.lookup 57 (.map (some B)) (.int .i64 x) true).run prog w=.ok (.tuple #[.map (some M),.bool true]) w:=
 h.lookSome underlying57 (z52 w) (zd:=.lit (.bool false)) (zp:=[]) rfl x hx hf
structure BkAt (W:World)(K Ms:Nat)(k:Bk)(Mn n m:Nat)(fs:Int→Option Nat):Prop where
 box:W.heap[K]?=some (.cells #[.map (some Mn),.map (some Ms),.int .i64 k.sealed,.int .i64 k.told,.bool k.down] 59 (0,0))
 now:MapF zj1 W Mn n k.now
 sts:MapF z4z W Ms m fs
 none:∀x,fs x=none→k.states x=none
 some:∀x M,fs x=some M→M≠Mn∧∃st,k.states x=some st∧MapF zj1 W M n st
section
variable {W W':World} {K Ms:Nat} {k:Bk} {Mn n m:Nat} {fs:Int→Option Nat}
theorem BkAt.lt (h:BkAt W K Ms k Mn n m fs):K<W.heap.size:=(Array.getElem?_eq_some_iff.1 h.box).1
theorem BkAt.but (h:BkAt W K Ms k Mn n m fs){X:List Nat}(hb:ButL X W.heap.size W W')(hK:K∉X)(hn:Mn∉X)(hs:Ms∉X)(hf:∀x M,fs x=.some M→M∉X):BkAt W' K Ms k Mn n m fs:=
 ⟨(hb.block K h.lt hK).trans h.box,h.now.but hb hn,h.sts.but hb hs,h.none,fun x M hx=>by
   obtain⟨h1,st,h2,h3⟩:=h.some x M hx
   exact⟨h1,st,h2,h3.but hb (hf x M hx)⟩⟩
theorem BkAt.below (h:BkAt W K Ms k Mn n m fs)(hb:Below W.heap.size W W'):BkAt W' K Ms k Mn n m fs:=h.but (X:=[]) (ButL.of_below hb) (by simp) (by simp) (by simp) (by simp)
theorem MapF.set {α:Type}{E:Elem α}{B c:Nat}{f:Int→Option α}(h:MapF E W B c f){q:Nat}{cs:Array Value}{t:TypeId}{z:Nat×Nat}(hq:W.heap[q]?=.some (.cells cs t z))(o:Nat)(u:Value):MapF E (W.setCell ⟨q,o,.none⟩ u) B c f:=by
 obtain⟨es,ck,A⟩:=h.isMap;refine h.block (Below.heap_setCell _ _ _ _ ?_);intro e;simp only at e;rw[e,hq] at A;cases A
theorem BkAt.cells (h:BkAt W K Ms k Mn n m fs)(o:Nat)(u:Value){k':Bk}(hs:k'.states=k.states)(hn:k'.now=k.now)(hb:(W.setCell ⟨K,o,.none⟩ u).heap[K]?=.some (.cells #[.map (.some Mn),.map (.some Ms),.int .i64 k'.sealed,.int .i64 k'.told,.bool k'.down] 59 (0,0))):BkAt (W.setCell ⟨K,o,.none⟩ u) K Ms k' Mn n m fs:=
 ⟨hb,by rw[hn];exact h.now.set h.box o u,h.sts.set h.box o u,by rw[hs];exact h.none,fun x M hx=>by
  obtain⟨h1,st,h2,h3⟩:=h.some x M hx
  exact⟨h1,st,by rw[hs];exact h2,h3.set h.box o u⟩⟩
theorem BkAt.setDown (h:BkAt W K Ms k Mn n m fs)(d:Bool):BkAt (W.setCell ⟨K,4,.none⟩ (.bool d)) K Ms {k with down:=d} Mn n m fs:=h.cells 4 _ rfl rfl (heap_setCell_same _ _ 4 _ _ _ h.box)
theorem BkAt.setSealed (h:BkAt W K Ms k Mn n m fs)(x:Int):BkAt (W.setCell ⟨K,2,.none⟩ (.int .i64 x)) K Ms {k with sealed:=x} Mn n m fs:=h.cells 2 _ rfl rfl (heap_setCell_same _ _ 2 _ _ _ h.box)
theorem BkAt.setTold (h:BkAt W K Ms k Mn n m fs)(x:Int):BkAt (W.setCell ⟨K,3,.none⟩ (.int .i64 x)) K Ms {k with told:=x} Mn n m fs:=h.cells 3 _ rfl rfl (heap_setCell_same _ _ 3 _ _ _ h.box)
theorem BkAt.setNow (h:BkAt W K Ms k Mn n m fs){M:Nat}{g:Int→Option ByteArray}(hM:MapF zj1 W M n g)(hf:∀x Q,fs x=.some Q→Q≠M):BkAt (W.setCell ⟨K,0,.none⟩ (.map (.some M))) K Ms {k with now:=g} M n m fs:=
 ⟨heap_setCell_same _ _ 0 _ _ _ h.box,hM.set h.box 0 _,h.sts.set h.box 0 _,h.none,fun x Q hx=>by
  obtain⟨h1,st,h2,h3⟩:=h.some x Q hx
  exact⟨hf x Q hx,st,h2,h3.set h.box 0 _⟩⟩
theorem BkAt.turnNow (h:BkAt W K Ms k Mn n m fs){g:Int→Option ByteArray}{c:Nat}(hc:n≤c)(hM:MapF zj1 W' Mn c g)(ht:W.mapTurned W' Mn)(hs:Ms≠Mn):BkAt W' K Ms {k with now:=g} Mn c m fs:=by
 have hb:=zd1 ht (X:=[Mn]) (by simp) W.heap.size
 have C:K∉[Mn]:=by
  intro e;rw[List.mem_singleton.1 e] at h;obtain⟨es,ck,A⟩:=h.now.isMap;rw[h.box] at A;cases A
 exact⟨(hb.block K h.lt C).trans h.box,hM,h.sts.but hb (by simpa using hs),h.none,fun x Q hx=>by
  obtain⟨B,E,D,F⟩:=h.some x Q hx
  exact⟨B,E,D,(F.but hb (by simpa using B)).mono hc⟩⟩
theorem BkAt.turnSts (h:BkAt W K Ms k Mn n m fs){x:Int}{Q c:Nat}{g:Int→Option ByteArray}(hM:MapF z4z W' Ms c (fun z=>if z=x then .some Q else fs z))(ht:W.mapTurned W' Ms)(hQ:MapF zj1 W Q n g)(hs:Ms≠Mn)(hQn:Q≠Mn)(hQs:Q≠Ms)(hf:∀x M,fs x=.some M→M≠Ms):BkAt W' K Ms {k with states:=atK k.states x g} Mn n c (fun z=>if z=x then .some Q else fs z):=by
 have hb:=zd1 ht (X:=[Ms]) (by simp) W.heap.size
 have B:K∉[Ms]:=by
  intro e;rw[List.mem_singleton.1 e] at h;obtain⟨es,ck,A⟩:=h.sts.isMap;rw[h.box] at A;cases A
 refine⟨(hb.block K h.lt B).trans h.box,h.now.but hb (by simpa using Ne.symm hs),hM,fun z hz=>?_,fun z M hz=>?_⟩
 ·by_cases e:z=x
  ·rw[if_pos e] at hz;cases hz
  ·rw[if_neg e] at hz;show atK k.states x g z=_;rw[zvf _ _ e];exact h.none z hz
 ·by_cases e:z=x
  ·rw[if_pos e] at hz;cases hz;exact⟨hQn,g,zpo _ _ e,hQ.but hb (by simpa using hQs)⟩
  ·rw[if_neg e] at hz;obtain⟨E,D,C,F⟩:=h.some z M hz;exact⟨E,D,(zvf _ _ e).trans C,F.but hb (by simpa using hf z M hz)⟩
end
def SeePost (B:Nat)(X:List Nat)(j:Jn)(K Ms:Nat)(k':Bk)(Mn n m:Nat)(fs:Int→Option Nat)(w w':World):Prop:=
 ∃Mn' n' m' fs',BkAt w' K Ms k' Mn' n' m' fs'∧n'≤n+1∧m'≤m+1∧(Mn'=Mn∨w.heap.size≤Mn')∧(∀q M,fs' q=some M→fs q=some M∨w.heap.size≤M)∧JAt w' B X j∧ButL [K,Mn,Ms] w.heap.size w w'
theorem z1g (B:Nat)(X:List Nat)(j:Jn)(b:Nat)(w:World)(h:JAt w B X j)(hb:b<12)(h16:j.disk.safe.length*16≤140737488355328)(h24:j.disk.wr.length*24≤140737488355328):
  Calls prog 26 #[.pointer (some ⟨B,0,none⟩),.int .i64 b] w fun e w'=>e=.returned (.string (zam j.disk ((25+b:Nat):Int)))∧Below w.heap.size w w':=by
 have K:=zab h;clear h;have hw:IntKind.i64.wrap (25+(b:Int))=((25+b:Nat):Int):=by rw[IntKind.wrap_i64];omega
 have I:(25+(b:Int))=((25+b:Nat):Int):=by omega
 have M:=zab I;clear I;go_enter func26,ntmps26;go_wp2_with fail;refine(z1f B X j w K.o h16 h24).mono ?_;rintro e L ⟨v,rfl,E,A⟩;have F:=zab E;have D:=zab A;clear E A;go_wp2_with fail;refine(zkt v j.disk _ L F.o).mono ?_;rintro e w2 ⟨rfl,C⟩;have J:=zab (zae D.o C);clear C D F;go_wp2;go_ret;exact⟨by first|rfl|(rw[M.o]),J.o⟩
open Go.RowKit
theorem z54 (f:Int→Option ByteArray)(x:Int)(s:ByteArray):(fun z=>if z=x then some s else f z)=atK f x s:=rfl
theorem z4q (f:Int→Option ByteArray)(x:Int):(fun z=>if z=x then none else f z)=z1o f x:=rfl
section
variable {B:Nat} {X:List Nat} {j:Jn} {K Ms:Nat} {k:Bk} {Mn n m:Nat} {fs:Int→Option Nat} {w W W2:World}
theorem SeePost.keep (hK:BkAt W K Ms k Mn n m fs)(hJ:JAt W B X j)(hb:ButL [K] w.heap.size w W):SeePost B X j K Ms k Mn n m fs w W:=
 ⟨Mn,n,m,fs,hK,Nat.le_succ _,Nat.le_succ _,.inl rfl,fun _ _ h=>.inl h,hJ,hb.wider (by simp)⟩
theorem SeePost.turn (hK:BkAt W K Ms k Mn n m fs)(hJ:JAt W B X j)(hb:ButL [K] w.heap.size w W){g g':Int→Option ByteArray}(hM:MapF zj1 W2 Mn (n+1) g)(ht:W.mapTurned W2 Mn)(hs:Ms≠Mn)(hg:g=g'):SeePost B X j K Ms {k with now:=g'} Mn n m fs w W2:=by
 subst hg;exact⟨Mn,n+1,m,fs,hK.turnNow (Nat.le_succ _) hM ht hs,Nat.le_refl _,Nat.le_succ _,.inl rfl,fun _ _ h=>.inl h,hJ.turned ht,(hb.wider (by simp)).trans (zd1 ht (X:=[K,Mn,Ms]) (by simp) W.heap.size) hb.size (by simp)⟩
end
def zpp (K:Nat)(P:Nat)(Mn:Nat)(x:Ac):Nat→Value→World→Prop
 |0,v,_=>v=.pointer (some ⟨K,0,none⟩)
 |1,v,_=>v=.pointer (some ⟨K,0,none⟩)
 |2,v,_=>v=.pointer (some ⟨K,0,none⟩)
 |3,v,_=>v=.map (some Mn)
 |4,v,_=>v=.pointer (some ⟨P,2,none⟩)
 |5,v,_=>v=.int .i64 x.b
 |6,v,_=>v=.pointer (some ⟨P,4,none⟩)
 |7,v,_=>v=.string x.text
 |8,v,_=>v=.string (fitT x.text)
 |_,_,_=>True
theorem zpq {K:Nat}{P:Nat}{Mn:Nat}{x:Ac}{w w':World}(_hb:Below w.heap.size w w'){i:Nat}:∀kk uu,kk≠i→zpp K P Mn x kk uu w→zpp K P Mn x kk uu w':=by
 intro kk uu _ h
 match kk,h with
 |0,h|1,h|2,h|3,h|4,h|5,h|6,h|7,h|8,h=>exact h
 |_+9,_=>exact trivial
def z3m (K:Nat)(P:Nat)(Mn:Nat)(x:Ac):Nat→Value→World→Prop
 |0,v,_=>v=.pointer (some ⟨K,0,none⟩)
 |1,v,_=>v=.pointer (some ⟨K,0,none⟩)
 |2,v,_=>v=.pointer (some ⟨K,0,none⟩)
 |3,v,_=>v=.map (some Mn)
 |4,v,_=>v=.pointer (some ⟨P,2,none⟩)
 |5,v,_=>v=.int .i64 x.b
 |_,_,_=>True
def zlb (K:Nat)(Q:Nat)(Mn:Nat)(Ms:Nat)(r:Rp)(n:Nat)(k:Bk)(W2:World):Nat→Value→World→Prop
 |0,v,_=>v=.pointer (some ⟨K,0,none⟩)
 |1,v,_=>v=.pointer (some ⟨K,0,none⟩)
 |2,v,_=>v=.pointer (some ⟨K,1,none⟩)
 |3,v,_=>v=.map (some Ms)
 |4,v,_=>v=.pointer (some ⟨Q,1,none⟩)
 |5,v,_=>v=.int .i64 r.n
 |6,v,_=>v=.pointer (some ⟨K,0,none⟩)
 |7,v,_=>v=.pointer (some ⟨K,0,none⟩)
 |8,v,_=>v=.pointer (some ⟨K,0,none⟩)
 |9,v,_=>v=.map (some Mn)
 |10,v,w=>∃M',v=.map (some M')∧MapF zj1 w M' n k.now∧W2.heap.size≤M'
 |_,_,_=>True
theorem zm0 {K:Nat}{Q:Nat}{Mn:Nat}{Ms:Nat}{r:Rp}{n:Nat}{k:Bk}{W2:World}{w w':World}(hb:Below w.heap.size w w'){i:Nat}:∀kk uu,kk≠i→zlb K Q Mn Ms r n k W2 kk uu w→zlb K Q Mn Ms r n k W2 kk uu w':=by
 intro kk uu _ h
 match kk,h with
 |0,h|1,h|2,h|3,h|4,h|5,h|6,h|7,h|8,h|9,h=>exact h
 |10,⟨M',h1,h2,h3⟩=>exact⟨M',h1,h2.below hb,h3⟩
 |_+11,_=>exact trivial
theorem z4r (B:Nat)(X:List Nat)(j:Jn)(x:Ac)(r:Rp)(K Ms:Nat)(k:Bk)(Mn n m:Nat)(fs:Int→Option Nat)(w:World)(hJ:JAt w B X j)(hK:BkAt w K Ms k Mn n m fs)(hKX:K∈X)(hKB:K≠B)(hnn:n<maxLen)(hmm:m<maxLen)(hxt:x.text.size≤maxLen)(hsn:Ms≠Mn)(hfm:∀x M,fs x=some M→M≠Ms)
  (hxb:r.code=0→(x.kind=2∨x.kind=4)→0≤x.b∧x.b≤11) (hrn:r.code=0→x.kind=6→0≤r.n∧r.n≤1000) (hl0:0≤j.last) (hl1:j.last≤1000) (h16:j.disk.safe.length*16≤140737488355328) (h24:j.disk.wr.length*24≤140737488355328) (hok:z6i k x r j):
  Calls prog 22 #[.pointer (some ⟨K,0,none⟩),.pointer (some ⟨B,0,none⟩),.agg #[.int .i64 x.kind,.int .i64 x.h,.int .i64 x.b,.int .i64 x.n,.string x.text],.agg #[.int .i64 r.code,.int .i64 r.n,.string r.text]] w fun e w'=>e=.returned (.bool true)∧SeePost B X j K Ms (zh1 k x r j.last j.down) Mn n m fs w w':=by
 have A8:=zab hxb;have A9:=zab hrn;have B3:=zab hok;have A7:=zab hK.none;clear hxb hrn hok;have I3:K<w.heap.size:=hK.lt;have HJ:=zab hJ;have HK:=zab hK;clear hJ hK;obtain⟨W0,B5⟩:∃W0,W0=(w.alloc (.cells #[.int .i64 x.kind,.int .i64 x.h,.int .i64 x.b,.int .i64 x.n,.string x.text] 23)).alloc (.cells #[.int .i64 r.code,.int .i64 r.n,.string r.text] 31):=⟨_,rfl⟩;have D6:Hid (Below w.heap.size w W0):=by rw[B5];exact zae (zaa _ _) (zaa _ _)
 have E2:(w.alloc (.cells #[.int .i64 x.kind,.int .i64 x.h,.int .i64 x.b,.int .i64 x.n,.string x.text] 23)).heap.size=w.heap.size+1:=by simp
 have KA:Hid (W0.heap[w.heap.size]?=some (.cells #[.int .i64 x.kind,.int .i64 x.h,.int .i64 x.b,.int .i64 x.n,.string x.text] 23 (0,0))):=by rw[B5];exact zad (zaa _ _) (by omega) (heap_alloc_new _ _)
 have KR:Hid (W0.heap[w.heap.size+1]?=some (.cells #[.int .i64 r.code,.int .i64 r.n,.string r.text] 31 (0,0))):=by rw[B5,←E2];exact heap_alloc_new _ _
 have G6:W0.heap.size=w.heap.size+2:=by rw[B5];simp
 have E6:=zab B5;clear B5 E2;go_enter func22,ntmps22;go_wp2_with fail;rw[←E6.o];clear E6;refine(z1h B X j W0 (HJ.o.below D6.o)).mono ?_;rintro e c ⟨rfl,C4⟩;have L:=zab (zae D6.o C4);have A5:=zab (zad C4 (by omega) KA.o);have A6:=zab (zad C4 (by omega) KR.o);have R:=zab (HK.o.below L.o);have Z:=zab (HJ.o.below L.o);have G7:W0.heap.size≤c.heap.size:=C4.size;have q0:w.heap.size<c.heap.size:=by omega
 have q1:w.heap.size+1<c.heap.size:=by omega
 have q2:K<c.heap.size:=by omega
 have e0:¬K=w.heap.size:=by omega
 have e1:¬K=w.heap.size+1:=by omega
 have e2:¬w.heap.size=K:=by omega
 have e3:¬w.heap.size+1=K:=by omega
 clear C4 KA KR D6 HK HJ G6 G7;obtain⟨⟨z0,z1,z2,z3,z4⟩,_⟩:=zhy A5.o;obtain⟨⟨y0,y1,y2⟩,_⟩:=zbl A6.o;obtain⟨⟨k0,k1,k2,k3,k4⟩,H6,H7,J0,I9,J1⟩:=zhy R.o.box;by_cases hc:r.code=0
 ·rw[hc] at y0;have HC:=zab hc;clear hc;by_cases k2':x.kind=2
  ·rw[k2'] at z0;have hE:zh1 k x r j.last j.down={k with now:=atK k.now x.b (fitT x.text),down:=j.down}:=by rw[zh1,if_pos HC.o,if_pos k2']
   have B7:(Lit.int .i64 x.b).wf=true:=by have:=A8.o HC.o (.inl k2');exact wfI (by omega) (by omega)
   have HE:=zab hE;clear hE k2' A8 A9 B3 A7;obtain⟨C,A⟩:∃C,C=(c.setCell ⟨K,4,none⟩ (.bool j.down)).alloc (.cells #[.int .i64 j.rh,.int .i64 j.ru] 26):=⟨_,rfl⟩;have D:Hid (BkAt C K Ms {k with down:=j.down} Mn n m fs):=by rw[A];exact(R.o.setDown j.down).below (zaa _ _)
   have N:Hid (JAt C B X j):=by rw[A];exact(Z.o.set hKX hKB 4 _).below (zaa _ _)
   have F:Hid (ButL [K] w.heap.size w C):=by
    rw[A];exact((ButL.of_below L.o).set (.inl (by simp)) 4 _).trans (Y:=[]) (ButL.of_below (zaa _ _)) (by have:=L.o.size;simpa[World.setCell] using this) (by simp)
   have d:C.heap.size=c.heap.size+1:=by rw[A];simp[World.setCell]
   have J:=zab A
   have D4:Hid (C.heap[w.heap.size]?=some (.cells #[.int .i64 x.kind,.int .i64 x.h,.int .i64 x.b,.int .i64 x.n,.string x.text] 23 (0,0))):=by
    rw[A];exact zad (zaa _ _) (by simpa[World.setCell] using q0) ((Below.heap_setCell _ _ _ _ e2).trans A5.o)
   clear A;have C0:Hid (C.cell? ⟨K,0,none⟩=some (.map (some Mn))):=(cell_of_row C _ 0 _ _ _ D.o.box).trans rfl;obtain⟨⟨a0,a1,a2,a3,a4⟩,_⟩:=zhy D4.o;have H5:=zab a0;have I0:=zab a1;have D7:=zab a2;have I6:=zab a3;have G2:=zab a4;have B4:K<C.heap.size:=by omega
   have D3:w.heap.size<C.heap.size:=by omega
   clear a0 a1 a2 a3 a4;go_wp2_with fail;rw[←J.o];clear J;rename_i KK A1
   have A2:∀(g:Nat→Value) (S:World),SeePost B X j K Ms {k with now:=atK k.now x.b (fitT x.text),down:=j.down} Mn n m fs w S→KK ⟨#[g 0,g 1,g 2,g 3,g 4,g 5,g 6,g 7,g 8,g 9,g 10,g 11,g 12,g 13,g 14,g 15,g 16,g 17,g 18,g 19,g 20,g 21,g 22,g 23,g 24,g 25,g 26,g 27,g 28,g 29,g 30,g 31,g 32,g 33,g 34,g 35,g 36,g 37,g 38,g 39,g 40,g 41,g 42,g 43,g 44,g 45,g 46,g 47,g 48,g 49,g 50,g 51,g 52,g 53,g 54,g 55,g 56,g 57,g 58,g 59,g 60,g 61,g 62,g 63,g 64,g 65,g 66,g 67,g 68,g 69,g 70,g 71,g 72,g 73,g 74,g 75,g 76,g 77,g 78,g 79,g 80,g 81,g 82,g 83,g 84,g 85,g 86,g 87,g 88,g 89,g 90,g 91,g 92,g 93,g 94,g 95,g 96,g 97,g 98,g 99,g 100,g 101,g 102,g 103,g 104,g 105,g 106,g 107,g 108,g 109,g 110,g 111,g 112,g 113,g 114,g 115,g 116,g 117,g 118,g 119,g 120,g 121,g 122,g 123,g 124,g 125,g 126,g 127,g 128,g 129,g 130,g 131,g 132,g 133,g 134,g 135,g 136,g 137,g 138,g 139,g 140,g 141,g 142,g 143,g 144,g 145,g 146],[]⟩ S:=by
    intro g S hW;apply A1;clear A1;have U:=zab hW;clear hW;go_wp2;go_ret;exact⟨rfl,by rw[HE.o];exact U.o⟩
   have A4:=zab A2;clear A2 A1;refine(show∀A0:Act,A0=_→Code.wp prog _ _ A0 _ from fun A0 hA0=>?_) _ rfl;have I:A0.tmps.size=147:=by rw[hA0];rfl
   have C6:A0.defers=[]:=by rw[hA0]
   have v0:A0.eval (.tmp 0)=.pointer (some ⟨K,0,none⟩):=by rw[hA0];rfl
   have v6:A0.eval (.tmp 6)=.pointer (some ⟨w.heap.size,0,none⟩):=by rw[hA0];rfl
   clear hA0;refine zba 9 (fun w'=>Below C.heap.size C w') [39,40,41,42,43,44,45,46,47] (zpp K w.heap.size Mn x) (by kernel_rfl) (by kernel_rfl) (by kernel_rfl) (by kernel_rfl) (by decide) ((Below.refl _ _).drew) ⟨?_,?_,?_,?_,?_,?_,?_,?_,?_,trivial⟩ ?_
   ·exact zbc v0 I (fun _=>rfl) fun ρ w' E z=>by simp only[execOp];go_simp
   ·exact zal 0 39 I (fun _ _ h=>h) (fun _=>rfl) fun ρ w' E p=>by simp only[execOp];go_simp
   ·exact zal 1 40 I (fun _ _ h=>h) (fun _=>rfl) fun ρ w' E p=>by simp only[execOp];go_simp
   ·exact zal 2 41 I (fun _ _ h=>h) (fun _=>rfl) fun ρ w' E p=>by have c0:w'.cell? ⟨K,0,none⟩=some (.map (some Mn)):=zac E B4 C0.o;simp only[execOp];go_simp
   ·exact zbc v6 I (fun _=>rfl) fun ρ w' E z=>by simp only[execOp];go_simp
   ·exact zal 4 43 I (fun _ _ h=>h) (fun _=>rfl) fun ρ w' E p=>by have c0:w'.cell? ⟨w.heap.size,2,none⟩=some (.int .i64 x.b):=zac E D3 D7.o;simp only[execOp];go_simp
   ·exact zbc v6 I (fun _=>rfl) fun ρ w' E z=>by simp only[execOp];go_simp
   ·exact zal 6 45 I (fun _ _ h=>h) (fun _=>rfl) fun ρ w' E p=>by have c0:w'.cell? ⟨w.heap.size,4,none⟩=some (.string x.text):=zac E D3 G2.o;simp only[execOp];go_simp
   ·intro a w' hF E hp;have p46:a.eval (.tmp 46)=.string x.text:=hp ⟨7,.data⟩ (by simp) rfl;refine zbp 25 #[.string x.text] rfl rfl (by have pf:=Act.eval_func a 25;revert p46 pf;generalize a.eval=ρ;intro p46 pf;simp only[execOp];go_simp) _ (zf6 x.text w' hxt) ?_;rintro e w2 ⟨rfl,C2⟩;refine⟨_,rfl,_,rfl,zae E C2,?_,zpq C2⟩;show zpp _ _ _ _ _ ((a.put (some 47) _).eval (.tmp 47)) w2;rw[zav hF I (by decide)];exact rfl
   ·intro O W hF E hp;have p42:O.eval (.tmp 42)=.map (some Mn):=hp 3 (by decide);have p44:O.eval (.tmp 44)=.int .i64 x.b:=hp 5 (by decide);have p47:O.eval (.tmp 47)=.string (fitT x.text):=hp 8 (by decide);have B8:O.tmps.size=147:=hF.size.trans I;have s:=D.o.below E;obtain⟨S,B6,B1,B0⟩:=s.now.store underlying56 x.b (fitT x.text) B7 hnn;have E0:(Instr.mapUpdate 56 (.map (some Mn)) (.int .i64 x.b) (.string (fitT x.text))).run prog W=.ok () S:=B6;show wpOps prog _ _ [9] O W;rw[wpOps_cons];refine zcf rfl rfl (w':=S) (by revert p42 p44 p47;generalize O.eval=ρ;intro p42 p44 p47;simp only[execOp];go_simp) ?_;show KK O S;have B2:O=⟨#[_,_,_,_,_,_,_,_,_,_,_,_,_,_,_,_,_,_,_,_,_,_,_,_,_,_,_,_,_,_,_,_,_,_,_,_,_,_,_,_,_,_,_,_,_,_,_,_,_,_,_,_,_,_,_,_,_,_,_,_,_,_,_,_,_,_,_,_,_,_,_,_,_,_,_,_,_,_,_,_,_,_,_,_,_,_,_,_,_,_,_,_,_,_,_,_,_,_,_,_,_,_,_,_,_,_,_,_,_,_,_,_,_,_,_,_,_,_,_,_,_,_,_,_,_,_,_,_,_,_,_,_,_,_,_,_,_,_,_,_,_,_,_,_,_,_,_],[]⟩:=zcd O 147 B8 (hF.defers.trans C6);exact(congrArg (fun y=>KK y _) B2).mpr (A4.o (fun k=>O.eval (.tmp k)) S (SeePost.turn s (N.o.below E) (F.o.trans (Y:=[]) (ButL.of_below E) F.o.size (by simp)) B1 B0 hsn (z54 _ _ _)))
  by_cases k4':x.kind=4
  ·rw[k4'] at z0;have hE:zh1 k x r j.last j.down={k with now:=z1o k.now x.b,down:=j.down}:=by rw[zh1,if_pos HC.o,if_neg k2',if_pos k4']
   have B7:(Lit.int .i64 x.b).wf=true:=by have:=A8.o HC.o (.inr k4');exact wfI (by omega) (by omega)
   have HE:=zab hE;clear hE k2' k4' A8 A9 B3 A7;obtain⟨C,A⟩:∃C,C=(c.setCell ⟨K,4,none⟩ (.bool j.down)).alloc (.cells #[.int .i64 j.rh,.int .i64 j.ru] 26):=⟨_,rfl⟩;have D:Hid (BkAt C K Ms {k with down:=j.down} Mn n m fs):=by rw[A];exact(R.o.setDown j.down).below (zaa _ _)
   have N:Hid (JAt C B X j):=by rw[A];exact(Z.o.set hKX hKB 4 _).below (zaa _ _)
   have F:Hid (ButL [K] w.heap.size w C):=by
    rw[A];exact((ButL.of_below L.o).set (.inl (by simp)) 4 _).trans (Y:=[]) (ButL.of_below (zaa _ _)) (by have:=L.o.size;simpa[World.setCell] using this) (by simp)
   have d:C.heap.size=c.heap.size+1:=by rw[A];simp[World.setCell]
   have J:=zab A
   have D4:Hid (C.heap[w.heap.size]?=some (.cells #[.int .i64 x.kind,.int .i64 x.h,.int .i64 x.b,.int .i64 x.n,.string x.text] 23 (0,0))):=by
    rw[A];exact zad (zaa _ _) (by simpa[World.setCell] using q0) ((Below.heap_setCell _ _ _ _ e2).trans A5.o)
   clear A;have C0:Hid (C.cell? ⟨K,0,none⟩=some (.map (some Mn))):=(cell_of_row C _ 0 _ _ _ D.o.box).trans rfl;obtain⟨⟨a0,a1,a2,a3,a4⟩,_⟩:=zhy D4.o;have D7:=zab a2;have B4:K<C.heap.size:=by omega
   have D3:w.heap.size<C.heap.size:=by omega
   clear a0 a1 a2 a3 a4;go_wp2_with fail;rw[←J.o];clear J;rename_i KK A1
   have A2:∀(g:Nat→Value) (S:World),SeePost B X j K Ms {k with now:=z1o k.now x.b,down:=j.down} Mn n m fs w S→KK ⟨#[g 0,g 1,g 2,g 3,g 4,g 5,g 6,g 7,g 8,g 9,g 10,g 11,g 12,g 13,g 14,g 15,g 16,g 17,g 18,g 19,g 20,g 21,g 22,g 23,g 24,g 25,g 26,g 27,g 28,g 29,g 30,g 31,g 32,g 33,g 34,g 35,g 36,g 37,g 38,g 39,g 40,g 41,g 42,g 43,g 44,g 45,g 46,g 47,g 48,g 49,g 50,g 51,g 52,g 53,g 54,g 55,g 56,g 57,g 58,g 59,g 60,g 61,g 62,g 63,g 64,g 65,g 66,g 67,g 68,g 69,g 70,g 71,g 72,g 73,g 74,g 75,g 76,g 77,g 78,g 79,g 80,g 81,g 82,g 83,g 84,g 85,g 86,g 87,g 88,g 89,g 90,g 91,g 92,g 93,g 94,g 95,g 96,g 97,g 98,g 99,g 100,g 101,g 102,g 103,g 104,g 105,g 106,g 107,g 108,g 109,g 110,g 111,g 112,g 113,g 114,g 115,g 116,g 117,g 118,g 119,g 120,g 121,g 122,g 123,g 124,g 125,g 126,g 127,g 128,g 129,g 130,g 131,g 132,g 133,g 134,g 135,g 136,g 137,g 138,g 139,g 140,g 141,g 142,g 143,g 144,g 145,g 146],[]⟩ S:=by
    intro g S hW;apply A1;clear A1;have U:=zab hW;clear hW;go_wp2;go_ret;exact⟨rfl,by rw[HE.o];exact U.o⟩
   have A4:=zab A2;clear A2 A1;refine(show∀A0:Act,A0=_→Code.wp prog _ _ A0 _ from fun A0 hA0=>?_) _ rfl;have I:A0.tmps.size=147:=by rw[hA0];rfl
   have C6:A0.defers=[]:=by rw[hA0]
   have v0:A0.eval (.tmp 0)=.pointer (some ⟨K,0,none⟩):=by rw[hA0];rfl
   have v6:A0.eval (.tmp 6)=.pointer (some ⟨w.heap.size,0,none⟩):=by rw[hA0];rfl
   clear hA0;refine zba 6 (fun w'=>Below C.heap.size C w') [50,51,52,53,54,55] (z3m K w.heap.size Mn x) (by kernel_rfl) (by kernel_rfl) (by kernel_rfl) (by kernel_rfl) (by decide) ((Below.refl _ _).drew) ⟨?_,?_,?_,?_,?_,?_,trivial⟩ ?_
   ·exact zbc v0 I (fun _=>rfl) fun ρ w' E z=>by simp only[execOp];go_simp
   ·exact zal 0 50 I (fun _ _ h=>h) (fun _=>rfl) fun ρ w' E p=>by simp only[execOp];go_simp
   ·exact zal 1 51 I (fun _ _ h=>h) (fun _=>rfl) fun ρ w' E p=>by simp only[execOp];go_simp
   ·exact zal 2 52 I (fun _ _ h=>h) (fun _=>rfl) fun ρ w' E p=>by have c0:w'.cell? ⟨K,0,none⟩=some (.map (some Mn)):=zac E B4 C0.o;simp only[execOp];go_simp
   ·exact zbc v6 I (fun _=>rfl) fun ρ w' E z=>by simp only[execOp];go_simp
   ·exact zal 4 54 I (fun _ _ h=>h) (fun _=>rfl) fun ρ w' E p=>by have c0:w'.cell? ⟨w.heap.size,2,none⟩=some (.int .i64 x.b):=zac E D3 D7.o;simp only[execOp];go_simp
   ·intro O W hF E hp;have p53:O.eval (.tmp 53)=.map (some Mn):=hp 3 (by decide);have p55:O.eval (.tmp 55)=.int .i64 x.b:=hp 5 (by decide);have B8:O.tmps.size=147:=hF.size.trans I;have s:=D.o.below E;obtain⟨S,B6,B1,B0⟩:=s.now.drop underlying56 x.b B7 0;show wpOps prog _ _ [6] O W;rw[wpOps_cons];refine zfj (.tuple #[]) rfl rfl (w':=S) (by revert p53 p55;generalize O.eval=ρ;intro p53 p55;simp only[execOp];go_simp) ?_;show KK O S;have B2:O=⟨#[_,_,_,_,_,_,_,_,_,_,_,_,_,_,_,_,_,_,_,_,_,_,_,_,_,_,_,_,_,_,_,_,_,_,_,_,_,_,_,_,_,_,_,_,_,_,_,_,_,_,_,_,_,_,_,_,_,_,_,_,_,_,_,_,_,_,_,_,_,_,_,_,_,_,_,_,_,_,_,_,_,_,_,_,_,_,_,_,_,_,_,_,_,_,_,_,_,_,_,_,_,_,_,_,_,_,_,_,_,_,_,_,_,_,_,_,_,_,_,_,_,_,_,_,_,_,_,_,_,_,_,_,_,_,_,_,_,_,_,_,_,_,_,_,_,_,_],[]⟩:=zcd O 147 B8 (hF.defers.trans C6);exact(congrArg (fun y=>KK y _) B2).mpr (A4.o (fun k=>O.eval (.tmp k)) S (SeePost.turn s (N.o.below E) (F.o.trans (Y:=[]) (ButL.of_below E) F.o.size (by simp)) (B1.mono (Nat.le_succ _)) B0 hsn (z4q _ _)))
  by_cases k6':x.kind=6
  ·rw[k6'] at z0;have hE:zh1 k x r j.last j.down={k with states:=atK k.states r.n k.now,sealed:=r.n,down:=j.down}:=by rw[zh1,if_pos HC.o,if_neg k2',if_neg k4',if_pos k6']
   have B7:(Lit.int .i64 r.n).wf=true:=by have:=A9.o HC.o k6';exact wfI (by omega) (by omega)
   have HE:=zab hE;clear hE k2' k4' k6' A8 A9 B3 A7;obtain⟨C,A⟩:∃C,C=((c.setCell ⟨K,4,none⟩ (.bool j.down)).setCell ⟨K,2,none⟩ (.int .i64 r.n)).alloc (.cells #[.int .i64 j.rh,.int .i64 j.ru] 26):=⟨_,rfl⟩;have D:Hid (BkAt C K Ms {k with sealed:=r.n,down:=j.down} Mn n m fs):=by rw[A];exact((R.o.setDown j.down).setSealed r.n).below (zaa _ _)
   have N:Hid (JAt C B X j):=by rw[A];exact((Z.o.set hKX hKB 4 _).set hKX hKB 2 _).below (zaa _ _)
   have F:Hid (ButL [K] w.heap.size w C):=by
    rw[A];exact(((ButL.of_below L.o).set (.inl (by simp)) 4 _).set (.inl (by simp)) 2 _).trans (Y:=[]) (ButL.of_below (zaa _ _)) (by have:=L.o.size;simpa[World.setCell] using this) (by simp)
   have d:C.heap.size=c.heap.size+1:=by rw[A];simp[World.setCell]
   have J:=zab A
   have G4:Hid (C.heap[w.heap.size+1]?=some (.cells #[.int .i64 r.code,.int .i64 r.n,.string r.text] 31 (0,0))):=by
    rw[A];exact zad (zaa _ _) (by simpa[World.setCell] using q1) ((Below.heap_setCell _ _ _ _ e3).trans ((Below.heap_setCell _ _ _ _ e3).trans A6.o))
   clear A;have C0:Hid (C.cell? ⟨K,0,none⟩=some (.map (some Mn))):=(cell_of_row C _ 0 _ _ _ D.o.box).trans rfl;have C1:Hid (C.cell? ⟨K,1,none⟩=some (.map (some Ms))):=(cell_of_row C _ 1 _ _ _ D.o.box).trans rfl;obtain⟨⟨a0,a1,a2⟩,_⟩:=zbl G4.o;have G0:=zab a1;have B4:K<C.heap.size:=by omega
   have F7:w.heap.size+1<C.heap.size:=by omega
   clear a0 a1 a2;go_wp2_with fail;rw[←J.o];clear J;rename_i KK A1
   have A2:∀(g:Nat→Value) (S:World),SeePost B X j K Ms {k with states:=atK k.states r.n k.now,sealed:=r.n,down:=j.down} Mn n m fs w S→KK ⟨#[g 0,g 1,g 2,g 3,g 4,g 5,g 6,g 7,g 8,g 9,g 10,g 11,g 12,g 13,g 14,g 15,g 16,g 17,g 18,g 19,g 20,g 21,g 22,g 23,g 24,g 25,g 26,g 27,g 28,g 29,g 30,g 31,g 32,g 33,g 34,g 35,g 36,g 37,g 38,g 39,g 40,g 41,g 42,g 43,g 44,g 45,g 46,g 47,g 48,g 49,g 50,g 51,g 52,g 53,g 54,g 55,g 56,g 57,g 58,g 59,g 60,g 61,g 62,g 63,g 64,g 65,g 66,g 67,g 68,g 69,g 70,g 71,g 72,g 73,g 74,g 75,g 76,g 77,g 78,g 79,g 80,g 81,g 82,g 83,g 84,g 85,g 86,g 87,g 88,g 89,g 90,g 91,g 92,g 93,g 94,g 95,g 96,g 97,g 98,g 99,g 100,g 101,g 102,g 103,g 104,g 105,g 106,g 107,g 108,g 109,g 110,g 111,g 112,g 113,g 114,g 115,g 116,g 117,g 118,g 119,g 120,g 121,g 122,g 123,g 124,g 125,g 126,g 127,g 128,g 129,g 130,g 131,g 132,g 133,g 134,g 135,g 136,g 137,g 138,g 139,g 140,g 141,g 142,g 143,g 144,g 145,g 146],[]⟩ S:=by
    intro g S hW;apply A1;clear A1;have U:=zab hW;clear hW;go_wp2;go_ret;exact⟨rfl,by rw[HE.o];exact U.o⟩
   have A4:=zab A2;clear A2 A1;refine(show∀A0:Act,A0=_→Code.wp prog _ _ A0 _ from fun A0 hA0=>?_) _ rfl;have I:A0.tmps.size=147:=by rw[hA0];rfl
   have C6:A0.defers=[]:=by rw[hA0]
   have v0:A0.eval (.tmp 0)=.pointer (some ⟨K,0,none⟩):=by rw[hA0];rfl
   have v7:A0.eval (.tmp 7)=.pointer (some ⟨w.heap.size+1,0,none⟩):=by rw[hA0];rfl
   clear hA0;refine zba 11 (fun w'=>Below C.heap.size C w') [63,64,65,66,67,68,69,70,71,72,73] (zlb K (w.heap.size+1) Mn Ms r n k C) (by kernel_rfl) (by kernel_rfl) (by kernel_rfl) (by kernel_rfl) (by decide) ((Below.refl _ _).drew) ⟨?_,?_,?_,?_,?_,?_,?_,?_,?_,?_,?_,trivial⟩ ?_
   ·exact zbc v0 I (fun _=>rfl) fun ρ w' E z=>by simp only[execOp];go_simp
   ·exact zal 0 63 I (fun _ _ h=>h) (fun _=>rfl) fun ρ w' E p=>by simp only[execOp];go_simp
   ·exact zal 1 64 I (fun _ _ h=>h) (fun _=>rfl) fun ρ w' E p=>by simp only[execOp];go_simp
   ·exact zal 2 65 I (fun _ _ h=>h) (fun _=>rfl) fun ρ w' E p=>by have c0:w'.cell? ⟨K,1,none⟩=some (.map (some Ms)):=zac E B4 C1.o;simp only[execOp];go_simp
   ·exact zbc v7 I (fun _=>rfl) fun ρ w' E z=>by simp only[execOp];go_simp
   ·exact zal 4 67 I (fun _ _ h=>h) (fun _=>rfl) fun ρ w' E p=>by have c0:w'.cell? ⟨w.heap.size+1,1,none⟩=some (.int .i64 r.n):=zac E F7 G0.o;simp only[execOp];go_simp
   ·exact zbc v0 I (fun _=>rfl) fun ρ w' E z=>by simp only[execOp];go_simp
   ·exact zal 6 69 I (fun _ _ h=>h) (fun _=>rfl) fun ρ w' E p=>by simp only[execOp];go_simp
   ·exact zal 7 70 I (fun _ _ h=>h) (fun _=>rfl) fun ρ w' E p=>by simp only[execOp];go_simp
   ·exact zal 8 71 I (fun _ _ h=>h) (fun _=>rfl) fun ρ w' E p=>by have c0:w'.cell? ⟨K,0,none⟩=some (.map (some Mn)):=zac E B4 C0.o;simp only[execOp];go_simp
   ·intro a w' hF E hp;have p72:a.eval (.tmp 72)=.map (some Mn):=hp ⟨9,.data⟩ (by simp) rfl;refine zbp 53 #[.map (some Mn)] rfl rfl (by have pf:=Act.eval_func a 53;revert p72 pf;generalize a.eval=ρ;intro p72 pf;simp only[execOp];go_simp) _ (zm2 Mn n k.now w' (D.o.below E).now hnn) ?_;rintro e w2 ⟨M3,rfl,B1,F5,C2⟩;refine⟨_,rfl,_,rfl,zae E C2,?_,zm0 C2⟩;show zlb _ _ _ _ _ _ _ _ _ ((a.put (some 73) _).eval (.tmp 73)) w2;rw[zav hF I (by decide)];exact⟨M3,rfl,B1,Nat.le_trans E.size F5⟩
   ·intro O W hF E hp;have p66:O.eval (.tmp 66)=.map (some Ms):=hp 3 (by decide);have p68:O.eval (.tmp 68)=.int .i64 r.n:=hp 5 (by decide);obtain⟨M',p73,G9,H3⟩:=hp 10 (by decide);have p73:O.eval (.tmp 73)=.map (some M'):=p73;have B8:O.tmps.size=147:=hF.size.trans I;have s:=D.o.below E;obtain⟨S,B6,B1,B0⟩:=s.sts.store underlying57 r.n M' B7 hmm;have E0:(Instr.mapUpdate 57 (.map (some Ms)) (.int .i64 r.n) (.map (some M'))).run prog W=.ok () S:=B6;show wpOps prog _ _ [11] O W;rw[wpOps_cons];refine zcf rfl rfl (w':=S) (by revert p66 p68 p73;generalize O.eval=ρ;intro p66 p68 p73;simp only[execOp];go_simp) ?_;show KK O S;have B2:O=⟨#[_,_,_,_,_,_,_,_,_,_,_,_,_,_,_,_,_,_,_,_,_,_,_,_,_,_,_,_,_,_,_,_,_,_,_,_,_,_,_,_,_,_,_,_,_,_,_,_,_,_,_,_,_,_,_,_,_,_,_,_,_,_,_,_,_,_,_,_,_,_,_,_,_,_,_,_,_,_,_,_,_,_,_,_,_,_,_,_,_,_,_,_,_,_,_,_,_,_,_,_,_,_,_,_,_,_,_,_,_,_,_,_,_,_,_,_,_,_,_,_,_,_,_,_,_,_,_,_,_,_,_,_,_,_,_,_,_,_,_,_,_,_,_,_,_,_,_],[]⟩:=zcd O 147 B8 (hF.defers.trans C6);have I1:=D.o.now.lt;have I8:=D.o.sts.lt;have F2:=F.o.trans (Y:=[]) (ButL.of_below E) F.o.size (by simp)
    exact(congrArg (fun y=>KK y _) B2).mpr (A4.o (fun k=>O.eval (.tmp k)) S ⟨Mn,n,m+1,_,s.turnSts B1 B0 G9 hsn (by omega) (by omega) hfm,Nat.le_succ _,Nat.le_refl _,.inl rfl,(fun q M hq=>by
     by_cases e:q=r.n
     ·rw[if_pos e] at hq;cases hq;have:=F.o.size;right;omega
     ·rw[if_neg e] at hq
      exact .inl hq),(N.o.below E).turned B0,(F2.wider (by simp)).trans (zd1 B0 (X:=[K,Mn,Ms]) (by simp) W.heap.size) F2.size (by simp)⟩)
  by_cases k8':x.kind=8
  ·rw[k8'] at z0;have e8:zh1 k x r j.last j.down=if k.down=true∧j.down=false then{k with now:=(k.states j.last).getD fun _=>none,sealed:=j.last,told:=j.last,down:=j.down} else if 0<r.n then{k with told:=r.n,down:=j.down} else{k with down:=j.down}:=by rw[zh1,if_pos HC.o,if_neg k2',if_neg k4',if_neg k6',if_pos k8']
   have E8:=zab e8;have D8:=zab (B3.o HC.o k8');clear e8 k2' k4' k6' k8' A8 A9 B3;by_cases hb:k.down=true∧j.down=false
   ·obtain⟨hkd,l⟩:=hb;obtain⟨G1,st,C3,H8,I2,E1⟩:=D8.o hkd l;have hrn:¬0<r.n:=by omega
    obtain⟨M,C8⟩:∃M,fs j.last=some M:=by
     cases hx:fs j.last with
     |none=>rw[A7.o _ hx] at C3;cases C3
     |some M=>exact⟨M,rfl⟩
    have F6:(Lit.int .i64 j.last).wf=true:=wfI (by omega) (by omega);have HE:=zab (E8.o.trans (if_pos ⟨hkd,l⟩));rw[hkd] at k4;rw[l];have B9:=zab l;clear hkd l G1 D8 A7;obtain⟨C,A⟩:∃C,C=(c.setCell ⟨K,4,none⟩ (.bool false)).alloc (.cells #[.int .i64 j.rh,.int .i64 j.ru] 26):=⟨_,rfl⟩;have D:Hid (BkAt C K Ms {k with down:=false} Mn n m fs):=by rw[A];exact(R.o.setDown false).below (zaa _ _)
    have N:Hid (JAt C B X j):=by rw[A];exact(Z.o.set hKX hKB 4 _).below (zaa _ _)
    have F:Hid (ButL [K] w.heap.size w C):=by
     rw[A];exact((ButL.of_below L.o).set (.inl (by simp)) 4 _).trans (Y:=[]) (ButL.of_below (zaa _ _)) (by have:=L.o.size;simpa[World.setCell] using this) (by simp)
    have d:C.heap.size=c.heap.size+1:=by rw[A];simp[World.setCell]
    have J:=zab A;clear A;have G8:=D.o.some j.last M C8;obtain⟨H1,C7,D5,F3⟩:=G8
    have G3:C7=st:=by
     have:k.states j.last=some C7:=D5;rw[C3] at this
     injection this with e
     exact e.symm
    subst G3;have D1:=zab F3;have F8:=zab C3;clear F3 C3 D5;have C5:=MapM.lookSome D.o.sts j.last F6 C8;rw[J.o] at C5;have E7:=zab E1;have nt:¬j.last<k.told:=by omega
    have ns:¬k.sealed<j.last:=by omega
    have I5:=zab C8;clear E1 C8;go_wp2_with fail;rw[←J.o];clear J C5
    go_loopw [15] (fun i wr=>∃q:Nat,q≤12∧i=.int .i64 q∧Hid (Below C.heap.size C wr)) (fun i _=>12 - (intOf i).toNat)
    case atStart=>exact⟨0,Nat.zero_le _,by go_num,Below.refl _ _⟩
    case round=>
     obtain⟨q,hq,rfl,A3⟩:=hrel;by_cases hq12:q<12
     ·have D9:(q:Int)<12:=by omega
      have E4:(Lit.int .i64 (q:Int)).wf=true:=wfI (by omega) (by omega)
      cases hf:C7 q with
      |none=>
       have C5:=MapS.lookNone (D1.o.below A3.o) q E4 hf;clear hf;go_wp2
       go_roundw
       case rel=>exact⟨q+1,by omega,by go_num,A3⟩
       case measure=>first|(simp[intOf];omega)|simp[intOf]
      |some u=>
       have C5:=MapS.lookSome (D1.o.below A3.o) q E4 hf;have hr:=E7.o q hq12 u hf;have F9:=zab hr;clear hf hr;go_wp2_with fail;refine(z1g B X j q wr (N.o.below A3.o) hq12 h16 h24).mono ?_;rintro e w4 ⟨rfl,E5⟩;rw[F9.o];have G5:=zab (zae A3.o E5);clear E5 A3 C5;go_wp2
       go_roundw
       case rel=>exact⟨q+1,by omega,by go_num,G5⟩
       case measure=>first|(simp[intOf];omega)|simp[intOf]
     ·have D9:¬(q:Int)<12:=by omega
      clear E7;go_wp2_with fail;refine(zm2 M n C7 wr (D1.o.below A3.o) hnn).mono ?_;rintro e w5 ⟨M5,rfl,E3,F4,F1⟩;have D2:=zab (zae A3.o F1);have C9:=zab (D.o.below D2.o);have H0:C.heap.size≤wr.heap.size:=A3.o.size
      have U:Hid (SeePost B X j K Ms {k with now:=C7,sealed:=j.last,told:=j.last,down:=false} Mn n m fs w (((w5.setCell ⟨K,0,none⟩ (.map (some M5))).setCell ⟨K,3,none⟩ (.int .i64 j.last)).setCell ⟨K,2,none⟩ (.int .i64 j.last))):=by
       have hq:=(((C9.o.setNow E3 (fun x Q hx=>by
        obtain⟨_,_,_,hQ⟩:=D.o.some x Q hx;have:=hQ.lt
        omega)).setTold j.last).setSealed j.last)
       refine⟨M5,n,m,fs,hq,Nat.le_succ _,Nat.le_succ _,.inr ?_,fun _ _ h=>.inl h,(((N.o.below D2.o).set hKX hKB 0 _).set hKX hKB 3 _).set hKX hKB 2 _,?_⟩
       ·have:=F.o.size;omega
       ·exact((((F.o.trans (Y:=[]) (ButL.of_below D2.o) F.o.size (by simp)).wider (Y:=[K,Mn,Ms]) (by simp)).set (.inl (by simp)) 0 _).set (.inl (by simp)) 3 _).set (.inl (by simp)) 2 _
      have q5:K<w5.heap.size:=C9.o.lt;obtain⟨⟨c0,c1,c2,c3,c4⟩,J2,I4,H4,I7,H9⟩:=zhy C9.o.box;clear E3 F4 F1 A3 C9 D2 D1 H0;go_wp2;go_ret;exact⟨rfl,by rw[HE.o,F8.o,B9.o];exact U.o⟩
   ·have E9:=zab (E8.o.trans (if_neg hb))
    have F0:k.down=false∨j.down=true:=by
     cases hk:k.down with
     |false=>exact .inl rfl
     |true=>cases hj:j.down with
      |true=>exact .inr rfl
      |false=>exact absurd ⟨hk,hj⟩ hb
    clear hb D8 A7;by_cases hrn:0<r.n
    ·have HE:=zab (E9.o.trans (if_pos hrn));rcases F0 with hkd|l
     ·rw[hkd] at k4;clear hkd;obtain⟨C,A⟩:∃C,C=((c.setCell ⟨K,4,none⟩ (.bool j.down)).setCell ⟨K,3,none⟩ (.int .i64 r.n)).alloc (.cells #[.int .i64 j.rh,.int .i64 j.ru] 26):=⟨_,rfl⟩;have D:Hid (BkAt C K Ms {k with told:=r.n,down:=j.down} Mn n m fs):=by rw[A];exact((R.o.setDown j.down).setTold r.n).below (zaa _ _)
      have N:Hid (JAt C B X j):=by rw[A];exact((Z.o.set hKX hKB 4 _).set hKX hKB 3 _).below (zaa _ _)
      have F:Hid (ButL [K] w.heap.size w C):=by
       rw[A];exact(((ButL.of_below L.o).set (.inl (by simp)) 4 _).set (.inl (by simp)) 3 _).trans (Y:=[]) (ButL.of_below (zaa _ _)) (by have:=L.o.size;simpa[World.setCell] using this) (by simp)
      have d:C.heap.size=c.heap.size+1:=by rw[A];simp[World.setCell]
      have J:=zab A;clear A;have U:Hid (SeePost B X j K Ms {k with told:=r.n,down:=j.down} Mn n m fs w C):=SeePost.keep D.o N.o F.o;rw[J.o] at U;clear J D N F R Z L A5 A6 d;go_wp2;go_ret;exact⟨rfl,by rw[HE.o];exact U.o⟩
     ·rw[l];have B9:=zab l;clear l;cases hkd:k.down<;>rw[hkd] at k4<;>clear hkd
      all_goals
       obtain⟨C,A⟩:∃C,C=((c.setCell ⟨K,4,none⟩ (.bool true)).setCell ⟨K,3,none⟩ (.int .i64 r.n)).alloc (.cells #[.int .i64 j.rh,.int .i64 j.ru] 26):=⟨_,rfl⟩;have D:Hid (BkAt C K Ms {k with told:=r.n,down:=true} Mn n m fs):=by rw[A];exact((R.o.setDown true).setTold r.n).below (zaa _ _)
       have N:Hid (JAt C B X j):=by rw[A];exact((Z.o.set hKX hKB 4 _).set hKX hKB 3 _).below (zaa _ _)
       have F:Hid (ButL [K] w.heap.size w C):=by
        rw[A];exact(((ButL.of_below L.o).set (.inl (by simp)) 4 _).set (.inl (by simp)) 3 _).trans (Y:=[]) (ButL.of_below (zaa _ _)) (by have:=L.o.size;simpa[World.setCell] using this) (by simp)
       have d:C.heap.size=c.heap.size+1:=by rw[A];simp[World.setCell]
       have J:=zab A;clear A;have U:Hid (SeePost B X j K Ms {k with told:=r.n,down:=true} Mn n m fs w C):=SeePost.keep D.o N.o F.o;rw[J.o] at U;clear J D N F R Z L A5 A6 d;go_wp2;go_ret;exact⟨rfl,by rw[HE.o,B9.o];exact U.o⟩
    ·have HE:=zab (E9.o.trans (if_neg hrn));rcases F0 with hkd|l
     ·rw[hkd] at k4;clear hkd;obtain⟨C,A⟩:∃C,C=(c.setCell ⟨K,4,none⟩ (.bool j.down)).alloc (.cells #[.int .i64 j.rh,.int .i64 j.ru] 26):=⟨_,rfl⟩;have D:Hid (BkAt C K Ms {k with down:=j.down} Mn n m fs):=by rw[A];exact(R.o.setDown j.down).below (zaa _ _)
      have N:Hid (JAt C B X j):=by rw[A];exact(Z.o.set hKX hKB 4 _).below (zaa _ _)
      have F:Hid (ButL [K] w.heap.size w C):=by
       rw[A];exact((ButL.of_below L.o).set (.inl (by simp)) 4 _).trans (Y:=[]) (ButL.of_below (zaa _ _)) (by have:=L.o.size;simpa[World.setCell] using this) (by simp)
      have d:C.heap.size=c.heap.size+1:=by rw[A];simp[World.setCell]
      have J:=zab A;clear A;have U:Hid (SeePost B X j K Ms {k with down:=j.down} Mn n m fs w C):=SeePost.keep D.o N.o F.o;rw[J.o] at U;clear J D N F R Z L A5 A6 d;go_wp2;go_ret;exact⟨rfl,by rw[HE.o];exact U.o⟩
     ·rw[l];have B9:=zab l;clear l;cases hkd:k.down<;>rw[hkd] at k4<;>clear hkd
      all_goals
       obtain⟨C,A⟩:∃C,C=(c.setCell ⟨K,4,none⟩ (.bool true)).alloc (.cells #[.int .i64 j.rh,.int .i64 j.ru] 26):=⟨_,rfl⟩;have D:Hid (BkAt C K Ms {k with down:=true} Mn n m fs):=by rw[A];exact(R.o.setDown true).below (zaa _ _)
       have N:Hid (JAt C B X j):=by rw[A];exact(Z.o.set hKX hKB 4 _).below (zaa _ _)
       have F:Hid (ButL [K] w.heap.size w C):=by
        rw[A];exact((ButL.of_below L.o).set (.inl (by simp)) 4 _).trans (Y:=[]) (ButL.of_below (zaa _ _)) (by have:=L.o.size;simpa[World.setCell] using this) (by simp)
       have d:C.heap.size=c.heap.size+1:=by rw[A];simp[World.setCell]
       have J:=zab A;clear A;have U:Hid (SeePost B X j K Ms {k with down:=true} Mn n m fs w C):=SeePost.keep D.o N.o F.o;rw[J.o] at U;clear J D N F R Z L A5 A6 d;go_wp2;go_ret;exact⟨rfl,by rw[HE.o,B9.o];exact U.o⟩
  ·have b2:(x.kind==2)=false:=by simpa using k2'
   have b4:(x.kind==4)=false:=by simpa using k4'
   have b6:(x.kind==6)=false:=by simpa using k6'
   have b8:(x.kind==8)=false:=by simpa using k8'
   have hE:zh1 k x r j.last j.down={k with down:=j.down}:=by rw[zh1,if_pos HC.o,if_neg k2',if_neg k4',if_neg k6',if_neg k8']
   have HE:=zab hE;clear hE k2' k4' k6' k8' A8 A9 B3 A7;obtain⟨C,A⟩:∃C,C=(c.setCell ⟨K,4,none⟩ (.bool j.down)).alloc (.cells #[.int .i64 j.rh,.int .i64 j.ru] 26):=⟨_,rfl⟩;have D:Hid (BkAt C K Ms {k with down:=j.down} Mn n m fs):=by rw[A];exact(R.o.setDown j.down).below (zaa _ _)
   have N:Hid (JAt C B X j):=by rw[A];exact(Z.o.set hKX hKB 4 _).below (zaa _ _)
   have F:Hid (ButL [K] w.heap.size w C):=by
    rw[A];exact((ButL.of_below L.o).set (.inl (by simp)) 4 _).trans (Y:=[]) (ButL.of_below (zaa _ _)) (by have:=L.o.size;simpa[World.setCell] using this) (by simp)
   have d:C.heap.size=c.heap.size+1:=by rw[A];simp[World.setCell]
   have J:=zab A;clear A;have U:Hid (SeePost B X j K Ms {k with down:=j.down} Mn n m fs w C):=SeePost.keep D.o N.o F.o;rw[J.o] at U;clear J D N F R Z L A5 A6 d;go_wp2;go_ret;exact⟨rfl,by rw[HE.o];exact U.o⟩
 ·have H2:(r.code !=0)=true:=by simpa using hc
  have hE:zh1 k x r j.last j.down={k with down:=j.down}:=by rw[zh1,if_neg hc]
  have HE:=zab hE;clear hE hc A8 A9 B3 A7;obtain⟨C,A⟩:∃C,C=(c.setCell ⟨K,4,none⟩ (.bool j.down)).alloc (.cells #[.int .i64 j.rh,.int .i64 j.ru] 26):=⟨_,rfl⟩;have D:Hid (BkAt C K Ms {k with down:=j.down} Mn n m fs):=by rw[A];exact(R.o.setDown j.down).below (zaa _ _)
  have N:Hid (JAt C B X j):=by rw[A];exact(Z.o.set hKX hKB 4 _).below (zaa _ _)
  have F:Hid (ButL [K] w.heap.size w C):=by
   rw[A];exact((ButL.of_below L.o).set (.inl (by simp)) 4 _).trans (Y:=[]) (ButL.of_below (zaa _ _)) (by have:=L.o.size;simpa[World.setCell] using this) (by simp)
  have d:C.heap.size=c.heap.size+1:=by rw[A];simp[World.setCell]
  have J:=zab A;clear A;have U:Hid (SeePost B X j K Ms {k with down:=j.down} Mn n m fs w C):=SeePost.keep D.o N.o F.o;rw[J.o] at U;clear J D N F R Z L A5 A6 d;go_wp2;go_ret;exact⟨rfl,by rw[HE.o];exact U.o⟩
open Go.RowKit
def bk0:Bk:=⟨fun _=>none,fun z=>if z=0 then some (fun _=>none) else none,0,0,false⟩
theorem BkI.new:BkI zx5 z07 bk0:=by
 refine⟨z3x,by decide,by decide,rfl,rfl,fun _=>⟨⟨_,rfl,fun b _ s hs=>by cases hs⟩,fun _=>rfl,fun hq=>?_,fun b _=>⟨RB.new rfl rfl rfl (by exact(by decide:(0:Int)≠2)),fun s hs=>by cases hs⟩⟩,fun hd=>by cases hd⟩;have:(0:Int)=0+1:=hq;omega
def kOf (l:List Ac):Nat→Bk
 |0=>bk0
 |k+1=>zh1 (kOf l k) (l.getD k ac0) (rOf l k) (jOf l (k+1)).last (jOf l (k+1)).down
theorem z6m (l:List Ac)(k:Nat)(hk:k≤l.length):∃D,BkI (jOf l k) D (kOf l k):=by
 induction k with
 |zero=>rw[zve];exact⟨z07,BkI.new⟩
 |succ k ih=>
  obtain⟨D,h⟩:=ih (by omega);have:=(h.do (l.getD k ac0)).1;rw[kOf,zpn (by omega)];exact this
theorem z1j {j:Jn}(h:PJ j)(a:Ac)(hc:(doJ j a).2.code=0)(hk:a.kind=2∨a.kind=4):0≤a.b∧a.b≤11:=by
 obtain⟨D,C,A,E⟩:=h;obtain⟨D',_,_,_,e⟩:=z4n C a A E
 cases e with
 |calm a1 a2 a3 a4 a5 a6=>
  obtain⟨B,n3,n4,_⟩:=a4 hc;rcases hk with h|h
  ·exact absurd h B
  ·exact absurd h n4
 |write b hb hab=>omega
 |fill b hb hab=>omega
 |revoke b hb hab=>omega
 |commit k=>omega
 |through k=>omega
 |home k=>omega
 |on k=>omega
 |crash k=>omega
theorem z4s {j:Jn}(h:PJ j)(a:Ac)(hc:(doJ j a).2.code=0)(hk:a.kind=6):(doJ j a).2.n=j.last+1:=by
 obtain⟨D,B,A,C⟩:=h;obtain⟨D',_,_,_,e⟩:=z4n B a A C
 cases e with
 |calm a1 a2 a3 a4 a5 a6=>exact absurd hk (a4 hc).2.2.2.1
 |write b hb hab k=>omega
 |fill b hb hab k=>omega
 |revoke b hb hab k=>omega
 |commit k hu hu' hc hn=>exact hn
 |through k=>omega
 |home k=>omega
 |on k=>omega
 |crash k=>omega
theorem PJ.lastB {j:Jn}(h:PJ j):0≤j.last∧j.last≤402:=by
 obtain⟨D,A,h2,h3⟩:=h;refine⟨A.last0,?_⟩
 cases A with
 |idle p hs hz hD ht hq=>have:=p.seq;omega
 |commit P U k p hw hk hs hD ht he hse hrh hru hq hN=>have:=p.seq;omega
 |check k p hw hz hk hs hD ht hq=>have:=p.seq;omega
 |off l N P U p hs hf hD ht=>have:=p.lo;have:=p.seq;omega
 |back U k p hw hk hs hD ht=>have:=p.lo;have:=p.seq;omega
theorem PJ.diskB {j:Jn}(h:PJ j):j.disk.safe.length*16≤140737488355328∧j.disk.wr.length*24≤140737488355328:=by
 obtain⟨D,A,_,_⟩:=h;have hg:=zhj A.disk;exact⟨by omega,by omega⟩
structure BkS (W:World)(K Ms M0 b0 B:Nat)(k:Bk)(i:Nat)(Mn n m:Nat)(fs:Int→Option Nat):Prop where
 at_:BkAt W K Ms k Mn n m fs
 hn:n≤i
 hm:m≤i+1
 old:Mn=M0∨b0≤Mn
 nB:Mn≠B
 nS:Ms≠Mn
 fsB:∀q M,fs q=some M→M≠B∧M≠Ms
theorem zuf (w:World):
  Calls prog 20 #[] w fun e w'=>e=.returned (.pointer (some ⟨w.heap.size+3,0,none⟩))∧BkAt w' (w.heap.size+3) (w.heap.size+1) bk0 w.heap.size 0 1 (fun z=>if z=0 then some (w.heap.size+2) else none)∧w'.heap.size=w.heap.size+4∧Below w.heap.size w w':=by
 have A1:=fun w:World=>run_makeMap (P:=prog) 56 w;have A0:=fun w:World=>run_makeMap (P:=prog) 57 w;obtain⟨C,B⟩:∃C,C=((w.alloc (.map #[] 0)).alloc (.map #[] 0)).alloc (.map #[] 0):=⟨_,rfl⟩;have a:(w.alloc (.map #[] 0)).heap.size=w.heap.size+1:=by simp
 have b:((w.alloc (.map #[] 0)).alloc (.map #[] 0)).heap.size=w.heap.size+2:=by simp
 have S:C.heap.size=w.heap.size+3:=by rw[B];simp
 have N:Below w.heap.size w C:=by rw[B];exact zae (zae (zaa _ _) (zaa _ _)) (zaa _ _)
 have Y:MapF zj1 C w.heap.size 0 (fun _=>none):=by
  rw[B];have h:=MapF.made (E:=zj1) w;exact(h.below (zaa _ _)).below (zaa _ _)
 have Z:MapF z4z C (w.heap.size+1) 0 (fun _=>none):=by
  rw[B];have h:=MapF.made (E:=z4z) (w.alloc (.map #[] 0));rw[a] at h;exact h.below (zaa _ _)
 have R:MapF zj1 C (w.heap.size+2) 0 (fun _=>none):=by
  rw[B];have h:=MapF.made (E:=zj1) ((w.alloc (.map #[] 0)).alloc (.map #[] 0));rw[b] at h;exact h
 obtain⟨J,I,O,D⟩:=Z.store underlying57 0 (w.heap.size+2) (by decide) (by decide);have L:(Instr.mapUpdate 57 (.map (some (w.heap.size+1))) (.int .i64 0) (.map (some (w.heap.size+2)))).run prog C=.ok () J:=I;have A:=zd1 D (X:=[w.heap.size+1]) (by simp) C.heap.size
 have K:J.heap.size=w.heap.size+3:=by
  have h1:=D.grown.size;obtain⟨_,_,_,_,_,c⟩:=D;rw[c,←S];simp[ChangeMaps.setBlock]
 have d:Hid (∀W,W=J.alloc (.cells #[.map (some w.heap.size),.map (some (w.heap.size+1)),.int .i64 0,.int .i64 0,.bool false] 59)→BkAt W (w.heap.size+3) (w.heap.size+1) bk0 w.heap.size 0 1 (fun z=>if z=0 then some (w.heap.size+2) else none)∧W.heap.size=w.heap.size+4∧Below w.heap.size w W):=by
  intro W Q;have F:Below J.heap.size J W:=by rw[Q];exact zaa _ _
  refine⟨⟨?_,(Y.but A (by simp)).below F,O.below F,fun x hx=>?_,fun x M hx=>?_⟩,by rw[Q];simp[K],?_⟩
  ·rw[Q,←K];exact heap_alloc_new _ _
  ·show(if x=0 then some (fun _=>none) else none)=none;by_cases e:x=0
   ·rw[if_pos e] at hx;cases hx
   ·rw[if_neg e]
  ·by_cases e:x=0
   ·rw[if_pos e] at hx;cases hx;refine⟨by omega,fun _=>none,?_,(R.but A (by simp)).below F⟩;show(if x=0 then some (fun _=>none) else none)=_;rw[if_pos e]
   ·rw[if_neg e] at hx;cases hx
  ·refine zae (N.trans ⟨A.os,A.tape,A.output,A.size,fun q hq=>A.block q (by omega) (by simp;omega)⟩) F
 rw[B] at L;have U:=zab K;clear I O D A Y Z R N B a b S K;go_enter func20,ntmps20;go_wp2;go_ret;rw[U.o];exact⟨rfl,d.o _ rfl⟩
theorem zx2 (K:Nat)(o:Oper)(ρ:Operand→Value)(w:World)(x y z:Value)(ts:Array TypeId)(ho:o.op=Op.call {callee:=.value (.tmp 28),args:=#[.tmp 29,.tmp 33,.tmp 34],argTypes:=ts})(h1:ρ (.tmp 28)=.func (.func 22) #[.pointer (some ⟨K,0,none⟩)] #[])(h2:ρ (.tmp 29)=x)(h3:ρ (.tmp 33)=y)(h4:ρ (.tmp 34)=z):
  (execOp ρ o).run prog w=.ok (.enter 22 #[.pointer (some ⟨K,0,none⟩),x,y,z]) w:=by
 simp only[execOp,ho]
 go_simp
theorem BkS.but {W W':World}{K Ms M0 b0 B:Nat}{k:Bk}{i Mn n m:Nat}{fs:Int→Option Nat}(h:BkS W K Ms M0 b0 B k i Mn n m fs)(hb:ButL [B] W.heap.size W W')(hK:K≠B)(hS:Ms≠B):BkS W' K Ms M0 b0 B k i Mn n m fs:=
 ⟨h.at_.but hb (by simpa using hK) (by simpa using h.nB) (by simpa using hS) (fun x M hx=>by simpa using(h.fsB x M hx).1),h.hn,h.hm,h.old,h.nB,h.nS,h.fsB⟩
theorem zx3 (a:Option Addr)(c:Nat)(l:List Ac)(w:World)(K Ms M0:Nat)(fs0:Int→Option Nat)(hA:SegA (zar w [K,M0,Ms]) a l)(hlen:l.length≤maxLen)(hok:∀x∈l,OkA x)(h0:BkAt w K Ms bk0 M0 0 1 fs0)(hS0:Ms≠M0)(hf0:∀q M,fs0 q=some M→M≠Ms):
  Calls prog 21 #[.slice a l.length c,.func (.func 22) #[.pointer (some ⟨K,0,none⟩)] #[]] w fun e w'=>∃B,e=.returned (.tuple #[.pointer (some ⟨B,0,none⟩),.bool true])∧w.heap.size≤B∧(∃Mn n m fs,BkS w' K Ms M0 w.heap.size B (kOf l (played l)) (played l) Mn n m fs)∧JAt w' B [B,K,M0,Ms] (jOf l (played l))∧ButL [K,M0,Ms] w.heap.size w w':=by
 have lK:=h0.lt;have lN:=h0.now.lt;have lS:=h0.sts.lt
 refine z1i _ 22 (fun x y z=>#[.pointer (some ⟨K,0,none⟩),x,y,z]) (zx2 _) a c l w [K,M0,Ms] hA hlen hok (by simp;omega)
  (fun B i W=>∃Mn n m fs,BkS W K Ms M0 w.heap.size B (kOf l i) i Mn n m fs) ?s0 ?sb ?look
 case s0=>
  intro W B O b _;refine⟨M0,0,1,fs0,h0.below b,Nat.le_refl _,Nat.le_refl _,.inl rfl,by omega,hS0,fun q M hq=>⟨?_,hf0 q M hq⟩⟩;obtain⟨_,_,_,p⟩:=h0.some q M hq;have:=p.lt;omega
 case sb=>
  rintro i W W' B ⟨Mn,n,m,fs,h⟩ O hs hb;exact⟨Mn,n,m,fs,h.but hb (by omega) (by omega)⟩
 case look=>
  rintro k W B S O ⟨Mn,n,m,fs,h⟩ hJ d;have F:k<l.length:=by unfold played at S;omega
  have A0:k<150:=by unfold played at S;omega
  obtain⟨D,s⟩:=z6m l k (by omega);have hd:=(s.do (l.getD k ac0)).2;have N:=z1j (zn7 l k) (l.getD k ac0);have L:=z4s (zn7 l k) (l.getD k ac0);have A3:=(zn7 l k).lastB;have J:OkA (l.getD k ac0):=hok _ (by rw[List.getD,List.getElem?_eq_getElem F];exact List.getElem_mem F);have A2:=d B (by simp);have r:=(zn7 l (k+1)).lastB;have I:=(zn7 l (k+1)).diskB;rw[←zpn F] at hd;have E:=h.hn;have hm:=h.hm;refine(z4r B _ (jOf l (k+1)) (l.getD k ac0) (rOf l k) K Ms (kOf l k) Mn n m fs W hJ h.at_ (by simp) (by omega) (by unfold maxLen;omega) (by unfold maxLen;omega) J.text h.nS (fun q M hq=>(h.fsB q M hq).2) N (fun h1 h2=>by have h3:(rOf l k).n=(jOf l k).last+1:=L h1 h2;omega) r.1 (by omega) I.1 I.2 hd).mono ?_;rintro e W' ⟨rfl,U,Y,j,R,Z,g2,g3,A,X,u,C⟩;have A1:w.heap.size≤W.heap.size:=by omega
  refine⟨rfl,⟨U,Y,j,R,Z,by omega,by omega,?_,?_,?_,fun q M hq=>?_⟩,u,⟨C.os,C.tape,C.output,C.size,fun q hq E=>C.block q (by omega) ?_⟩,C.size⟩
  ·rcases A with rfl|A
   ·exact h.old
   ·right;omega
  ·rcases A with rfl|A
   ·exact h.nB
   ·omega
  ·rcases A with rfl|A
   ·exact h.nS
   ·omega
  ·rcases X q M hq with g|g
   ·exact h.fsB q M g
   ·exact⟨by omega,by omega⟩
  ·have Q:=h.old;simp only[List.mem_cons,List.not_mem_nil,or_false,not_or] at E⊢;refine⟨E.1,?_,E.2.2⟩;rcases Q with rfl|Q
   ·exact E.2.1
   ·omega
theorem zx4 (a:Option Addr)(c:Nat)(l:List Ac)(w:World)(hA:SegA w a l)(hlen:l.length≤maxLen)(hok:∀y∈l,OkA y):
  Calls prog 4 #[.slice a l.length c] w fun e w'=>e=.returned (.bool true)∧Below w.heap.size w w':=by
 have N:=zab hA;have I:=zab hok;have Q:=zab hlen;clear hA hok hlen;go_enter func4,ntmps4;go_wp2_with fail;refine(zuf _).mono ?_;rintro e L ⟨rfl,F,C,E⟩;have O:=zab F;have D:=zab E;have K:=zab C;clear F E C;go_wp2_with fail
 refine(zx3 a c l L _ _ _ _ (N.o.hideW D.o (by simp)) Q.o I.o O.o (by omega) (fun q M hq=>by
  by_cases e:q=0
  ·rw[if_pos e] at hq;cases hq;omega
  ·rw[if_neg e] at hq;cases hq)).mono ?_
 rintro e R ⟨B,rfl,hB,_,_,A⟩;have J:Hid (Below w.heap.size w R):=D.o.trans ⟨A.os,A.tape,A.output,A.size,fun q hq=>A.block q (by have:=K.o;omega) (by simp;omega)⟩;clear A;go_wp2;go_ret;exact⟨rfl,J.o⟩
end Go.Proofs.YtjnpndfpajjihacGreat

