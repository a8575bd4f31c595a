/-
  
-/
import Derived.Test.YtjnpndfpajjihacGreatJMaps
import Derived.Test.YtjnpndfpajjihacGreatGrTopAnywhere48
import Derived.Test.YtjnpndfpajjihacGreatJDisk
import Derived.Test.YtjnpndfpajjihacGreatJRing
set_option maxRecDepth 100000
set_option maxHeartbeats 40000000
namespace Go.Proofs.YtjnpndfpajjihacGreat
open Go.Proofs.Tryz
open Go.RowKit
theorem z6e(w:World):(zeroValue 56).run prog w=.ok (.map none) w:=by kernel_rfl
theorem MapM.lookSome{w:World}{B n:Nat}{f:Int→Option Nat}(h:MapF z5b w B n f)(x:Int)(hx:(Lit.int .i64 x).wf=true){M:Nat}(hf:f x=some M):
  (Instr.lookup 57 (.map (some B)) (.int .i64 x) true).run prog w=.ok (.tuple #[.map (some M),.bool true]) w:=
 h.lookSome underlying57 (z6e w) (zd:=.lit (.bool false)) (zp:=[]) rfl x hx hf
structure BkAt (W:World)(K Ms:Nat)(k:Bk)(Mn n m:Nat)(fs:Int→Option Nat):Prop where
 box:W.heap[K]?=some (.cells #[.map (some Mn),.map (some Ms),.int .i64 k.sealed,.int .i64 k.told,.bool k.down] 59 (0,0))
 now:MapF zkb W Mn n k.now
 sts:MapF z5b W Ms m fs
 none:∀x,fs x=none→k.states x=none
 some:∀x M,fs x=some M→M≠Mn∧∃st,k.states x=some st∧MapF zkb W M n st
section
variable {W W':World} {K Ms:Nat} {k:Bk} {Mn n m:Nat} {fs:Int→Option Nat}
theorem BkAt.lt(h:BkAt W K Ms k Mn n m fs):K<W.heap.size:=(Array.getElem?_eq_some_iff.1 h.box).1
theorem BkAt.but(h:BkAt W K Ms k Mn n m fs){X:List Nat}(hb:ButL X W.heap.size W W')(hK:K∉X)(hn:Mn∉X)(hs:Ms∉X)(hf:∀x M,fs x=.some M→M∉X):BkAt W' K Ms k Mn n m fs:=
 ⟨(hb.block K h.lt hK).trans h.box,h.now.but hb hn,h.sts.but hb hs,h.none,fun x M hx=>by
   obtain⟨h1,st,h2,h3⟩:=h.some x M hx
   exact⟨h1,st,h2,h3.but hb (hf x M hx)⟩⟩
theorem BkAt.below(h:BkAt W K Ms k Mn n m fs)(hb:Below W.heap.size W W'):BkAt W' K Ms k Mn n m fs:=h.but (X:=[]) (ButL.of_below hb) (by simp) (by simp) (by simp) (by simp)
theorem MapF.set{α:Type}{E:Elem α}{B c:Nat}{f:Int→Option α}(h:MapF E W B c f){q:Nat}{cs:Array Value}{t:TypeId}{z:Nat×Nat}(hq:W.heap[q]?=.some (.cells cs t z))(o:Nat)(u:Value):MapF E (W.setCell ⟨q,o,.none⟩ u) B c f:=by
 obtain⟨es,ck,A⟩:=h.isMap;refine h.block (Below.heap_setCell _ _ _ _ ?_);intro e;simp only at e;rw[e,hq]at A;cases A
theorem BkAt.cells(h:BkAt W K Ms k Mn n m fs)(o:Nat)(u:Value){k':Bk}(hs:k'.states=k.states)(hn:k'.now=k.now)(hb:(W.setCell ⟨K,o,.none⟩ u).heap[K]?=.some (.cells #[.map (.some Mn),.map (.some Ms),.int .i64 k'.sealed,.int .i64 k'.told,.bool k'.down] 59 (0,0))):BkAt (W.setCell ⟨K,o,.none⟩ u) K Ms k' Mn n m fs:=
 ⟨hb,by rw[hn];exact h.now.set h.box o u,h.sts.set h.box o u,by rw[hs];exact h.none,fun x M hx=>by
  obtain⟨h1,st,h2,h3⟩:=h.some x M hx
  exact⟨h1,st,by rw[hs];exact h2,h3.set h.box o u⟩⟩
theorem BkAt.setDown(h:BkAt W K Ms k Mn n m fs)(d:Bool):BkAt (W.setCell ⟨K,4,.none⟩ (.bool d)) K Ms {k with down:=d} Mn n m fs:=h.cells 4 _ rfl rfl (heap_setCell_same _ _ 4 _ _ _ h.box)
theorem BkAt.setSealed(h:BkAt W K Ms k Mn n m fs)(x:Int):BkAt (W.setCell ⟨K,2,.none⟩ (.int .i64 x)) K Ms {k with sealed:=x} Mn n m fs:=h.cells 2 _ rfl rfl (heap_setCell_same _ _ 2 _ _ _ h.box)
theorem BkAt.setTold(h:BkAt W K Ms k Mn n m fs)(x:Int):BkAt (W.setCell ⟨K,3,.none⟩ (.int .i64 x)) K Ms {k with told:=x} Mn n m fs:=h.cells 3 _ rfl rfl (heap_setCell_same _ _ 3 _ _ _ h.box)
theorem BkAt.setNow(h:BkAt W K Ms k Mn n m fs){M:Nat}{g:Int→Option ByteArray}(hM:MapF zkb W M n g)(hf:∀x Q,fs x=.some Q→Q≠M):BkAt (W.setCell ⟨K,0,.none⟩ (.map (.some M))) K Ms {k with now:=g} M n m fs:=
 ⟨heap_setCell_same _ _ 0 _ _ _ h.box,hM.set h.box 0 _,h.sts.set h.box 0 _,h.none,fun x Q hx=>by
  obtain⟨h1,st,h2,h3⟩:=h.some x Q hx
  exact⟨hf x Q hx,st,h2,h3.set h.box 0 _⟩⟩
theorem BkAt.turnNow(h:BkAt W K Ms k Mn n m fs){g:Int→Option ByteArray}{c:Nat}(hc:n≤c)(hM:MapF zkb W' Mn c g)(ht:W.mapTurned W' Mn)(hs:Ms≠Mn):BkAt W' K Ms {k with now:=g} Mn c m fs:=by
 have hb:=zd0 ht (X:=[Mn]) (by simp) W.heap.size
 have E:K∉[Mn]:=by
  intro e;rw[List.mem_singleton.1 e]at h;obtain⟨es,ck,B⟩:=h.now.isMap;rw[h.box]at B;cases B
 exact⟨(hb.block K h.lt E).trans h.box,hM,h.sts.but hb (by simpa using hs),h.none,fun x Q hx=>by
  obtain⟨A,D,C,F⟩:=h.some x Q hx
  exact⟨A,D,C,(F.but hb (by simpa using A)).mono hc⟩⟩
theorem BkAt.turnSts(h:BkAt W K Ms k Mn n m fs){x:Int}{Q c:Nat}{g:Int→Option ByteArray}(hM:MapF z5b W' Ms c (fun z=>if z=x then .some Q else fs z))(ht:W.mapTurned W' Ms)(hQ:MapF zkb W Q n g)(hs:Ms≠Mn)(hQn:Q≠Mn)(hQs:Q≠Ms)(hf:∀x M,fs x=.some M→M≠Ms):BkAt W' K Ms {k with states:=atK k.states x g} Mn n c (fun z=>if z=x then .some Q else fs z):=by
 have hb:=zd0 ht (X:=[Ms]) (by simp) W.heap.size
 have E:K∉[Ms]:=by
  intro e;rw[List.mem_singleton.1 e]at h;obtain⟨es,ck,A⟩:=h.sts.isMap;rw[h.box]at A;cases A
 refine⟨(hb.block K h.lt E).trans h.box,h.now.but hb (by simpa using Ne.symm hs),hM,fun z hz=>?_,fun z M hz=>?_⟩
 ·by_cases e:z=x
  ·rw[if_pos e]at hz;cases hz
  ·rw[if_neg e]at hz;show atK k.states x g z=_;rw[zvl _ _ e];exact h.none z hz
 ·by_cases e:z=x
  ·rw[if_pos e]at hz;cases hz;exact⟨hQn,g,zpt _ _ e,hQ.but hb (by simpa using hQs)⟩
  ·rw[if_neg e]at hz;obtain⟨C,D,B,F⟩:=h.some z M hz;exact⟨C,D,(zvl _ _ e).trans B,F.but hb (by simpa using hf z M hz)⟩
end
def SeePost (B:Nat)(X:List Nat)(j:Jn)(K Ms:Nat)(k':Bk)(Mn n m:Nat)(fs:Int→Option Nat)(w w':World):Prop:=
 ∃Mn' n' m' fs',BkAt w' K Ms k' Mn' n' m' fs'∧n'≤n+1∧m'≤m+1∧(Mn'=Mn∨w.heap.size≤Mn')∧(∀q M,fs' q=some M→fs q=some M∨w.heap.size≤M)∧JAt w' B X j∧ButL [K,Mn,Ms] w.heap.size w w'
theorem z1l(B:Nat)(X:List Nat)(j:Jn)(b:Nat)(w:World)(h:JAt w B X j)(hb:b<12)(h16:j.disk.safe.length*16≤140737488355328)(h24:j.disk.wr.length*24≤140737488355328):
  Calls prog 26 #[.pointer (some ⟨B,0,none⟩),.int .i64 b] w fun e w'=>e=.returned (.string (zam j.disk ((25+b:Nat):Int)))∧Below w.heap.size w w':=by
 have K:=zaa h;clear h;have hw:IntKind.i64.wrap (25+(b:Int))=((25+b:Nat):Int):=by rw[IntKind.wrap_i64];omega
 have E:(25+(b:Int))=((25+b:Nat):Int):=by omega
 have L:=zaa E;clear E;go_enter func26,ntmps26;go_wp2_with fail;refine(z1k B X j w K.o h16 h24).mono ?_;rintro e M ⟨v,rfl,J,A⟩;have I:=zaa J;have C:=zaa A;clear J A;go_wp2_with fail;refine(zk2 v j.disk _ M I.o).mono ?_;rintro e w2 ⟨rfl,D⟩;have F:=zaa (zae C.o D);clear D C I;go_wp2;go_ret;exact⟨by first|rfl|(rw[L.o]),F.o⟩
theorem z6f(f:Int→Option ByteArray)(x:Int)(s:ByteArray):(fun z=>if z=x then some s else f z)=atK f x s:=rfl
theorem z41(f:Int→Option ByteArray)(x:Int):(fun z=>if z=x then none else f z)=z1v f x:=rfl
section
variable {B:Nat} {X:List Nat} {j:Jn} {K Ms:Nat} {k:Bk} {Mn n m:Nat} {fs:Int→Option Nat} {w W W2:World}
theorem SeePost.keep(hK:BkAt W K Ms k Mn n m fs)(hJ:JAt W B X j)(hb:ButL [K] w.heap.size w W):SeePost B X j K Ms k Mn n m fs w W:=
 ⟨Mn,n,m,fs,hK,Nat.le_succ _,Nat.le_succ _,.inl rfl,fun _ _ h=>.inl h,hJ,hb.wider (by simp)⟩
theorem SeePost.turn(hK:BkAt W K Ms k Mn n m fs)(hJ:JAt W B X j)(hb:ButL [K] w.heap.size w W){g g':Int→Option ByteArray}(hM:MapF zkb W2 Mn (n+1) g)(ht:W.mapTurned W2 Mn)(hs:Ms≠Mn)(hg:g=g'):SeePost B X j K Ms {k with now:=g'} Mn n m fs w W2:=by
 subst hg;exact⟨Mn,n+1,m,fs,hK.turnNow (Nat.le_succ _) hM ht hs,Nat.le_refl _,Nat.le_succ _,.inl rfl,fun _ _ h=>.inl h,hJ.turned ht,(hb.wider (by simp)).trans (zd0 ht (X:=[K,Mn,Ms]) (by simp) W.heap.size) hb.size (by simp)⟩
end
def zpu (K:Nat)(P:Nat)(Mn:Nat)(x:Ac):Nat→Value→World→Prop
 |0,v,_=>v=.pointer (some ⟨K,0,none⟩)
 |1,v,_=>v=.pointer (some ⟨K,0,none⟩)
 |2,v,_=>v=.pointer (some ⟨K,0,none⟩)
 |3,v,_=>v=.map (some Mn)
 |4,v,_=>v=.pointer (some ⟨P,2,none⟩)
 |5,v,_=>v=.int .i64 x.b
 |6,v,_=>v=.pointer (some ⟨P,4,none⟩)
 |7,v,_=>v=.string x.text
 |8,v,_=>v=.string (fitT x.text)
 |_,_,_=>True
theorem zpv{K:Nat}{P:Nat}{Mn:Nat}{x:Ac}{w w':World}(_hb:Below w.heap.size w w'){i:Nat}:∀kk uu,kk≠i→zpu K P Mn x kk uu w→zpu K P Mn x kk uu w':=by
 intro kk uu _ h
 match kk,h with
 |0,h|1,h|2,h|3,h|4,h|5,h|6,h|7,h|8,h=>exact h
 |_+9,_=>exact trivial
def z3u (K:Nat)(P:Nat)(Mn:Nat)(x:Ac):Nat→Value→World→Prop
 |0,v,_=>v=.pointer (some ⟨K,0,none⟩)
 |1,v,_=>v=.pointer (some ⟨K,0,none⟩)
 |2,v,_=>v=.pointer (some ⟨K,0,none⟩)
 |3,v,_=>v=.map (some Mn)
 |4,v,_=>v=.pointer (some ⟨P,2,none⟩)
 |5,v,_=>v=.int .i64 x.b
 |_,_,_=>True
def zlk (K:Nat)(Q:Nat)(Mn:Nat)(Ms:Nat)(r:Rp)(n:Nat)(k:Bk)(W2:World):Nat→Value→World→Prop
 |0,v,_=>v=.pointer (some ⟨K,0,none⟩)
 |1,v,_=>v=.pointer (some ⟨K,0,none⟩)
 |2,v,_=>v=.pointer (some ⟨K,1,none⟩)
 |3,v,_=>v=.map (some Ms)
 |4,v,_=>v=.pointer (some ⟨Q,1,none⟩)
 |5,v,_=>v=.int .i64 r.n
 |6,v,_=>v=.pointer (some ⟨K,0,none⟩)
 |7,v,_=>v=.pointer (some ⟨K,0,none⟩)
 |8,v,_=>v=.pointer (some ⟨K,0,none⟩)
 |9,v,_=>v=.map (some Mn)
 |10,v,w=>∃M',v=.map (some M')∧MapF zkb w M' n k.now∧W2.heap.size≤M'
 |_,_,_=>True
theorem zm8{K:Nat}{Q:Nat}{Mn:Nat}{Ms:Nat}{r:Rp}{n:Nat}{k:Bk}{W2:World}{w w':World}(hb:Below w.heap.size w w'){i:Nat}:∀kk uu,kk≠i→zlk K Q Mn Ms r n k W2 kk uu w→zlk K Q Mn Ms r n k W2 kk uu w':=by
 intro kk uu _ h
 match kk,h with
 |0,h|1,h|2,h|3,h|4,h|5,h|6,h|7,h|8,h|9,h=>exact h
 |10,⟨M',h1,h2,h3⟩=>exact⟨M',h1,h2.below hb,h3⟩
 |_+11,_=>exact trivial
theorem z1n(B:Nat)(X:List Nat)(j:Jn)(x:Ac)(r:Rp)(K Ms:Nat)(k:Bk)(Mn n m:Nat)(fs:Int→Option Nat)(w:World)(hJ:JAt w B X j)(hK:BkAt w K Ms k Mn n m fs)(hKX:K∈X)(hKB:K≠B)(hnn:n<maxLen)(hmm:m<maxLen)(hxt:x.text.size≤maxLen)(hsn:Ms≠Mn)(hfm:∀x M,fs x=some M→M≠Ms)
  (hxb:r.code=0→(x.kind=2∨x.kind=4)→0≤x.b∧x.b≤11) (hrn:r.code=0→x.kind=6→0≤r.n∧r.n≤1000) (hl0:0≤j.last) (hl1:j.last≤1000) (h16:j.disk.safe.length*16≤140737488355328) (h24:j.disk.wr.length*24≤140737488355328) (hok:z6t k x r j):
  Calls prog 22 #[.pointer (some ⟨K,0,none⟩),.pointer (some ⟨B,0,none⟩),.agg #[.int .i64 x.kind,.int .i64 x.h,.int .i64 x.b,.int .i64 x.n,.string x.text],.agg #[.int .i64 r.code,.int .i64 r.n,.string r.text]] w fun e w'=>e=.returned (.bool true)∧SeePost B X j K Ms (zhj k x r j.last j.down) Mn n m fs w w':=by
 have A7:=zaa hxb;have B1:=zaa hrn;have B3:=zaa hok;have A9:=zaa hK.none;clear hxb hrn hok;have I3:K<w.heap.size:=hK.lt;have HJ:=zaa hJ;have HK:=zaa hK;clear hJ hK;obtain⟨W0,B6⟩:∃W0,W0=(w.alloc (.cells #[.int .i64 x.kind,.int .i64 x.h,.int .i64 x.b,.int .i64 x.n,.string x.text] 23)).alloc (.cells #[.int .i64 r.code,.int .i64 r.n,.string r.text] 31):=⟨_,rfl⟩;have D6:Hid (Below w.heap.size w W0):=by rw[B6];exact zae (zab _ _) (zab _ _)
 have E2:(w.alloc (.cells #[.int .i64 x.kind,.int .i64 x.h,.int .i64 x.b,.int .i64 x.n,.string x.text] 23)).heap.size=w.heap.size+1:=by simp
 have KA:Hid (W0.heap[w.heap.size]?=some (.cells #[.int .i64 x.kind,.int .i64 x.h,.int .i64 x.b,.int .i64 x.n,.string x.text] 23 (0,0))):=by rw[B6];exact zad (zab _ _) (by omega) (heap_alloc_new _ _)
 have KR:Hid (W0.heap[w.heap.size+1]?=some (.cells #[.int .i64 r.code,.int .i64 r.n,.string r.text] 31 (0,0))):=by rw[B6,←E2];exact heap_alloc_new _ _
 have H1:W0.heap.size=w.heap.size+2:=by rw[B6];simp
 have E6:=zaa B6;clear B6 E2;go_enter func22,ntmps22;go_wp2_with fail;rw[←E6.o];clear E6;refine(z1m B X j W0 (HJ.o.below D6.o)).mono ?_;rintro e c ⟨rfl,C8⟩;have L:=zaa (zae D6.o C8);have A6:=zaa (zad C8 (by omega) KA.o);have A8:=zaa (zad C8 (by omega) KR.o);have R:=zaa (HK.o.below L.o);have Z:=zaa (HJ.o.below L.o);have H0:W0.heap.size≤c.heap.size:=C8.size;have q0:w.heap.size<c.heap.size:=by omega
 have q1:w.heap.size+1<c.heap.size:=by omega
 have q2:K<c.heap.size:=by omega
 have e0:¬K=w.heap.size:=by omega
 have e1:¬K=w.heap.size+1:=by omega
 have e2:¬w.heap.size=K:=by omega
 have e3:¬w.heap.size+1=K:=by omega
 clear C8 KA KR D6 HK HJ H1 H0;obtain⟨⟨z0,z1,z2,z3,z4⟩,_⟩:=zhn A6.o;obtain⟨⟨y0,y1,y2⟩,_⟩:=zbl A8.o;obtain⟨⟨k0,k1,k2,k3,k4⟩,I4,I5,I7,H2,I8⟩:=zhn R.o.box;by_cases hc:r.code=0
 ·rw[hc]at y0;have HC:=zaa hc;clear hc;by_cases k2':x.kind=2
  ·rw[k2']at z0;have hE:zhj k x r j.last j.down={k with now:=atK k.now x.b (fitT x.text),down:=j.down}:=by rw[zhj,if_pos HC.o,if_pos k2']
   have B9:(Lit.int .i64 x.b).wf=true:=by have:=A7.o HC.o (.inl k2');exact wfI (by omega) (by omega)
   have s:=zaa hE;clear hE k2' A7 B1 B3 A9;obtain⟨C,A⟩:∃C,C=(c.setCell ⟨K,4,none⟩ (.bool j.down)).alloc (.cells #[.int .i64 j.rh,.int .i64 j.ru] 26):=⟨_,rfl⟩;have D:Hid (BkAt C K Ms {k with down:=j.down} Mn n m fs):=by rw[A];exact(R.o.setDown j.down).below (zab _ _)
   have N:Hid (JAt C B X j):=by rw[A];exact(Z.o.set hKX hKB 4 _).below (zab _ _)
   have F:Hid (ButL [K] w.heap.size w C):=by
    rw[A];exact((ButL.of_below L.o).set (.inl (by simp)) 4 _).trans (Y:=[]) (ButL.of_below (zab _ _)) (by have:=L.o.size;simpa[World.setCell] using this) (by simp)
   have d:C.heap.size=c.heap.size+1:=by rw[A];simp[World.setCell]
   have J:=zaa A
   have D8:Hid (C.heap[w.heap.size]?=some (.cells #[.int .i64 x.kind,.int .i64 x.h,.int .i64 x.b,.int .i64 x.n,.string x.text] 23 (0,0))):=by
    rw[A];exact zad (zab _ _) (by simpa[World.setCell] using q0) ((Below.heap_setCell _ _ _ _ e2).trans A6.o)
   clear A;have C0:Hid (C.cell? ⟨K,0,none⟩=some (.map (some Mn))):=(cell_of_row C _ 0 _ _ _ D.o.box).trans rfl;obtain⟨⟨a0,a1,a2,a3,a4⟩,_⟩:=zhn D8.o;have I0:=zaa a0;have H9:=zaa a1;have D5:=zaa a2;have H8:=zaa a3;have F7:=zaa a4;have B5:K<C.heap.size:=by omega
   have C9:w.heap.size<C.heap.size:=by omega
   clear a0 a1 a2 a3 a4;go_wp2_with fail;rw[←J.o];clear J;rename_i KK A1
   have A3:∀(g:Nat→Value) (U:World),SeePost B X j K Ms {k with now:=atK k.now x.b (fitT x.text),down:=j.down} Mn n m fs w U→KK ⟨#[g 0,g 1,g 2,g 3,g 4,g 5,g 6,g 7,g 8,g 9,g 10,g 11,g 12,g 13,g 14,g 15,g 16,g 17,g 18,g 19,g 20,g 21,g 22,g 23,g 24,g 25,g 26,g 27,g 28,g 29,g 30,g 31,g 32,g 33,g 34,g 35,g 36,g 37,g 38,g 39,g 40,g 41,g 42,g 43,g 44,g 45,g 46,g 47,g 48,g 49,g 50,g 51,g 52,g 53,g 54,g 55,g 56,g 57,g 58,g 59,g 60,g 61,g 62,g 63,g 64,g 65,g 66,g 67,g 68,g 69,g 70,g 71,g 72,g 73,g 74,g 75,g 76,g 77,g 78,g 79,g 80,g 81,g 82,g 83,g 84,g 85,g 86,g 87,g 88,g 89,g 90,g 91,g 92,g 93,g 94,g 95,g 96,g 97,g 98,g 99,g 100,g 101,g 102,g 103,g 104,g 105,g 106,g 107,g 108,g 109,g 110,g 111,g 112,g 113,g 114,g 115,g 116,g 117,g 118,g 119,g 120,g 121,g 122,g 123,g 124,g 125,g 126,g 127,g 128,g 129,g 130,g 131,g 132,g 133,g 134,g 135,g 136,g 137,g 138,g 139,g 140,g 141,g 142,g 143,g 144,g 145,g 146],[]⟩ U:=by
    intro g U hW;apply A1;clear A1;have S:=zaa hW;clear hW;go_wp2;go_ret;exact⟨rfl,by rw[s.o];exact S.o⟩
   have A5:=zaa A3;clear A3 A1;refine(show∀A0:Act,A0=_→Code.wp prog _ _ A0 _ from fun A0 hA0=>?_) _ rfl;have I:A0.tmps.size=147:=by rw[hA0];rfl
   have C7:A0.defers=[]:=by rw[hA0]
   have v0:A0.eval (.tmp 0)=.pointer (some ⟨K,0,none⟩):=by rw[hA0];rfl
   have v6:A0.eval (.tmp 6)=.pointer (some ⟨w.heap.size,0,none⟩):=by rw[hA0];rfl
   clear hA0;refine zbb 9 (fun w'=>Below C.heap.size C w') [39,40,41,42,43,44,45,46,47] (zpu K w.heap.size Mn x) (by kernel_rfl) (by kernel_rfl) (by kernel_rfl) (by kernel_rfl) (by decide) ((Below.refl _ _).drew) ⟨?_,?_,?_,?_,?_,?_,?_,?_,?_,trivial⟩ ?_
   ·exact zbd v0 I (fun _=>rfl) fun ρ w' E z=>by simp only[execOp];go_simp
   ·exact zal 0 39 I (fun _ _ h=>h) (fun _=>rfl) fun ρ w' E p=>by simp only[execOp];go_simp
   ·exact zal 1 40 I (fun _ _ h=>h) (fun _=>rfl) fun ρ w' E p=>by simp only[execOp];go_simp
   ·exact zal 2 41 I (fun _ _ h=>h) (fun _=>rfl) fun ρ w' E p=>by have c0:w'.cell? ⟨K,0,none⟩=some (.map (some Mn)):=zac E B5 C0.o;simp only[execOp];go_simp
   ·exact zbd v6 I (fun _=>rfl) fun ρ w' E z=>by simp only[execOp];go_simp
   ·exact zal 4 43 I (fun _ _ h=>h) (fun _=>rfl) fun ρ w' E p=>by have c0:w'.cell? ⟨w.heap.size,2,none⟩=some (.int .i64 x.b):=zac E C9 D5.o;simp only[execOp];go_simp
   ·exact zbd v6 I (fun _=>rfl) fun ρ w' E z=>by simp only[execOp];go_simp
   ·exact zal 6 45 I (fun _ _ h=>h) (fun _=>rfl) fun ρ w' E p=>by have c0:w'.cell? ⟨w.heap.size,4,none⟩=some (.string x.text):=zac E C9 F7.o;simp only[execOp];go_simp
   ·intro a w' hF E hp;have p46:a.eval (.tmp 46)=.string x.text:=hp ⟨7,.data⟩ (by simp) rfl;refine zbo 25 #[.string x.text] rfl rfl (by have pf:=Act.eval_func a 25;revert p46 pf;generalize a.eval=ρ;intro p46 pf;simp only[execOp];go_simp) _ (zf9 x.text w' hxt) ?_;rintro e w2 ⟨rfl,C4⟩;refine⟨_,rfl,_,rfl,zae E C4,?_,zpv C4⟩;show zpu _ _ _ _ _ ((a.put (some 47) _).eval (.tmp 47)) w2;rw[zaq hF I (by decide)];exact rfl
   ·intro O W hF E hp;have p42:O.eval (.tmp 42)=.map (some Mn):=hp 3 (by decide);have p44:O.eval (.tmp 44)=.int .i64 x.b:=hp 5 (by decide);have p47:O.eval (.tmp 47)=.string (fitT x.text):=hp 8 (by decide);have C3:O.tmps.size=147:=hF.size.trans I;have A2:=D.o.below E;obtain⟨U,B7,B2,B4⟩:=A2.now.store underlying56 x.b (fitT x.text) B9 hnn;have E1:(Instr.mapUpdate 56 (.map (some Mn)) (.int .i64 x.b) (.string (fitT x.text))).run prog W=.ok () U:=B7;show wpOps prog _ _ [9] O W;rw[wpOps_cons];refine zce rfl rfl (w':=U) (by revert p42 p44 p47;generalize O.eval=ρ;intro p42 p44 p47;simp only[execOp];go_simp) ?_;show KK O U;have B0:O=⟨#[_,_,_,_,_,_,_,_,_,_,_,_,_,_,_,_,_,_,_,_,_,_,_,_,_,_,_,_,_,_,_,_,_,_,_,_,_,_,_,_,_,_,_,_,_,_,_,_,_,_,_,_,_,_,_,_,_,_,_,_,_,_,_,_,_,_,_,_,_,_,_,_,_,_,_,_,_,_,_,_,_,_,_,_,_,_,_,_,_,_,_,_,_,_,_,_,_,_,_,_,_,_,_,_,_,_,_,_,_,_,_,_,_,_,_,_,_,_,_,_,_,_,_,_,_,_,_,_,_,_,_,_,_,_,_,_,_,_,_,_,_,_,_,_,_,_,_],[]⟩:=zb9 O 147 C3 (hF.defers.trans C7);exact(congrArg (fun y=>KK y _) B0).mpr (A5.o (fun k=>O.eval (.tmp k)) U (SeePost.turn A2 (N.o.below E) (F.o.trans (Y:=[]) (ButL.of_below E) F.o.size (by simp)) B2 B4 hsn (z6f _ _ _)))
  by_cases k4':x.kind=4
  ·rw[k4']at z0;have hE:zhj k x r j.last j.down={k with now:=z1v k.now x.b,down:=j.down}:=by rw[zhj,if_pos HC.o,if_neg k2',if_pos k4']
   have B9:(Lit.int .i64 x.b).wf=true:=by have:=A7.o HC.o (.inr k4');exact wfI (by omega) (by omega)
   have s:=zaa hE;clear hE k2' k4' A7 B1 B3 A9;obtain⟨C,A⟩:∃C,C=(c.setCell ⟨K,4,none⟩ (.bool j.down)).alloc (.cells #[.int .i64 j.rh,.int .i64 j.ru] 26):=⟨_,rfl⟩;have D:Hid (BkAt C K Ms {k with down:=j.down} Mn n m fs):=by rw[A];exact(R.o.setDown j.down).below (zab _ _)
   have N:Hid (JAt C B X j):=by rw[A];exact(Z.o.set hKX hKB 4 _).below (zab _ _)
   have F:Hid (ButL [K] w.heap.size w C):=by
    rw[A];exact((ButL.of_below L.o).set (.inl (by simp)) 4 _).trans (Y:=[]) (ButL.of_below (zab _ _)) (by have:=L.o.size;simpa[World.setCell] using this) (by simp)
   have d:C.heap.size=c.heap.size+1:=by rw[A];simp[World.setCell]
   have J:=zaa A
   have D8:Hid (C.heap[w.heap.size]?=some (.cells #[.int .i64 x.kind,.int .i64 x.h,.int .i64 x.b,.int .i64 x.n,.string x.text] 23 (0,0))):=by
    rw[A];exact zad (zab _ _) (by simpa[World.setCell] using q0) ((Below.heap_setCell _ _ _ _ e2).trans A6.o)
   clear A;have C0:Hid (C.cell? ⟨K,0,none⟩=some (.map (some Mn))):=(cell_of_row C _ 0 _ _ _ D.o.box).trans rfl;obtain⟨⟨a0,a1,a2,a3,a4⟩,_⟩:=zhn D8.o;have D5:=zaa a2;have B5:K<C.heap.size:=by omega
   have C9:w.heap.size<C.heap.size:=by omega
   clear a0 a1 a2 a3 a4;go_wp2_with fail;rw[←J.o];clear J;rename_i KK A1
   have A3:∀(g:Nat→Value) (U:World),SeePost B X j K Ms {k with now:=z1v k.now x.b,down:=j.down} Mn n m fs w U→KK ⟨#[g 0,g 1,g 2,g 3,g 4,g 5,g 6,g 7,g 8,g 9,g 10,g 11,g 12,g 13,g 14,g 15,g 16,g 17,g 18,g 19,g 20,g 21,g 22,g 23,g 24,g 25,g 26,g 27,g 28,g 29,g 30,g 31,g 32,g 33,g 34,g 35,g 36,g 37,g 38,g 39,g 40,g 41,g 42,g 43,g 44,g 45,g 46,g 47,g 48,g 49,g 50,g 51,g 52,g 53,g 54,g 55,g 56,g 57,g 58,g 59,g 60,g 61,g 62,g 63,g 64,g 65,g 66,g 67,g 68,g 69,g 70,g 71,g 72,g 73,g 74,g 75,g 76,g 77,g 78,g 79,g 80,g 81,g 82,g 83,g 84,g 85,g 86,g 87,g 88,g 89,g 90,g 91,g 92,g 93,g 94,g 95,g 96,g 97,g 98,g 99,g 100,g 101,g 102,g 103,g 104,g 105,g 106,g 107,g 108,g 109,g 110,g 111,g 112,g 113,g 114,g 115,g 116,g 117,g 118,g 119,g 120,g 121,g 122,g 123,g 124,g 125,g 126,g 127,g 128,g 129,g 130,g 131,g 132,g 133,g 134,g 135,g 136,g 137,g 138,g 139,g 140,g 141,g 142,g 143,g 144,g 145,g 146],[]⟩ U:=by
    intro g U hW;apply A1;clear A1;have S:=zaa hW;clear hW;go_wp2;go_ret;exact⟨rfl,by rw[s.o];exact S.o⟩
   have A5:=zaa A3;clear A3 A1;refine(show∀A0:Act,A0=_→Code.wp prog _ _ A0 _ from fun A0 hA0=>?_) _ rfl;have I:A0.tmps.size=147:=by rw[hA0];rfl
   have C7:A0.defers=[]:=by rw[hA0]
   have v0:A0.eval (.tmp 0)=.pointer (some ⟨K,0,none⟩):=by rw[hA0];rfl
   have v6:A0.eval (.tmp 6)=.pointer (some ⟨w.heap.size,0,none⟩):=by rw[hA0];rfl
   clear hA0;refine zbb 6 (fun w'=>Below C.heap.size C w') [50,51,52,53,54,55] (z3u K w.heap.size Mn x) (by kernel_rfl) (by kernel_rfl) (by kernel_rfl) (by kernel_rfl) (by decide) ((Below.refl _ _).drew) ⟨?_,?_,?_,?_,?_,?_,trivial⟩ ?_
   ·exact zbd v0 I (fun _=>rfl) fun ρ w' E z=>by simp only[execOp];go_simp
   ·exact zal 0 50 I (fun _ _ h=>h) (fun _=>rfl) fun ρ w' E p=>by simp only[execOp];go_simp
   ·exact zal 1 51 I (fun _ _ h=>h) (fun _=>rfl) fun ρ w' E p=>by simp only[execOp];go_simp
   ·exact zal 2 52 I (fun _ _ h=>h) (fun _=>rfl) fun ρ w' E p=>by have c0:w'.cell? ⟨K,0,none⟩=some (.map (some Mn)):=zac E B5 C0.o;simp only[execOp];go_simp
   ·exact zbd v6 I (fun _=>rfl) fun ρ w' E z=>by simp only[execOp];go_simp
   ·exact zal 4 54 I (fun _ _ h=>h) (fun _=>rfl) fun ρ w' E p=>by have c0:w'.cell? ⟨w.heap.size,2,none⟩=some (.int .i64 x.b):=zac E C9 D5.o;simp only[execOp];go_simp
   ·intro O W hF E hp;have p53:O.eval (.tmp 53)=.map (some Mn):=hp 3 (by decide);have p55:O.eval (.tmp 55)=.int .i64 x.b:=hp 5 (by decide);have C3:O.tmps.size=147:=hF.size.trans I;have A2:=D.o.below E;obtain⟨U,B7,B2,B4⟩:=A2.now.drop underlying56 x.b B9 0;show wpOps prog _ _ [6] O W;rw[wpOps_cons];refine zfk (.tuple #[]) rfl rfl (w':=U) (by revert p53 p55;generalize O.eval=ρ;intro p53 p55;simp only[execOp];go_simp) ?_;show KK O U;have B0:O=⟨#[_,_,_,_,_,_,_,_,_,_,_,_,_,_,_,_,_,_,_,_,_,_,_,_,_,_,_,_,_,_,_,_,_,_,_,_,_,_,_,_,_,_,_,_,_,_,_,_,_,_,_,_,_,_,_,_,_,_,_,_,_,_,_,_,_,_,_,_,_,_,_,_,_,_,_,_,_,_,_,_,_,_,_,_,_,_,_,_,_,_,_,_,_,_,_,_,_,_,_,_,_,_,_,_,_,_,_,_,_,_,_,_,_,_,_,_,_,_,_,_,_,_,_,_,_,_,_,_,_,_,_,_,_,_,_,_,_,_,_,_,_,_,_,_,_,_,_],[]⟩:=zb9 O 147 C3 (hF.defers.trans C7);exact(congrArg (fun y=>KK y _) B0).mpr (A5.o (fun k=>O.eval (.tmp k)) U (SeePost.turn A2 (N.o.below E) (F.o.trans (Y:=[]) (ButL.of_below E) F.o.size (by simp)) (B2.mono (Nat.le_succ _)) B4 hsn (z41 _ _)))
  by_cases k6':x.kind=6
  ·rw[k6']at z0;have hE:zhj k x r j.last j.down={k with states:=atK k.states r.n k.now,sealed:=r.n,down:=j.down}:=by rw[zhj,if_pos HC.o,if_neg k2',if_neg k4',if_pos k6']
   have B9:(Lit.int .i64 r.n).wf=true:=by have:=B1.o HC.o k6';exact wfI (by omega) (by omega)
   have s:=zaa hE;clear hE k2' k4' k6' A7 B1 B3 A9;obtain⟨C,A⟩:∃C,C=((c.setCell ⟨K,4,none⟩ (.bool j.down)).setCell ⟨K,2,none⟩ (.int .i64 r.n)).alloc (.cells #[.int .i64 j.rh,.int .i64 j.ru] 26):=⟨_,rfl⟩;have D:Hid (BkAt C K Ms {k with sealed:=r.n,down:=j.down} Mn n m fs):=by rw[A];exact((R.o.setDown j.down).setSealed r.n).below (zab _ _)
   have N:Hid (JAt C B X j):=by rw[A];exact((Z.o.set hKX hKB 4 _).set hKX hKB 2 _).below (zab _ _)
   have F:Hid (ButL [K] w.heap.size w C):=by
    rw[A];exact(((ButL.of_below L.o).set (.inl (by simp)) 4 _).set (.inl (by simp)) 2 _).trans (Y:=[]) (ButL.of_below (zab _ _)) (by have:=L.o.size;simpa[World.setCell] using this) (by simp)
   have d:C.heap.size=c.heap.size+1:=by rw[A];simp[World.setCell]
   have J:=zaa A
   have G0:Hid (C.heap[w.heap.size+1]?=some (.cells #[.int .i64 r.code,.int .i64 r.n,.string r.text] 31 (0,0))):=by
    rw[A];exact zad (zab _ _) (by simpa[World.setCell] using q1) ((Below.heap_setCell _ _ _ _ e3).trans ((Below.heap_setCell _ _ _ _ e3).trans A8.o))
   clear A;have C0:Hid (C.cell? ⟨K,0,none⟩=some (.map (some Mn))):=(cell_of_row C _ 0 _ _ _ D.o.box).trans rfl;have C1:Hid (C.cell? ⟨K,1,none⟩=some (.map (some Ms))):=(cell_of_row C _ 1 _ _ _ D.o.box).trans rfl;obtain⟨⟨a0,a1,a2⟩,_⟩:=zbl G0.o;have G8:=zaa a1;have B5:K<C.heap.size:=by omega
   have G2:w.heap.size+1<C.heap.size:=by omega
   clear a0 a1 a2;go_wp2_with fail;rw[←J.o];clear J;rename_i KK A1
   have A3:∀(g:Nat→Value) (U:World),SeePost B X j K Ms {k with states:=atK k.states r.n k.now,sealed:=r.n,down:=j.down} Mn n m fs w U→KK ⟨#[g 0,g 1,g 2,g 3,g 4,g 5,g 6,g 7,g 8,g 9,g 10,g 11,g 12,g 13,g 14,g 15,g 16,g 17,g 18,g 19,g 20,g 21,g 22,g 23,g 24,g 25,g 26,g 27,g 28,g 29,g 30,g 31,g 32,g 33,g 34,g 35,g 36,g 37,g 38,g 39,g 40,g 41,g 42,g 43,g 44,g 45,g 46,g 47,g 48,g 49,g 50,g 51,g 52,g 53,g 54,g 55,g 56,g 57,g 58,g 59,g 60,g 61,g 62,g 63,g 64,g 65,g 66,g 67,g 68,g 69,g 70,g 71,g 72,g 73,g 74,g 75,g 76,g 77,g 78,g 79,g 80,g 81,g 82,g 83,g 84,g 85,g 86,g 87,g 88,g 89,g 90,g 91,g 92,g 93,g 94,g 95,g 96,g 97,g 98,g 99,g 100,g 101,g 102,g 103,g 104,g 105,g 106,g 107,g 108,g 109,g 110,g 111,g 112,g 113,g 114,g 115,g 116,g 117,g 118,g 119,g 120,g 121,g 122,g 123,g 124,g 125,g 126,g 127,g 128,g 129,g 130,g 131,g 132,g 133,g 134,g 135,g 136,g 137,g 138,g 139,g 140,g 141,g 142,g 143,g 144,g 145,g 146],[]⟩ U:=by
    intro g U hW;apply A1;clear A1;have S:=zaa hW;clear hW;go_wp2;go_ret;exact⟨rfl,by rw[s.o];exact S.o⟩
   have A5:=zaa A3;clear A3 A1;refine(show∀A0:Act,A0=_→Code.wp prog _ _ A0 _ from fun A0 hA0=>?_) _ rfl;have I:A0.tmps.size=147:=by rw[hA0];rfl
   have C7:A0.defers=[]:=by rw[hA0]
   have v0:A0.eval (.tmp 0)=.pointer (some ⟨K,0,none⟩):=by rw[hA0];rfl
   have v7:A0.eval (.tmp 7)=.pointer (some ⟨w.heap.size+1,0,none⟩):=by rw[hA0];rfl
   clear hA0;refine zbb 11 (fun w'=>Below C.heap.size C w') [63,64,65,66,67,68,69,70,71,72,73] (zlk K (w.heap.size+1) Mn Ms r n k C) (by kernel_rfl) (by kernel_rfl) (by kernel_rfl) (by kernel_rfl) (by decide) ((Below.refl _ _).drew) ⟨?_,?_,?_,?_,?_,?_,?_,?_,?_,?_,?_,trivial⟩ ?_
   ·exact zbd v0 I (fun _=>rfl) fun ρ w' E z=>by simp only[execOp];go_simp
   ·exact zal 0 63 I (fun _ _ h=>h) (fun _=>rfl) fun ρ w' E p=>by simp only[execOp];go_simp
   ·exact zal 1 64 I (fun _ _ h=>h) (fun _=>rfl) fun ρ w' E p=>by simp only[execOp];go_simp
   ·exact zal 2 65 I (fun _ _ h=>h) (fun _=>rfl) fun ρ w' E p=>by have c0:w'.cell? ⟨K,1,none⟩=some (.map (some Ms)):=zac E B5 C1.o;simp only[execOp];go_simp
   ·exact zbd v7 I (fun _=>rfl) fun ρ w' E z=>by simp only[execOp];go_simp
   ·exact zal 4 67 I (fun _ _ h=>h) (fun _=>rfl) fun ρ w' E p=>by have c0:w'.cell? ⟨w.heap.size+1,1,none⟩=some (.int .i64 r.n):=zac E G2 G8.o;simp only[execOp];go_simp
   ·exact zbd v0 I (fun _=>rfl) fun ρ w' E z=>by simp only[execOp];go_simp
   ·exact zal 6 69 I (fun _ _ h=>h) (fun _=>rfl) fun ρ w' E p=>by simp only[execOp];go_simp
   ·exact zal 7 70 I (fun _ _ h=>h) (fun _=>rfl) fun ρ w' E p=>by simp only[execOp];go_simp
   ·exact zal 8 71 I (fun _ _ h=>h) (fun _=>rfl) fun ρ w' E p=>by have c0:w'.cell? ⟨K,0,none⟩=some (.map (some Mn)):=zac E B5 C0.o;simp only[execOp];go_simp
   ·intro a w' hF E hp;have p72:a.eval (.tmp 72)=.map (some Mn):=hp ⟨9,.data⟩ (by simp) rfl;refine zbo 53 #[.map (some Mn)] rfl rfl (by have pf:=Act.eval_func a 53;revert p72 pf;generalize a.eval=ρ;intro p72 pf;simp only[execOp];go_simp) _ (zna Mn n k.now w' (D.o.below E).now hnn) ?_;rintro e w2 ⟨M3,rfl,B2,F6,C4⟩;refine⟨_,rfl,_,rfl,zae E C4,?_,zm8 C4⟩;show zlk _ _ _ _ _ _ _ _ _ ((a.put (some 73) _).eval (.tmp 73)) w2;rw[zaq hF I (by decide)];exact⟨M3,rfl,B2,Nat.le_trans E.size F6⟩
   ·intro O W hF E hp;have p66:O.eval (.tmp 66)=.map (some Ms):=hp 3 (by decide);have p68:O.eval (.tmp 68)=.int .i64 r.n:=hp 5 (by decide);obtain⟨M',p73,F9,I1⟩:=hp 10 (by decide);have p73:O.eval (.tmp 73)=.map (some M'):=p73;have C3:O.tmps.size=147:=hF.size.trans I;have A2:=D.o.below E;obtain⟨U,B7,B2,B4⟩:=A2.sts.store underlying57 r.n M' B9 hmm;have E1:(Instr.mapUpdate 57 (.map (some Ms)) (.int .i64 r.n) (.map (some M'))).run prog W=.ok () U:=B7;show wpOps prog _ _ [11] O W;rw[wpOps_cons];refine zce rfl rfl (w':=U) (by revert p66 p68 p73;generalize O.eval=ρ;intro p66 p68 p73;simp only[execOp];go_simp) ?_;show KK O U;have B0:O=⟨#[_,_,_,_,_,_,_,_,_,_,_,_,_,_,_,_,_,_,_,_,_,_,_,_,_,_,_,_,_,_,_,_,_,_,_,_,_,_,_,_,_,_,_,_,_,_,_,_,_,_,_,_,_,_,_,_,_,_,_,_,_,_,_,_,_,_,_,_,_,_,_,_,_,_,_,_,_,_,_,_,_,_,_,_,_,_,_,_,_,_,_,_,_,_,_,_,_,_,_,_,_,_,_,_,_,_,_,_,_,_,_,_,_,_,_,_,_,_,_,_,_,_,_,_,_,_,_,_,_,_,_,_,_,_,_,_,_,_,_,_,_,_,_,_,_,_,_],[]⟩:=zb9 O 147 C3 (hF.defers.trans C7);have I2:=D.o.now.lt;have J2:=D.o.sts.lt;have F2:=F.o.trans (Y:=[]) (ButL.of_below E) F.o.size (by simp)
    exact(congrArg (fun y=>KK y _) B0).mpr (A5.o (fun k=>O.eval (.tmp k)) U ⟨Mn,n,m+1,_,A2.turnSts B2 B4 F9 hsn (by omega) (by omega) hfm,Nat.le_succ _,Nat.le_refl _,.inl rfl,(fun q M hq=>by
     by_cases e:q=r.n
     ·rw[if_pos e]at hq;cases hq;have:=F.o.size;right;omega
     ·rw[if_neg e]at hq
      exact .inl hq),(N.o.below E).turned B4,(F2.wider (by simp)).trans (zd0 B4 (X:=[K,Mn,Ms]) (by simp) W.heap.size) F2.size (by simp)⟩)
  by_cases k8':x.kind=8
  ·rw[k8']at z0;have e8:zhj k x r j.last j.down=if k.down=true∧j.down=false then{k with now:=(k.states j.last).getD fun _=>none,sealed:=j.last,told:=j.last,down:=j.down} else if 0<r.n then{k with told:=r.n,down:=j.down} else{k with down:=j.down}:=by rw[zhj,if_pos HC.o,if_neg k2',if_neg k4',if_neg k6',if_pos k8']
   have E8:=zaa e8;have D7:=zaa (B3.o HC.o k8');clear e8 k2' k4' k6' k8' A7 B1 B3;by_cases hb:k.down=true∧j.down=false
   ·obtain⟨hkd,l⟩:=hb;obtain⟨G1,st,C2,J1,I6,F0⟩:=D7.o hkd l;have hrn:¬0<r.n:=by omega
    obtain⟨M,D4⟩:∃M,fs j.last=some M:=by
     cases hx:fs j.last with
     |none=>rw[A9.o _ hx]at C2;cases C2
     |some M=>exact⟨M,rfl⟩
    have F8:(Lit.int .i64 j.last).wf=true:=wfI (by omega) (by omega);have s:=zaa (E8.o.trans (if_pos ⟨hkd,l⟩));rw[hkd]at k4;rw[l];have B8:=zaa l;clear hkd l G1 D7 A9;obtain⟨C,A⟩:∃C,C=(c.setCell ⟨K,4,none⟩ (.bool false)).alloc (.cells #[.int .i64 j.rh,.int .i64 j.ru] 26):=⟨_,rfl⟩;have D:Hid (BkAt C K Ms {k with down:=false} Mn n m fs):=by rw[A];exact(R.o.setDown false).below (zab _ _)
    have N:Hid (JAt C B X j):=by rw[A];exact(Z.o.set hKX hKB 4 _).below (zab _ _)
    have F:Hid (ButL [K] w.heap.size w C):=by
     rw[A];exact((ButL.of_below L.o).set (.inl (by simp)) 4 _).trans (Y:=[]) (ButL.of_below (zab _ _)) (by have:=L.o.size;simpa[World.setCell] using this) (by simp)
    have d:C.heap.size=c.heap.size+1:=by rw[A];simp[World.setCell]
    have J:=zaa A;clear A;have G6:=D.o.some j.last M D4;obtain⟨J0,C6,D9,F1⟩:=G6
    have G9:C6=st:=by
     have:k.states j.last=some C6:=D9;rw[C2]at this
     injection this with e
     exact e.symm
    subst G9;have D2:=zaa F1;have G4:=zaa C2;clear F1 C2 D9;have C5:=MapM.lookSome D.o.sts j.last F8 D4;rw[J.o]at C5;have F3:=zaa F0;have nt:¬j.last<k.told:=by omega
    have ns:¬k.sealed<j.last:=by omega
    have J3:=zaa D4;clear F0 D4;go_wp2_with fail;rw[←J.o];clear J C5
    go_loopw [15] (fun i wr=>∃q:Nat,q≤12∧i=.int .i64 q∧Hid (Below C.heap.size C wr)) (fun i _=>12 - (intOf i).toNat)
    case atStart=>exact⟨0,Nat.zero_le _,by go_num,Below.refl _ _⟩
    case round=>
     obtain⟨q,hq,rfl,A4⟩:=hrel;by_cases hq12:q<12
     ·have E0:(q:Int)<12:=by omega
      have E3:(Lit.int .i64 (q:Int)).wf=true:=wfI (by omega) (by omega)
      cases hf:C6 q with
      |none=>
       have C5:=MapS.lookNone (D2.o.below A4.o) q E3 hf;clear hf;go_wp2
       go_roundw
       case rel=>exact⟨q+1,by omega,by go_num,A4⟩
       case measure=>first|(simp[intOf];omega)|simp[intOf]
      |some u=>
       have C5:=MapS.lookSome (D2.o.below A4.o) q E3 hf;have hr:=F3.o q hq12 u hf;have G7:=zaa hr;clear hf hr;go_wp2_with fail;refine(z1l B X j q wr (N.o.below A4.o) hq12 h16 h24).mono ?_;rintro e w4 ⟨rfl,E5⟩;rw[G7.o];have G5:=zaa (zae A4.o E5);clear E5 A4 C5;go_wp2
       go_roundw
       case rel=>exact⟨q+1,by omega,by go_num,G5⟩
       case measure=>first|(simp[intOf];omega)|simp[intOf]
     ·have E0:¬(q:Int)<12:=by omega
      clear F3;go_wp2_with fail;refine(zna M n C6 wr (D2.o.below A4.o) hnn).mono ?_;rintro e w5 ⟨M5,rfl,E4,F5,E7⟩;have D1:=zaa (zae A4.o E7);have D3:=zaa (D.o.below D1.o);have G3:C.heap.size≤wr.heap.size:=A4.o.size
      have S:Hid (SeePost B X j K Ms {k with now:=C6,sealed:=j.last,told:=j.last,down:=false} Mn n m fs w (((w5.setCell ⟨K,0,none⟩ (.map (some M5))).setCell ⟨K,3,none⟩ (.int .i64 j.last)).setCell ⟨K,2,none⟩ (.int .i64 j.last))):=by
       have hq:=(((D3.o.setNow E4 (fun x Q hx=>by
        obtain⟨_,_,_,hQ⟩:=D.o.some x Q hx;have:=hQ.lt
        omega)).setTold j.last).setSealed j.last)
       refine⟨M5,n,m,fs,hq,Nat.le_succ _,Nat.le_succ _,.inr ?_,fun _ _ h=>.inl h,(((N.o.below D1.o).set hKX hKB 0 _).set hKX hKB 3 _).set hKX hKB 2 _,?_⟩
       ·have:=F.o.size;omega
       ·exact((((F.o.trans (Y:=[]) (ButL.of_below D1.o) F.o.size (by simp)).wider (Y:=[K,Mn,Ms]) (by simp)).set (.inl (by simp)) 0 _).set (.inl (by simp)) 3 _).set (.inl (by simp)) 2 _
      have q5:K<w5.heap.size:=D3.o.lt;obtain⟨⟨c0,c1,c2,c3,c4⟩,H3,H7,I9,H5,H4⟩:=zhn D3.o.box;clear E4 F5 E7 A4 D3 D1 D2 G3;go_wp2;go_ret;exact⟨rfl,by rw[s.o,G4.o,B8.o];exact S.o⟩
   ·have E9:=zaa (E8.o.trans (if_neg hb))
    have F4:k.down=false∨j.down=true:=by
     cases hk:k.down with
     |false=>exact .inl rfl
     |true=>cases hj:j.down with
      |true=>exact .inr rfl
      |false=>exact absurd ⟨hk,hj⟩ hb
    clear hb D7 A9;by_cases hrn:0<r.n
    ·have s:=zaa (E9.o.trans (if_pos hrn));rcases F4 with hkd|l
     ·rw[hkd]at k4;clear hkd;obtain⟨C,A⟩:∃C,C=((c.setCell ⟨K,4,none⟩ (.bool j.down)).setCell ⟨K,3,none⟩ (.int .i64 r.n)).alloc (.cells #[.int .i64 j.rh,.int .i64 j.ru] 26):=⟨_,rfl⟩;have D:Hid (BkAt C K Ms {k with told:=r.n,down:=j.down} Mn n m fs):=by rw[A];exact((R.o.setDown j.down).setTold r.n).below (zab _ _)
      have N:Hid (JAt C B X j):=by rw[A];exact((Z.o.set hKX hKB 4 _).set hKX hKB 3 _).below (zab _ _)
      have F:Hid (ButL [K] w.heap.size w C):=by
       rw[A];exact(((ButL.of_below L.o).set (.inl (by simp)) 4 _).set (.inl (by simp)) 3 _).trans (Y:=[]) (ButL.of_below (zab _ _)) (by have:=L.o.size;simpa[World.setCell] using this) (by simp)
      have d:C.heap.size=c.heap.size+1:=by rw[A];simp[World.setCell]
      have J:=zaa A;clear A;have S:Hid (SeePost B X j K Ms {k with told:=r.n,down:=j.down} Mn n m fs w C):=SeePost.keep D.o N.o F.o;rw[J.o]at S;clear J D N F R Z L A6 A8 d;go_wp2;go_ret;exact⟨rfl,by rw[s.o];exact S.o⟩
     ·rw[l];have B8:=zaa l;clear l;cases hkd:k.down<;>rw[hkd]at k4<;>clear hkd
      all_goals
       obtain⟨C,A⟩:∃C,C=((c.setCell ⟨K,4,none⟩ (.bool true)).setCell ⟨K,3,none⟩ (.int .i64 r.n)).alloc (.cells #[.int .i64 j.rh,.int .i64 j.ru] 26):=⟨_,rfl⟩;have D:Hid (BkAt C K Ms {k with told:=r.n,down:=true} Mn n m fs):=by rw[A];exact((R.o.setDown true).setTold r.n).below (zab _ _)
       have N:Hid (JAt C B X j):=by rw[A];exact((Z.o.set hKX hKB 4 _).set hKX hKB 3 _).below (zab _ _)
       have F:Hid (ButL [K] w.heap.size w C):=by
        rw[A];exact(((ButL.of_below L.o).set (.inl (by simp)) 4 _).set (.inl (by simp)) 3 _).trans (Y:=[]) (ButL.of_below (zab _ _)) (by have:=L.o.size;simpa[World.setCell] using this) (by simp)
       have d:C.heap.size=c.heap.size+1:=by rw[A];simp[World.setCell]
       have J:=zaa A;clear A;have S:Hid (SeePost B X j K Ms {k with told:=r.n,down:=true} Mn n m fs w C):=SeePost.keep D.o N.o F.o;rw[J.o]at S;clear J D N F R Z L A6 A8 d;go_wp2;go_ret;exact⟨rfl,by rw[s.o,B8.o];exact S.o⟩
    ·have s:=zaa (E9.o.trans (if_neg hrn));rcases F4 with hkd|l
     ·rw[hkd]at k4;clear hkd;obtain⟨C,A⟩:∃C,C=(c.setCell ⟨K,4,none⟩ (.bool j.down)).alloc (.cells #[.int .i64 j.rh,.int .i64 j.ru] 26):=⟨_,rfl⟩;have D:Hid (BkAt C K Ms {k with down:=j.down} Mn n m fs):=by rw[A];exact(R.o.setDown j.down).below (zab _ _)
      have N:Hid (JAt C B X j):=by rw[A];exact(Z.o.set hKX hKB 4 _).below (zab _ _)
      have F:Hid (ButL [K] w.heap.size w C):=by
       rw[A];exact((ButL.of_below L.o).set (.inl (by simp)) 4 _).trans (Y:=[]) (ButL.of_below (zab _ _)) (by have:=L.o.size;simpa[World.setCell] using this) (by simp)
      have d:C.heap.size=c.heap.size+1:=by rw[A];simp[World.setCell]
      have J:=zaa A;clear A;have S:Hid (SeePost B X j K Ms {k with down:=j.down} Mn n m fs w C):=SeePost.keep D.o N.o F.o;rw[J.o]at S;clear J D N F R Z L A6 A8 d;go_wp2;go_ret;exact⟨rfl,by rw[s.o];exact S.o⟩
     ·rw[l];have B8:=zaa l;clear l;cases hkd:k.down<;>rw[hkd]at k4<;>clear hkd
      all_goals
       obtain⟨C,A⟩:∃C,C=(c.setCell ⟨K,4,none⟩ (.bool true)).alloc (.cells #[.int .i64 j.rh,.int .i64 j.ru] 26):=⟨_,rfl⟩;have D:Hid (BkAt C K Ms {k with down:=true} Mn n m fs):=by rw[A];exact(R.o.setDown true).below (zab _ _)
       have N:Hid (JAt C B X j):=by rw[A];exact(Z.o.set hKX hKB 4 _).below (zab _ _)
       have F:Hid (ButL [K] w.heap.size w C):=by
        rw[A];exact((ButL.of_below L.o).set (.inl (by simp)) 4 _).trans (Y:=[]) (ButL.of_below (zab _ _)) (by have:=L.o.size;simpa[World.setCell] using this) (by simp)
       have d:C.heap.size=c.heap.size+1:=by rw[A];simp[World.setCell]
       have J:=zaa A;clear A;have S:Hid (SeePost B X j K Ms {k with down:=true} Mn n m fs w C):=SeePost.keep D.o N.o F.o;rw[J.o]at S;clear J D N F R Z L A6 A8 d;go_wp2;go_ret;exact⟨rfl,by rw[s.o,B8.o];exact S.o⟩
  ·have b2:(x.kind==2)=false:=by simpa using k2'
   have b4:(x.kind==4)=false:=by simpa using k4'
   have b6:(x.kind==6)=false:=by simpa using k6'
   have b8:(x.kind==8)=false:=by simpa using k8'
   have hE:zhj k x r j.last j.down={k with down:=j.down}:=by rw[zhj,if_pos HC.o,if_neg k2',if_neg k4',if_neg k6',if_neg k8']
   have s:=zaa hE;clear hE k2' k4' k6' k8' A7 B1 B3 A9;obtain⟨C,A⟩:∃C,C=(c.setCell ⟨K,4,none⟩ (.bool j.down)).alloc (.cells #[.int .i64 j.rh,.int .i64 j.ru] 26):=⟨_,rfl⟩;have D:Hid (BkAt C K Ms {k with down:=j.down} Mn n m fs):=by rw[A];exact(R.o.setDown j.down).below (zab _ _)
   have N:Hid (JAt C B X j):=by rw[A];exact(Z.o.set hKX hKB 4 _).below (zab _ _)
   have F:Hid (ButL [K] w.heap.size w C):=by
    rw[A];exact((ButL.of_below L.o).set (.inl (by simp)) 4 _).trans (Y:=[]) (ButL.of_below (zab _ _)) (by have:=L.o.size;simpa[World.setCell] using this) (by simp)
   have d:C.heap.size=c.heap.size+1:=by rw[A];simp[World.setCell]
   have J:=zaa A;clear A;have S:Hid (SeePost B X j K Ms {k with down:=j.down} Mn n m fs w C):=SeePost.keep D.o N.o F.o;rw[J.o]at S;clear J D N F R Z L A6 A8 d;go_wp2;go_ret;exact⟨rfl,by rw[s.o];exact S.o⟩
 ·have H6:(r.code !=0)=true:=by simpa using hc
  have hE:zhj k x r j.last j.down={k with down:=j.down}:=by rw[zhj,if_neg hc]
  have s:=zaa hE;clear hE hc A7 B1 B3 A9;obtain⟨C,A⟩:∃C,C=(c.setCell ⟨K,4,none⟩ (.bool j.down)).alloc (.cells #[.int .i64 j.rh,.int .i64 j.ru] 26):=⟨_,rfl⟩;have D:Hid (BkAt C K Ms {k with down:=j.down} Mn n m fs):=by rw[A];exact(R.o.setDown j.down).below (zab _ _)
  have N:Hid (JAt C B X j):=by rw[A];exact(Z.o.set hKX hKB 4 _).below (zab _ _)
  have F:Hid (ButL [K] w.heap.size w C):=by
   rw[A];exact((ButL.of_below L.o).set (.inl (by simp)) 4 _).trans (Y:=[]) (ButL.of_below (zab _ _)) (by have:=L.o.size;simpa[World.setCell] using this) (by simp)
  have d:C.heap.size=c.heap.size+1:=by rw[A];simp[World.setCell]
  have J:=zaa A;clear A;have S:Hid (SeePost B X j K Ms {k with down:=j.down} Mn n m fs w C):=SeePost.keep D.o N.o F.o;rw[J.o]at S;clear J D N F R Z L A6 A8 d;go_wp2;go_ret;exact⟨rfl,by rw[s.o];exact S.o⟩
def bk0:Bk:=⟨fun _=>none,fun z=>if z=0 then some (fun _=>none) else none,0,0,false⟩
theorem BkI.new:BkI zya z1c bk0:=by
 refine⟨z36,by decide,by decide,rfl,rfl,fun _=>⟨⟨_,rfl,fun b _ s hs=>by cases hs⟩,fun _=>rfl,fun hq=>?_,fun b _=>⟨RB.new rfl rfl rfl (by exact(by decide:(0:Int)≠2)),fun s hs=>by cases hs⟩⟩,fun hd=>by cases hd⟩;have:(0:Int)=0+1:=hq;omega
def kOf (l:List Ac):Nat→Bk
 |0=>bk0
 |k+1=>zhj (kOf l k) (l.getD k ac0) (rOf l k) (jOf l (k+1)).last (jOf l (k+1)).down
theorem z6u(l:List Ac)(k:Nat)(hk:k≤l.length):∃D,BkI (jOf l k) D (kOf l k):=by
 induction k with
 |zero=>rw[zps];exact⟨z1c,BkI.new⟩
 |succ k ih=>
  obtain⟨D,h⟩:=ih (by omega);have:=(h.do (l.getD k ac0)).1;rw[kOf,zlj (by omega)];exact this
theorem zsb{j:Jn}(h:PJ j)(a:Ac)(hc:(doJ j a).2.code=0)(hk:a.kind=2∨a.kind=4):0≤a.b∧a.b≤11:=by
 obtain⟨D,C,B,E⟩:=h;obtain⟨D',_,_,_,e⟩:=z4y C a B E
 cases e with
 |calm a1 a2 a3 a4 a5 a6=>
  obtain⟨A,n3,n4,_⟩:=a4 hc;rcases hk with h|h
  ·exact absurd h A
  ·exact absurd h n4
 |write b hb hab=>omega
 |fill b hb hab=>omega
 |revoke b hb hab=>omega
 |commit k=>omega
 |through k=>omega
 |home k=>omega
 |on k=>omega
 |crash k=>omega
theorem z1p{j:Jn}(h:PJ j)(a:Ac)(hc:(doJ j a).2.code=0)(hk:a.kind=6):(doJ j a).2.n=j.last+1:=by
 obtain⟨D,B,A,C⟩:=h;obtain⟨D',_,_,_,e⟩:=z4y B a A C
 cases e with
 |calm a1 a2 a3 a4 a5 a6=>exact absurd hk (a4 hc).2.2.2.1
 |write b hb hab k=>omega
 |fill b hb hab k=>omega
 |revoke b hb hab k=>omega
 |commit k hu hu' hc hn=>exact hn
 |through k=>omega
 |home k=>omega
 |on k=>omega
 |crash k=>omega
theorem PJ.lastB{j:Jn}(h:PJ j):0≤j.last∧j.last≤402:=by
 obtain⟨D,A,h2,h3⟩:=h;refine⟨A.last0,?_⟩
 cases A with
 |idle p hs hz hD ht hq=>have:=p.seq;omega
 |commit P U k p hw hk hs hD ht he hse hrh hru hq hN=>have:=p.seq;omega
 |check k p hw hz hk hs hD ht hq=>have:=p.seq;omega
 |off l N P U p hs hf hD ht=>have:=p.lo;have:=p.seq;omega
 |back U k p hw hk hs hD ht=>have:=p.lo;have:=p.seq;omega
theorem PJ.diskB{j:Jn}(h:PJ j):j.disk.safe.length*16≤140737488355328∧j.disk.wr.length*24≤140737488355328:=by
 obtain⟨D,A,_,_⟩:=h;have hg:=zhs A.disk;exact⟨by omega,by omega⟩
structure BkS (W:World)(K Ms M0 b0 B:Nat)(k:Bk)(i:Nat)(Mn n m:Nat)(fs:Int→Option Nat):Prop where
 at_:BkAt W K Ms k Mn n m fs
 hn:n≤i
 hm:m≤i+1
 old:Mn=M0∨b0≤Mn
 nB:Mn≠B
 nS:Ms≠Mn
 fsB:∀q M,fs q=some M→M≠B∧M≠Ms
theorem zul(w:World):
  Calls prog 20 #[] w fun e w'=>e=.returned (.pointer (some ⟨w.heap.size+3,0,none⟩))∧BkAt w' (w.heap.size+3) (w.heap.size+1) bk0 w.heap.size 0 1 (fun z=>if z=0 then some (w.heap.size+2) else none)∧w'.heap.size=w.heap.size+4∧Below w.heap.size w w':=by
 have A1:=fun w:World=>run_makeMap (P:=prog) 56 w;have A0:=fun w:World=>run_makeMap (P:=prog) 57 w;obtain⟨C,B⟩:∃C,C=((w.alloc (.map #[] 0)).alloc (.map #[] 0)).alloc (.map #[] 0):=⟨_,rfl⟩;have a:(w.alloc (.map #[] 0)).heap.size=w.heap.size+1:=by simp
 have U:((w.alloc (.map #[] 0)).alloc (.map #[] 0)).heap.size=w.heap.size+2:=by simp
 have Z:C.heap.size=w.heap.size+3:=by rw[B];simp
 have O:Below w.heap.size w C:=by rw[B];exact zae (zae (zab _ _) (zab _ _)) (zab _ _)
 have b:MapF zkb C w.heap.size 0 (fun _=>none):=by
  rw[B];have h:=MapF.made (E:=zkb) w;exact(h.below (zab _ _)).below (zab _ _)
 have Y:MapF z5b C (w.heap.size+1) 0 (fun _=>none):=by
  rw[B];have h:=MapF.made (E:=z5b) (w.alloc (.map #[] 0));rw[a]at h;exact h.below (zab _ _)
 have R:MapF zkb C (w.heap.size+2) 0 (fun _=>none):=by
  rw[B];have h:=MapF.made (E:=zkb) ((w.alloc (.map #[] 0)).alloc (.map #[] 0));rw[U]at h;exact h
 obtain⟨J,I,N,F⟩:=Y.store underlying57 0 (w.heap.size+2) (by decide) (by decide);have L:(Instr.mapUpdate 57 (.map (some (w.heap.size+1))) (.int .i64 0) (.map (some (w.heap.size+2)))).run prog C=.ok () J:=I;have A:=zd0 F (X:=[w.heap.size+1]) (by simp) C.heap.size
 have K:J.heap.size=w.heap.size+3:=by
  have h1:=F.grown.size;obtain⟨_,_,_,_,_,c⟩:=F;rw[c,←Z];simp[ChangeMaps.setBlock]
 have d:Hid (∀W,W=J.alloc (.cells #[.map (some w.heap.size),.map (some (w.heap.size+1)),.int .i64 0,.int .i64 0,.bool false] 59)→BkAt W (w.heap.size+3) (w.heap.size+1) bk0 w.heap.size 0 1 (fun z=>if z=0 then some (w.heap.size+2) else none)∧W.heap.size=w.heap.size+4∧Below w.heap.size w W):=by
  intro W Q;have D:Below J.heap.size J W:=by rw[Q];exact zab _ _
  refine⟨⟨?_,(b.but A (by simp)).below D,N.below D,fun x hx=>?_,fun x M hx=>?_⟩,by rw[Q];simp[K],?_⟩
  ·rw[Q,←K];exact heap_alloc_new _ _
  ·show(if x=0 then some (fun _=>none) else none)=none;by_cases e:x=0
   ·rw[if_pos e]at hx;cases hx
   ·rw[if_neg e]
  ·by_cases e:x=0
   ·rw[if_pos e]at hx;cases hx;refine⟨by omega,fun _=>none,?_,(R.but A (by simp)).below D⟩;show(if x=0 then some (fun _=>none) else none)=_;rw[if_pos e]
   ·rw[if_neg e]at hx;cases hx
  ·refine zae (O.trans ⟨A.os,A.tape,A.output,A.size,fun q hq=>A.block q (by omega) (by simp;omega)⟩) D
 rw[B]at L;have S:=zaa K;clear I N F A b Y R O B a U Z K;go_enter func20,ntmps20;go_wp2;go_ret;rw[S.o];exact⟨rfl,d.o _ rfl⟩
theorem zx6(K:Nat)(o:Oper)(ρ:Operand→Value)(w:World)(x y z:Value)(ts:Array TypeId)(ho:o.op=Op.call {callee:=.value (.tmp 28),args:=#[.tmp 29,.tmp 33,.tmp 34],argTypes:=ts})(h1:ρ (.tmp 28)=.func (.func 22) #[.pointer (some ⟨K,0,none⟩)] #[])(h2:ρ (.tmp 29)=x)(h3:ρ (.tmp 33)=y)(h4:ρ (.tmp 34)=z):
  (execOp ρ o).run prog w=.ok (.enter 22 #[.pointer (some ⟨K,0,none⟩),x,y,z]) w:=by
 simp only[execOp,ho]
 go_simp
theorem BkS.but{W W':World}{K Ms M0 b0 B:Nat}{k:Bk}{i Mn n m:Nat}{fs:Int→Option Nat}(h:BkS W K Ms M0 b0 B k i Mn n m fs)(hb:ButL [B] W.heap.size W W')(hK:K≠B)(hS:Ms≠B):BkS W' K Ms M0 b0 B k i Mn n m fs:=
 ⟨h.at_.but hb (by simpa using hK) (by simpa using h.nB) (by simpa using hS) (fun x M hx=>by simpa using(h.fsB x M hx).1),h.hn,h.hm,h.old,h.nB,h.nS,h.fsB⟩
theorem zx7(a:Option Addr)(c:Nat)(l:List Ac)(w:World)(K Ms M0:Nat)(fs0:Int→Option Nat)(hA:SegA (zas w [K,M0,Ms]) a l)(hlen:l.length≤maxLen)(hok:∀x∈l,OkA x)(h0:BkAt w K Ms bk0 M0 0 1 fs0)(hS0:Ms≠M0)(hf0:∀q M,fs0 q=some M→M≠Ms):
  Calls prog 21 #[.slice a l.length c,.func (.func 22) #[.pointer (some ⟨K,0,none⟩)] #[]] w fun e w'=>∃B,e=.returned (.tuple #[.pointer (some ⟨B,0,none⟩),.bool true])∧w.heap.size≤B∧(∃Mn n m fs,BkS w' K Ms M0 w.heap.size B (kOf l (played l)) (played l) Mn n m fs)∧JAt w' B [B,K,M0,Ms] (jOf l (played l))∧ButL [K,M0,Ms] w.heap.size w w':=by
 have lK:=h0.lt;have lN:=h0.now.lt;have lS:=h0.sts.lt
 refine z1o _ 22 (fun x y z=>#[.pointer (some ⟨K,0,none⟩),x,y,z]) (zx6 _) a c l w [K,M0,Ms] hA hlen hok (by simp;omega)
  (fun B i W=>∃Mn n m fs,BkS W K Ms M0 w.heap.size B (kOf l i) i Mn n m fs) ?s0 ?sb ?look
 case s0=>
  intro W B O X _;refine⟨M0,0,1,fs0,h0.below X,Nat.le_refl _,Nat.le_refl _,.inl rfl,by omega,hS0,fun q M hq=>⟨?_,hf0 q M hq⟩⟩;obtain⟨_,_,_,Y⟩:=h0.some q M hq;have:=Y.lt;omega
 case sb=>
  rintro i W s B ⟨Mn,n,m,fs,h⟩ O hs hb;exact⟨Mn,n,m,fs,h.but hb (by omega) (by omega)⟩
 case look=>
  rintro k W B R O ⟨Mn,n,m,fs,h⟩ Z hX;have E:k<l.length:=by unfold played at R;omega
  have A0:k<150:=by unfold played at R;omega
  obtain⟨D,b⟩:=z6u l k (by omega);have hd:=(b.do (l.getD k ac0)).2;have L:=zsb (zmr l k) (l.getD k ac0);have Q:=z1p (zmr l k) (l.getD k ac0);have A3:=(zmr l k).lastB;have J:OkA (l.getD k ac0):=hok _ (by rw[List.getD,List.getElem?_eq_getElem E];exact List.getElem_mem E);have A1:=hX B (by simp);have u:=(zmr l (k+1)).lastB;have I:=(zmr l (k+1)).diskB;rw[←zlj E]at hd;have F:=h.hn;have hm:=h.hm;refine(z1n B _ (jOf l (k+1)) (l.getD k ac0) (rOf l k) K Ms (kOf l k) Mn n m fs W Z h.at_ (by simp) (by omega) (by unfold maxLen;omega) (by unfold maxLen;omega) J.text h.nS (fun q M hq=>(h.fsB q M hq).2) L (fun h1 h2=>by have h3:(rOf l k).n=(jOf l k).last+1:=Q h1 h2;omega) u.1 (by omega) I.1 I.2 hd).mono ?_;rintro e s ⟨rfl,S,n',r,N,j,g2,g3,A,p,d,C⟩;have A2:w.heap.size≤W.heap.size:=by omega
  refine⟨rfl,⟨S,n',r,N,j,by omega,by omega,?_,?_,?_,fun q M hq=>?_⟩,d,⟨C.os,C.tape,C.output,C.size,fun q hq F=>C.block q (by omega) ?_⟩,C.size⟩
  ·rcases A with rfl|A
   ·exact h.old
   ·right;omega
  ·rcases A with rfl|A
   ·exact h.nB
   ·omega
  ·rcases A with rfl|A
   ·exact h.nS
   ·omega
  ·rcases p q M hq with g|g
   ·exact h.fsB q M g
   ·exact⟨by omega,by omega⟩
  ·have U:=h.old;simp only[List.mem_cons,List.not_mem_nil,or_false,not_or]at F⊢;refine⟨F.1,?_,F.2.2⟩;rcases U with rfl|U
   ·exact F.2.1
   ·omega
theorem ButL.drew2{X:List Nat}{n:Nat}{w w':World}(h:ButL X n w w'):ButL X n w {w' with drawn:=w'.drawn+1}:=⟨h.os,h.tape,h.output,h.size,h.block⟩
theorem JAt.drew2{w:World}{B:Nat}{X:List Nat}{j:Jn}(h:JAt w B X j):JAt {w with drawn:=w.drawn+1} B X j:=h.below ((Below.refl _ _).drew)
structure AnyR (B:Nat)(X:List Nat)(j j':Jn)(W0:World)(b:Bool)(w:World):Prop where
 but:ButL [B] W0.heap.size W0 w
 old:b=false→JAt w B X j
 new:b=true→JAt w B X j'
def zjp (B:Nat)(K:Nat)(x:Ac)(r:Rp):Nat→Value→World→Prop
 |0,v,_=>v=.pointer (some ⟨K,0,none⟩)
 |1,v,_=>v=.pointer (some ⟨B,0,none⟩)
 |2,v,_=>v=.agg #[.int .i64 x.kind,.int .i64 x.h,.int .i64 x.b,.int .i64 x.n,.string x.text]
 |3,v,_=>v=.pointer (some ⟨B,0,none⟩)
 |4,v,_=>v=.agg #[.int .i64 x.kind,.int .i64 x.h,.int .i64 x.b,.int .i64 x.n,.string x.text]
 |5,v,_=>v=.agg #[.int .i64 r.code,.int .i64 r.n,.string r.text]
 |_,_,_=>True
theorem zx8{B:Nat}{K:Nat}{x:Ac}{r:Rp}{w w':World}:∀kk uu,kk≠5→zjp B K x r kk uu w→zjp B K x r kk uu w':=by
 intro kk uu _ h
 match kk,h with
 |0,h|1,h|2,h|3,h|4,h|5,h=>exact h
 |_+6,_=>exact trivial
structure AnyS (w W:World)(B K Ms M0 b0 KB JB:Nat)(j:Jn)(c:Nat):Prop where
 ja:JAt W B [B,K,M0,Ms] j
 bk:∃k D Mn n m fs,BkI j D k∧BkS W K Ms M0 b0 B k c Mn n m fs
 hK:W.heap[KB]?=some (.cells #[.pointer (some ⟨K,0,none⟩)] 50 (0,0))
 hJ:W.heap[JB]?=some (.cells #[.pointer (some ⟨B,0,none⟩)] 24 (0,0))
 bel:Below w.heap.size w W
 acts:j.acts≤c
theorem zfz(w0:World)(B K Ms M0 b0 KB JB:Nat)(j:Jn)(c:Nat)(x:Ac)(w:World)(h:AnyS w0 w B K Ms M0 b0 KB JB j c)(hc:c≤1000)(hx:OkA x)(l1:w0.heap.size≤K)(l2:w0.heap.size≤M0)(l3:w0.heap.size≤Ms)(l4:w0.heap.size≤B)(n1:K≠B)(n2:Ms≠B)(n3:KB≠B)(n4:JB≠B)(n5:KB≠K)(n6:JB≠K)(hb0:b0≤w.heap.size)(hm0:M0<b0):
  Calls prog 23 #[.agg #[.int .i64 x.kind,.int .i64 x.h,.int .i64 x.b,.int .i64 x.n,.string x.text],.pointer (some ⟨KB,0,none⟩),.pointer (some ⟨JB,0,none⟩)] w fun e w'=>e=.returned (.bool true)∧AnyS w0 w' B K Ms M0 b0 KB JB (doJ j x).1 (c+1)∧w.heap.size≤w'.heap.size:=by
 obtain⟨A5,⟨k,D,Mn,n,m,fs,i,hS⟩,hK,hJ,d,D9⟩:=h;have F3:=(Array.getElem?_eq_some_iff.1 hK).1;have F0:=(Array.getElem?_eq_some_iff.1 hJ).1;have lK:=hS.at_.lt;have lS:=hS.at_.sts.lt;have lN:=hS.at_.now.lt;have lB:=A5.lt;obtain⟨r,hr⟩:∃r,r=(doJ j x).2:=⟨_,rfl⟩;obtain⟨O,Z⟩:∃O,O=(doJ j x).1:=⟨_,rfl⟩;obtain⟨X,hX⟩:∃X,X=[B,K,M0,Ms]:=⟨_,rfl⟩;have hP:PJ j:=⟨D,i.md,i.a0,i.a1⟩;have C0:PJ O:=by rw[Z];exact hP.do x
 have A6:=i.do x;have B5:=zsb hP x;have B2:=z1p hP x;rw[←Z,←hr]at A6;rw[←hr]at B5 B2;rw[←hX]at A5;have F5:Hid (doJ j x=(O,r)):=by rw[Z,hr];rfl
 have HP:=zaa hP.ready;have B9:=zaa hx;have E7:=zaa A6.2;have F4:=zaa B5;have F7:=hP.lastB;have E0:Hid (r.code=0→x.kind=6→0≤r.n∧r.n≤1000):=fun h1 h2=>by have:=B2 h1 h2;omega
 have C7:Hid (0≤O.last∧O.last≤1000):=by have:=C0.lastB;exact⟨this.1,by omega⟩
 have B4:=zaa C0.diskB;have B7:K∈X:=by rw[hX];simp
 have F1:=zaa B7;clear B7
 have A8:∀y∈X,y<w.heap.size:=by
  rw[hX];simp;omega
 obtain⟨I,s⟩:∃I,I=w.alloc (.cells #[.int .i64 x.kind,.int .i64 x.h,.int .i64 x.b,.int .i64 x.n,.string x.text] 23):=⟨_,rfl⟩;have Y:Below w.heap.size w I:=by rw[s];exact zab _ _
 have KA:I.heap[w.heap.size]?=some (.cells #[.int .i64 x.kind,.int .i64 x.h,.int .i64 x.b,.int .i64 x.n,.string x.text] 23 (0,0)):=by rw[s];exact heap_alloc_new _ _
 have F8:I.heap.size=w.heap.size+1:=by rw[s];simp
 have C5:=zaa (zad Y F3 hK);have B0:=zaa (zad Y F0 hJ);have CK:Hid (I.cell? ⟨KB,0,none⟩=some (.pointer (some ⟨K,0,none⟩))):=(cell_of_row I _ 0 _ _ _ C5.o).trans rfl;have CJ:Hid (I.cell? ⟨JB,0,none⟩=some (.pointer (some ⟨B,0,none⟩))):=(cell_of_row I _ 0 _ _ _ B0.o).trans rfl;obtain⟨⟨z0,z1,l,z3,z4⟩,_⟩:=zhn KA;have D4:=zaa z0;have D3:=zaa z1;have C8:=zaa l;have D1:=zaa z3;have C4:=zaa z4;have D8:=zaa (A5.below Y);have E3:Hid (BkS I K Ms M0 b0 B k c Mn n m fs):=hS.but (ButL.of_below Y) n1 n2;have E6:Hid (∀y∈X,y<I.heap.size):=fun y hy=>by have:=A8 y hy;omega
 have B8:KB<I.heap.size:=by omega
 have A1:JB<I.heap.size:=by omega
 have L:w.heap.size<I.heap.size:=by omega
 have B1:KB∉[B]:=by simpa using n3
 have A3:JB∉[B]:=by simpa using n4
 have N:w.heap.size∉[B]:=by simp;omega
 have B3:K≠B:=n1;have D7:Ms≠B:=n2
 have B6:Hid (∀W Q:World,BkS W K Ms M0 b0 B k c Mn n m fs→ButL [B] I.heap.size I W→SeePost B X O K Ms (zhj k x r O.last O.down) Mn n m fs W Q→AnyS w0 Q B K Ms M0 b0 KB JB O (c+1)∧w.heap.size≤Q.heap.size):=by
  rintro W Q C F ⟨E9,n',m',E1,g1,g2,g3,g4,g5,g6,z⟩;have sW:=F.size;have s3:=z.size;have cK:=(F.block KB B8 B1).trans C5.o;have cJ:=(F.block JB A1 A3).trans B0.o
  have notMap:∀{q M c:Nat} {α:Type} {E:Elem α} {f:Int→Option α} {cs:Array Value} {t:TypeId},W.heap[q]?=some (.cells cs t (0,0))→MapF E W M c f→q≠M:=by
   intro q M c α E f cs t h1 h2 e;obtain⟨es,ck,he⟩:=h2.isMap;rw[←e,h1]at he;cases he
  have k1:=notMap cK C.at_.now;have k2:=notMap cK C.at_.sts;have k3:=notMap cJ C.at_.now;have k4:=notMap cJ C.at_.sts;have h5:=C.hn;have h6:=C.hm;obtain⟨D',E2⟩:=A6.1;refine⟨⟨by rw[←hX];exact g6,⟨_,D',E9,n',m',E1,E2,g1,by omega,by omega,?_,?_,?_,fun q M hq=>?_⟩,(z.block KB (by omega) (by simp;omega)).trans cK,(z.block JB (by omega) (by simp;omega)).trans cJ,?_,?_⟩,by omega⟩
  ·rcases g4 with rfl|g4
   ·exact C.old
   ·right;omega
  ·rcases g4 with rfl|g4
   ·exact C.nB
   ·omega
  ·rcases g4 with rfl|g4
   ·exact C.nS
   ·omega
  ·rcases g5 q M hq with g|g
   ·exact C.fsB q M g
   ·exact⟨by omega,by omega⟩
  ·have e1:Below w0.heap.size w0 I:=zae d Y;have e2:Below w0.heap.size w0 W:=e1.trans ⟨F.os,F.tape,F.output,F.size,fun q hq=>F.block q (by have:=d.size;omega) (by simp;omega)⟩;have ho:=C.old;exact e2.trans ⟨z.os,z.tape,z.output,z.size,fun q hq=>z.block q (by have:=d.size;omega) (by simp;omega)⟩
  ·rw[Z];rcases zvi i.md x i.a0 i.a1 with⟨_,e⟩|⟨_,e,_⟩
   ·rw[e];show j.acts≤_;omega
   ·rw[e];omega
 have D2:=zaa s;rw[←Z];clear Z hr A6 B2 B5 s i hS hK hJ d D9 A5 hP C0 Y KA z0 z1 l z3 z4 A8 hX hx;go_enter func23,ntmps23;go_wp2_with fail;rw[←D2.o];clear D2;rename_i KK A9
 have C1:∀(g:Nat→Value) (W Q:World),BkS W K Ms M0 b0 B k c Mn n m fs→ButL [B] I.heap.size I W→SeePost B X O K Ms (zhj k x r O.last O.down) Mn n m fs W Q→KK ⟨#[g 0,g 1,g 2,g 3,.bool true,g 5,g 6,g 7,g 8,g 9,g 10,g 11],[]⟩ Q:=by
  intro g W Q h1 h2 h3;apply A9;clear A9;have HF:=zaa (B6.o W Q h1 h2 h3);clear h1 h2 h3;go_wp2;go_ret;exact⟨rfl,HF.o⟩
 have C2:=zaa C1;clear C1 A9 B6;refine(show∀A0:Act,A0=_→Code.wp prog _ _ A0 _ from fun A0 hA0=>?_) _ rfl;have S:A0.tmps.size=12:=by rw[hA0];rfl
 have F2:A0.defers=[]:=by rw[hA0]
 have v1:A0.eval (.tmp 1)=.pointer (some ⟨KB,0,none⟩):=by rw[hA0];rfl
 have v2:A0.eval (.tmp 2)=.pointer (some ⟨JB,0,none⟩):=by rw[hA0];rfl
 have v3:A0.eval (.tmp 3)=.pointer (some ⟨w.heap.size,0,none⟩):=by rw[hA0];rfl
 clear hA0;refine zjo 6 5 (by decide) (AnyR B X j O I) [5,6,7,8,9,10] (zjp B K x r) (by kernel_rfl) (by kernel_rfl) (by kernel_rfl) (by kernel_rfl) (by decide) ⟨(ButL.refl _ _ _).drew2,fun _=>D8.o.drew2,(fun h=>by cases h)⟩ ⟨?_,?_,?_,?_,?_,?_,trivial⟩ ?_
 ·intro b a w' hb u J A R;have z1:=(J.other 1 rfl).trans v1;have c0:w'.cell? ⟨KB,0,none⟩=some (.pointer (some ⟨K,0,none⟩)):=A.but.cell B8 B1 CK.o;refine zay (.pointer (some ⟨K,0,none⟩)) rfl rfl (by revert z1;generalize a.eval=ρ;intro z1;simp only[execOp];go_simp) ⟨_,rfl,(by simpa using A),?_,fun _ _ _ h=>h⟩;show zjp _ _ _ _ _ ((a.put (some 5) _).eval (.tmp 5)) w';rw[zaq J S (by decide)];exact rfl
 ·intro b a w' hb u J A R;have l:=(J.other 2 rfl).trans v2;have c0:w'.cell? ⟨JB,0,none⟩=some (.pointer (some ⟨B,0,none⟩)):=A.but.cell A1 A3 CJ.o;refine zay (.pointer (some ⟨B,0,none⟩)) rfl rfl (by revert l;generalize a.eval=ρ;intro l;simp only[execOp];go_simp) ⟨_,rfl,(by simpa using A),?_,fun _ _ _ h=>h⟩;show zjp _ _ _ _ _ ((a.put (some 6) _).eval (.tmp 6)) w';rw[zaq J S (by decide)];exact rfl
 ·intro b a w' hb u J A R;have z3:=(J.other 3 rfl).trans v3;have c0:w'.cell? ⟨w.heap.size,0,none⟩=some (.int .i64 x.kind):=A.but.cell L N D4.o;have c1:w'.cell? ⟨w.heap.size,1,none⟩=some (.int .i64 x.h):=A.but.cell L N D3.o;have c2:w'.cell? ⟨w.heap.size,2,none⟩=some (.int .i64 x.b):=A.but.cell L N C8.o;have c3:w'.cell? ⟨w.heap.size,3,none⟩=some (.int .i64 x.n):=A.but.cell L N D1.o;have c4:w'.cell? ⟨w.heap.size,4,none⟩=some (.string x.text):=A.but.cell L N C4.o;refine zay (.agg #[.int .i64 x.kind,.int .i64 x.h,.int .i64 x.b,.int .i64 x.n,.string x.text]) rfl rfl (by revert z3;generalize a.eval=ρ;intro z3;simp only[execOp];go_simp) ⟨_,rfl,(by simpa using A),?_,fun _ _ _ h=>h⟩;show zjp _ _ _ _ _ ((a.put (some 7) _).eval (.tmp 7)) w';rw[zaq J S (by decide)];exact rfl
 ·intro b a w' hb u J A R;have l:=(J.other 2 rfl).trans v2;have c0:w'.cell? ⟨JB,0,none⟩=some (.pointer (some ⟨B,0,none⟩)):=A.but.cell A1 A3 CJ.o;refine zay (.pointer (some ⟨B,0,none⟩)) rfl rfl (by revert l;generalize a.eval=ρ;intro l;simp only[execOp];go_simp) ⟨_,rfl,(by simpa using A),?_,fun _ _ _ h=>h⟩;show zjp _ _ _ _ _ ((a.put (some 8) _).eval (.tmp 8)) w';rw[zaq J S (by decide)];exact rfl
 ·intro b a w' hb u J A R;have z3:=(J.other 3 rfl).trans v3;have c0:w'.cell? ⟨w.heap.size,0,none⟩=some (.int .i64 x.kind):=A.but.cell L N D4.o;have c1:w'.cell? ⟨w.heap.size,1,none⟩=some (.int .i64 x.h):=A.but.cell L N D3.o;have c2:w'.cell? ⟨w.heap.size,2,none⟩=some (.int .i64 x.b):=A.but.cell L N C8.o;have c3:w'.cell? ⟨w.heap.size,3,none⟩=some (.int .i64 x.n):=A.but.cell L N D1.o;have c4:w'.cell? ⟨w.heap.size,4,none⟩=some (.string x.text):=A.but.cell L N C4.o;refine zay (.agg #[.int .i64 x.kind,.int .i64 x.h,.int .i64 x.b,.int .i64 x.n,.string x.text]) rfl rfl (by revert z3;generalize a.eval=ρ;intro z3;simp only[execOp];go_simp) ⟨_,rfl,(by simpa using A),?_,fun _ _ _ h=>h⟩;show zjp _ _ _ _ _ ((a.put (some 9) _).eval (.tmp 9)) w';rw[zaq J S (by decide)];exact rfl
 ·intro b a w' hb u J A R;have p8:a.eval (.tmp 8)=.pointer (some ⟨B,0,none⟩):=R ⟨3,.data⟩ (by simp) rfl;have p9:a.eval (.tmp 9)=.agg #[.int .i64 x.kind,.int .i64 x.h,.int .i64 x.b,.int .i64 x.n,.string x.text]:=R ⟨4,.data⟩ (by simp) rfl;have E4:b=false:=hb rfl;subst E4;refine zbo 15 #[.pointer (some ⟨B,0,none⟩),.agg #[.int .i64 x.kind,.int .i64 x.h,.int .i64 x.b,.int .i64 x.n,.string x.text]] rfl rfl (by have pf:=Act.eval_func a 15;revert p8 p9 pf;generalize a.eval=ρ;intro p8 p9 pf;simp only[execOp];go_simp) _ (zj8 B X j w' (A.old rfl) (fun y hy=>Nat.lt_of_lt_of_le (E6.o y hy) A.but.size) HP.o x B9.o.n B9.o.text) ?_;rintro e w2 ⟨rfl,A4,E5⟩;rw[F5.o]at A4⊢;refine⟨_,rfl,_,rfl,⟨A.but.trans E5 A.but.size (by simp),(fun h=>by cases h),(fun _=>A4)⟩,?_,zx8⟩;show zjp _ _ _ _ _ ((a.put (some 10) _).eval (.tmp 10)) w2;rw[zaq J S (by decide)];exact rfl
 ·intro U W J A R;have p5:U.eval (.tmp 5)=.pointer (some ⟨K,0,none⟩):=R 0 (by decide);have p6:U.eval (.tmp 6)=.pointer (some ⟨B,0,none⟩):=R 1 (by decide);have p7:U.eval (.tmp 7)=.agg #[.int .i64 x.kind,.int .i64 x.h,.int .i64 x.b,.int .i64 x.n,.string x.text]:=R 2 (by decide);have D5:U.eval (.tmp 10)=.agg #[.int .i64 r.code,.int .i64 r.n,.string r.text]:=R 5 (by decide);have C6:U.tmps.size=12:=J.size.trans S;have C:=E3.o.but A.but B3 D7;have A4:=A.new rfl;have F6:=A.but.size;show wpOps prog _ _ [6,7] U W;rw[wpOps_cons];refine zbo 22 #[.pointer (some ⟨K,0,none⟩),.pointer (some ⟨B,0,none⟩),.agg #[.int .i64 x.kind,.int .i64 x.h,.int .i64 x.b,.int .i64 x.n,.string x.text],.agg #[.int .i64 r.code,.int .i64 r.n,.string r.text]] rfl rfl (by have pf:=Act.eval_func U 22;revert p5 p6 p7 D5 pf;generalize U.eval=ρ;intro p5 p6 p7 D5 pf;simp only[execOp];go_simp) _ (z1n B X O x r K Ms k Mn n m fs W A4 C.at_ F1.o B3 (by have:=C.hn;unfold maxLen;omega) (by have:=C.hm;unfold maxLen;omega) B9.o.text C.nS (fun q M hq=>(C.fsB q M hq).2) F4.o E0.o C7.o.1 C7.o.2 B4.o.1 B4.o.2 E7.o) ?_;rintro e Q ⟨rfl,C3⟩;refine⟨_,rfl,?_⟩;obtain⟨p,A7⟩:∃p,p=U.put (some 11) (.bool true):=⟨_,rfl⟩;have C9:p.eval (.tmp 11)=.bool true:=by rw[A7];exact Act.eval_put_same _ _ _ (by rw[C6];decide)
  have D6:p.tmps.size=12:=by rw[A7,Act.size_put];exact C6
  have E8:p.defers=[]:=by rw[A7,Act.defers_put'];exact J.defers.trans F2
  show wpOps prog _ _ [7] (U.put (some 11) (.bool true)) Q;rw[←A7,wpOps_cons];refine zay (.bool true) rfl rfl (by revert C9;generalize p.eval=ρ;intro C9;simp only[execOp];go_simp) ?_;obtain⟨b2,F⟩:∃b2,b2=p.put (some 4) (.bool true):=⟨_,rfl⟩;have f4:b2.eval (.tmp 4)=.bool true:=by rw[F];exact Act.eval_put_same _ _ _ (by rw[D6];decide)
  have A2:b2=⟨#[_,_,_,_,_,_,_,_,_,_,_,_],[]⟩:=zb9 b2 12 (by rw[F,Act.size_put];exact D6) (by rw[F,Act.defers_put'];exact E8);dsimp only at A2;rw[f4]at A2;show KK (p.put (some 4) (.bool true)) Q;rw[←F];exact(congrArg (fun y=>KK y _) A2).mpr (C2.o (fun k=>b2.eval (.tmp k)) W Q C A.but C3)
theorem AnyS.mono{w W:World}{B K Ms M0 b0 KB JB:Nat}{j:Jn}{c d:Nat}(h:AnyS w W B K Ms M0 b0 KB JB j c)(hd:c≤d):AnyS w W B K Ms M0 b0 KB JB j d:=by
 obtain⟨J,⟨k,D,L,n,m,C,M,A⟩,E,F,I,h6⟩:=h;exact⟨J,⟨k,D,L,n,m,C,M,A.at_,by have:=A.hn;omega,by have:=A.hm;omega,A.old,A.nB,A.nS,A.fsB⟩,E,F,I,by omega⟩
theorem AnyS.md{w W:World}{B K Ms M0 b0 KB JB:Nat}{j:Jn}{c:Nat}(h:AnyS w W B K Ms M0 b0 KB JB j c):∃D,Md j D:=by
 obtain⟨_,⟨_,D,_,_,_,_,A,_⟩,_⟩:=h;exact⟨D,A.md⟩
theorem AnyS.down{w W:World}{B K Ms M0 b0 KB JB:Nat}{j:Jn}{c:Nat}(h:AnyS w W B K Ms M0 b0 KB JB j c):W.cell? ⟨K,4,none⟩=some (.bool j.down)∧W.cell? ⟨KB,0,none⟩=some (.pointer (some ⟨K,0,none⟩)):=by
 obtain⟨_,⟨k,D,Mn,n,m,fs,E,C⟩,A,_⟩:=h;have F:W.cell? ⟨K,4,none⟩=some (.bool k.down):=(cell_of_row W _ 4 _ _ _ C.at_.box).trans rfl;exact⟨by rw[←E.dn];exact F,(cell_of_row W _ 0 _ _ _ A).trans rfl⟩
def Bk2 (j:Jn)(p:Nat):Prop:=(j.down=true∧j.steps≠[]∧j.steps.length+p≤15)∨j.down=false
theorem Bk2.step{j:Jn}{D:Dk}(h:Md j D)(ha:j.acts<400){p:Nat}(hb:Bk2 j p)(hd:j.down=true):Bk2 (doJ j zhk).1 (p+1):=by
 obtain⟨A,_,_,_,C,B⟩:=z42 h ha;rcases hb with⟨_,h2,h3⟩|h2
 ·by_cases ht:j.steps.tail=[]
  ·exact .inr (C hd h2 ht)
  ·refine .inl ⟨B hd (.inr ht),by rw[A];exact ht,?_⟩;rw[A,List.length_tail];have:0<j.steps.length:=List.length_pos_iff.2 h2;omega
 ·rw[hd]at h2;cases h2
theorem z3w(a:Option Addr)(c:Nat)(l:List Ac)(a2:Option Addr)(c2:Nat)(ds:List Int)(w:World)(hA:SegA w a l)(hlen:l.length≤maxLen)(hok:∀y∈l,OkA y)(hD:SegI w a2 ds)(hdl:ds.length≤maxLen)(hdw:∀x∈ds, -9223372036854775808≤x∧x≤9223372036854775807):
  Calls prog 5 #[.slice a l.length c,.slice a2 ds.length c2] w fun e w'=>e=.returned (.bool true)∧Below w.heap.size w w':=by
 have HA:=zaa hA;have J2:=zaa hok;have HL:=zaa hlen;have HD:=zaa hD;have B0:=zaa hdw;unfold maxLen at hdl;clear hA hok hlen hD hdw;go_enter func5,ntmps5;go_wp2_with fail;refine(zul _).mono ?_;rintro e w1 ⟨rfl,hK,L1,L6⟩;obtain⟨Z,X⟩:∃Z,Z=w1.alloc (.cells #[.pointer (some ⟨w.heap.size+3,0,none⟩)] 50):=⟨_,rfl⟩;have I9:Hid (BkAt Z (w.heap.size+3) (w.heap.size+1) bk0 w.heap.size 0 1 (fun z=>if z=0 then some (w.heap.size+2) else none)):=by rw[X];exact hK.below (zab _ _)
 obtain⟨E,u⟩:∃E,E=w1.heap.size:=⟨_,rfl⟩;have J1:Hid (Z.heap[E]?=some (.cells #[.pointer (some ⟨w.heap.size+3,0,none⟩)] 50 (0,0))):=by rw[X,u];exact heap_alloc_new _ _
 have A6:Hid (Below w.heap.size w Z):=by rw[X];exact zae L6 (zab _ _)
 have N0:Z.heap.size=w.heap.size+5:=by rw[X];simp[L1]
 have C5:=zaa X;have M1:E=w.heap.size+4:=by omega
 have A8:=zaa u;clear hK L6 X L1 u;go_wp2_with fail;rw[←C5.o]
 refine(zx7 a c l Z _ _ _ _ (HA.o.hideW A6.o (by simp)) HL.o J2.o I9.o (by omega) (fun q M hq=>by
  by_cases e:q=0
  ·rw[if_pos e]at hq;cases hq;omega
  ·rw[if_neg e]at hq;cases hq)).mono ?_
 rintro e w2 ⟨B,rfl,hB,⟨Mn,n,m,fs,hS⟩,hJ,L⟩;obtain⟨D,hI⟩:=z6u l (played l) (by unfold played;omega);have M7:=(z6u l (played l) (by unfold played;omega));have M3:=L.size;have M9:=hJ.lt;obtain⟨C,K6⟩:∃C,C=Z.heap.size:=⟨_,rfl⟩;rw[←K6]at hS;obtain⟨A,A9⟩:∃A,A=w2.heap.size:=⟨_,rfl⟩;obtain⟨U,d⟩:∃U,U=w2.alloc (.cells #[.pointer (some ⟨B,0,none⟩)] 24):=⟨_,rfl⟩;have r:Below w2.heap.size w2 U:=by rw[d];exact zab _ _
 have E6:played l≤150:=by unfold played;omega
 have A2:(jOf l (played l)).acts≤(played l:Int):=by
  have:∀k,(jOf l k).acts≤(k:Int):=by
   intro k
   induction k with
   |zero=>rw[zps];exact(by decide:(0:Int)≤0)
   |succ k ih=>
    by_cases hk:k<l.length
    ·rw[zlj hk];obtain⟨D,h1,h2,h3⟩:=zmr l k;rcases zvi h1 (l.getD k ac0) h2 h3 with⟨_,e⟩|⟨_,e,_⟩
     ·rw[e];show(jOf l k).acts≤_;omega
     ·rw[e];omega
    ·have:jOf l (k+1)=jOf l k:=by rw[jOf,jOf,List.take_of_length_le (by omega),List.take_of_length_le (by omega)]
     rw[this];omega
  exact this _
 have HS:Hid (∃j,AnyS w U B (w.heap.size+3) (w.heap.size+1) w.heap.size C E A j (150)):=by
  refine⟨jOf l (played l),(show AnyS w U B (w.heap.size+3) (w.heap.size+1) w.heap.size C E A (jOf l (played l)) (played l) from⟨hJ.below r,⟨_,D,Mn,n,m,fs,hI,hS.but (ButL.of_below r) (by omega) (by omega)⟩,zad r (by omega) ((L.block _ (by omega) (by simp;omega)).trans J1.o),by rw[d,A9];exact heap_alloc_new _ _,?_,A2⟩).mono E6⟩;exact zae (A6.o.trans ⟨L.os,L.tape,L.output,L.size,fun q hq=>L.block q (by omega) (by simp;omega)⟩) r
 have N5:U.heap.size=w2.heap.size+1:=by rw[d];simp
 have r1:w.heap.size≤B:=by omega
 have r2:C≤U.heap.size:=by omega
 have r3:E<C:=by omega
 have r6:w.heap.size+3<E:=by omega
 have r4:C≤B:=by omega
 have r5:B<A:=by omega
 have C8:=zaa d;have C7:=zaa A9;clear hJ L hS hI M7 r E6 A2 N0 I9 J1 A6 K6 C5 M1 N5 M3 M9 hB HA J2 HL d A9;go_wp2_with fail;rw[←C8.o];rw[←C7.o,←A8.o];clear C8 C7 A8
 go_loopw [9] (fun i wr=>∃q:Nat,q≤4∧q≤ds.length∧i=.int .i64 q∧Hid (∃j,AnyS w wr B (w.heap.size+3) (w.heap.size+1) w.heap.size C E A j (150+31*q))∧U.heap.size≤wr.heap.size) (fun i _=>4 - (intOf i).toNat)
 case atStart=>exact⟨0,by omega,by omega,by go_num,HS,Nat.le_refl _⟩
 case round=>
  obtain⟨q,N3,N1,rfl,A7,A4⟩:=hrel;clear HS;rename_i KK A5
  have B2:∀(g0 g1 g2 g3 g4 g7 g9 I5 K3 F0 E3 D7 C4 I1 B4 J4 J3 J7 D1 H8 B8 F5 G1 I0 L0 J6 I3 D8 L9 E2 H2 J8 E5 K0 E8 D2 H7 D4 E9 H1 L4 G8 J0 G3 I7 K4 K9 F9 D6 I8 G5 F8 J5 B5 G4 E4 B6 K7 D9 B3 K1 B7 K5 C6 J9 I6 F2 G2 L2 L5 H9 C3 I2 G6 C0 L8 C9 F1 G7 H3 H5 C2 F4 L3 K8 B9 E0:Value) (W':World),(∃j,AnyS w W' B (w.heap.size+3) (w.heap.size+1) w.heap.size C E A j (274))→U.heap.size≤W'.heap.size→KK ⟨#[g0,g1,g2,g3,g4,.pointer (some ⟨E,0,none⟩),.pointer (some ⟨A,0,none⟩),g7,.func (.func 23) #[] #[.pointer (some ⟨E,0,none⟩),.pointer (some ⟨A,0,none⟩)],g9,I5,K3,F0,E3,D7,C4,I1,B4,J4,J3,J7,D1,H8,B8,F5,G1,I0,L0,J6,I3,D8,L9,E2,H2,J8,E5,K0,E8,D2,H7,D4,E9,H1,L4,G8,J0,G3,I7,K4,K9,F9,D6,I8,G5,F8,J5,B5,G4,E4,B6,K7,D9,B3,K1,B7,K5,C6,J9,I6,F2,G2,L2,L5,H9,C3,I2,G6,C0,L8,C9,F1,G7,H3,H5,C2,F4,L3,K8,B9,E0],[]⟩ W':=by
   intro g0 g1 g2 g3 g4 g7 g9 I5 K3 F0 E3 D7 C4 I1 B4 J4 J3 J7 D1 H8 B8 F5 G1 I0 L0 J6 I3 D8 L9 E2 H2 J8 E5 K0 E8 D2 H7 D4 E9 H1 L4 G8 J0 G3 I7 K4 K9 F9 D6 I8 G5 F8 J5 B5 G4 E4 B6 K7 D9 B3 K1 B7 K5 C6 J9 I6 F2 G2 L2 L5 H9 C3 I2 G6 C0 L8 C9 F1 G7 H3 H5 C2 F4 L3 K8 B9 E0 W' hE O0;obtain⟨j,E1⟩:=hE;apply A5;clear A5 A7 A4 N3 N1;have F:=zaa E1;clear E1;go_wp2_with fail;refine(zfz w B _ _ _ C _ A j (274) (crashAc 0) W' F.o (by omega) ⟨show(0:Int)≤9223372036854775807 by decide,show(⟨#[]⟩:ByteArray).size≤maxLen by decide⟩ (by omega) (by omega) (by omega) (by omega) (by omega) (by omega) (by omega) (by omega) (by omega) (by omega) (by omega) (by omega)).mono ?_;rintro e w3 ⟨rfl,Q,M0⟩;have I:=zaa Q;clear Q;obtain⟨D0,K2⟩:=F.o.md;have N6:=F.o.acts;obtain⟨d3,t3,_⟩:=z3v K2 (by omega) (Int.le_refl 0);generalize (doJ j (crashAc 0)).1=j3 at *;have I4:=zaa d3;have H6:=zaa t3;clear K2 N6 F d3 t3;go_wp2_with fail;refine(zfz w B _ _ _ C _ A j3 (274+1) (backAc) w3 I.o (by omega) ⟨show(0:Int)≤9223372036854775807 by decide,show(⟨#[]⟩:ByteArray).size≤maxLen by decide⟩ (by omega) (by omega) (by omega) (by omega) (by omega) (by omega) (by omega) (by omega) (by omega) (by omega) (by omega) (by omega)).mono ?_;rintro e w4 ⟨rfl,S,M6⟩;have O:=zaa S;clear S;obtain⟨D3,C1⟩:=I.o.md;have N4:=I.o.acts;obtain⟨d4,t4,l4,_⟩:=z43 C1 (by omega) I4.o H6.o;generalize (doJ j3 backAc).1=j4 at *;have s:Hid (∃j,AnyS w w4 B (w.heap.size+3) (w.heap.size+1) w.heap.size C E A j (276+0)∧Bk2 j 0):=⟨j4,O.o,.inl ⟨d4,t4,by omega⟩⟩;clear C1 N4 I O d4 t4 l4 I4 H6;go_wp2_with fail
   go_loopw [11] (fun i wr=>∃p:Nat,p≤40∧i=.int .i64 p∧Hid (∃j,AnyS w wr B (w.heap.size+3) (w.heap.size+1) w.heap.size C E A j (276+p)∧Bk2 j p)∧U.heap.size≤wr.heap.size) (fun i _=>40 - (intOf i).toNat)
   case atStart=>exact⟨0,by omega,by go_num,s,by omega⟩
   case round=>
    obtain⟨p,N8,rfl,h,N2⟩:=hrel;clear s;obtain⟨j5,J,G0⟩:=h.o;have K:=zaa J;have A1:=zaa G0;obtain⟨x4,x0⟩:=J.down;obtain⟨D5,B1⟩:=J.md;have G9:=J.acts;clear J G0 h
    cases hd5:j5.down with
    |true=>
     have N7:p<15:=by
      rcases A1.o with⟨_,h2,h3⟩|h2
      ·have:=List.length_pos_iff.2 h2;omega
      ·rw[hd5]at h2;cases h2
     have E7:(p:Int)<40:=by omega
     have H0:=zaa (A1.o.step B1 (by omega) hd5);rw[hd5]at x4;clear B1 hd5 A1 G9;go_wp2_with fail;refine(zfz w B _ _ _ C _ A j5 (276+p) (zhk) wr K.o (by omega) ⟨show(0:Int)≤9223372036854775807 by decide,show(⟨#[]⟩:ByteArray).size≤maxLen by decide⟩ (by omega) (by omega) (by omega) (by omega) (by omega) (by omega) (by omega) (by omega) (by omega) (by omega) (by omega) (by omega)).mono ?_;rintro e w6 ⟨rfl,N,M2⟩;have R:=zaa N;clear N;have HN:Hid (∃j,AnyS w w6 B (w.heap.size+3) (w.heap.size+1) w.heap.size C E A j (276+(p+1))∧Bk2 j (p+1)):=⟨_,R.o,H0.o⟩;clear R H0 x4 x0 K;go_wp2
     go_roundw
     case rel=>exact⟨p+1,by omega,by go_num,HN,by omega⟩
     case measure=>first|(simp[intOf];omega)|simp[intOf]
    |false=>
     rw[hd5]at x4;have F6:=zaa K.o.bel;clear B1 hd5 A1 G9 K;by_cases hp4:p<40
     ·have E7:(p:Int)<40:=by omega
      go_wp2;go_ret;exact⟨rfl,F6.o⟩
     ·have E7:¬(p:Int)<40:=by omega
      go_wp2;go_ret;exact⟨rfl,F6.o⟩
  have A0:=zaa B2;clear B2 A5;obtain⟨j0,F3⟩:=A7.o;have F:=zaa F3;clear A7 F3;by_cases h1:q<ds.length
  ·by_cases h4:q<4
   ·have i1:(q:Int)<(ds.length:Int):=by omega
    have i4:(q:Int)<4:=by omega
    have i0:(0:Int)≤(q:Int):=by omega
    obtain⟨x,hx⟩:∃x,x=ds.getD q 0:=⟨_,rfl⟩;have N9:=B0.o x (by rw[hx,List.getD,List.getElem?_eq_getElem h1];exact List.getElem_mem h1);obtain⟨b,O1,rfl,H4,F7⟩:=HD.o.resolve_left (fun e=>by rw[e]at h1;simp at h1);have Y:=F7 q h1;rw[←hx]at Y;have A3:=zac F.o.bel H4 Y;have M8:=zaa Y;have M5:0≤max 0 x∧max 0 x≤9223372036854775807:=by omega
    have O2:x.tmod 30≤29:=by have:=Int.tmod_lt_of_pos x (show(0:Int)<30 by decide);omega
    clear F7 Y hx;go_wp2_with fail;refine(zfz w B _ _ _ C _ A j0 (150+31*q) (crashAc (max 0 x)) wr F.o (by omega) ⟨M5.2,show(⟨#[]⟩:ByteArray).size≤maxLen by decide⟩ (by omega) (by omega) (by omega) (by omega) (by omega) (by omega) (by omega) (by omega) (by omega) (by omega) (by omega) (by omega)).mono ?_;rintro e w3 ⟨rfl,Q,M0⟩;have I:=zaa Q;clear Q;generalize (doJ j0 (crashAc (max 0 x))).1=j3 at *;clear F A3;go_wp2_with fail;refine(zfz w B _ _ _ C _ A j3 (150+31*q+1) (backAc) w3 I.o (by omega) ⟨show(0:Int)≤9223372036854775807 by decide,show(⟨#[]⟩:ByteArray).size≤maxLen by decide⟩ (by omega) (by omega) (by omega) (by omega) (by omega) (by omega) (by omega) (by omega) (by omega) (by omega) (by omega) (by omega)).mono ?_;rintro e w4 ⟨rfl,S,M6⟩;have O:=zaa S;clear S;have s:Hid (∃j,AnyS w w4 B (w.heap.size+3) (w.heap.size+1) w.heap.size C E A j (150+31*q+2+0)):=⟨_,O.o⟩;clear I O;go_wp2_with fail
    go_loopw [10] (fun i wr=>∃p:Nat,(p=0∨(p:Int)≤x.tmod 30)∧i=.int .i64 p∧Hid (∃j,AnyS w wr B (w.heap.size+3) (w.heap.size+1) w.heap.size C E A j (150+31*q+2+p))∧U.heap.size≤wr.heap.size) (fun i _=>30 - (intOf i).toNat)
    case atStart=>exact⟨0,.inl rfl,by go_num,s,by omega⟩
    case round=>
     obtain⟨p,hp,rfl,h,N2⟩:=hrel;clear s;obtain⟨j5,J⟩:=h.o;have K:=zaa J;have A3:=zac J.bel H4 M8.o;clear J h;by_cases hlt:(p:Int)<x.tmod 30
     ·have M4:p<29:=by omega
      go_wp2_with fail;refine(zfz w B _ _ _ C _ A j5 (150+31*q+2+p) (zhk) _ K.o (by omega) ⟨show(0:Int)≤9223372036854775807 by decide,show(⟨#[]⟩:ByteArray).size≤maxLen by decide⟩ (by omega) (by omega) (by omega) (by omega) (by omega) (by omega) (by omega) (by omega) (by omega) (by omega) (by omega) (by omega)).mono ?_;rintro e w6 ⟨rfl,N,M2⟩;have R:=zaa N;clear N;have HN:Hid (∃j,AnyS w w6 B (w.heap.size+3) (w.heap.size+1) w.heap.size C E A j (150+31*q+2+(p+1))):=⟨_,R.o⟩;clear R K A3;go_wp2
      go_roundw
      case rel=>exact⟨p+1,.inr (by omega),by go_num,HN,by omega⟩
      case measure=>first|(simp[intOf];omega)|simp[intOf]
     ·have M4:p≤29:=by omega
      have HN:Hid (∃j,AnyS w _ B (w.heap.size+3) (w.heap.size+1) w.heap.size C E A j (150+31*(q+1))):=⟨_,K.o.mono (by omega)⟩;clear K;go_wp2
      go_roundw
      case rel=>exact⟨q+1,by omega,by omega,by go_num,HN,by omega⟩
      case measure=>first|(simp[intOf];omega)|simp[intOf]
   ·have i1:(q:Int)<(ds.length:Int):=by omega
    have i4:¬(q:Int)<4:=by omega
    have HE:Hid (∃j,AnyS w wr B (w.heap.size+3) (w.heap.size+1) w.heap.size C E A j (274)):=⟨j0,F.o.mono (by omega)⟩;clear F HD B0;go_wp2;apply A0.o
    ·exact HE.o
    ·exact A4
  ·have i1:¬(q:Int)<(ds.length:Int):=by omega
   have HE:Hid (∃j,AnyS w wr B (w.heap.size+3) (w.heap.size+1) w.heap.size C E A j (274)):=⟨j0,F.o.mono (by omega)⟩;clear F HD B0;go_wp2;apply A0.o
   ·exact HE.o
   ·exact A4
