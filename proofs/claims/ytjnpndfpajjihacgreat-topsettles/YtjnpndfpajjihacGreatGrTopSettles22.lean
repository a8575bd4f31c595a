/-
  
-/
import Derived.Test.YtjnpndfpajjihacGreatGrTopSettles21
import Derived.Shelf.Abstract
set_option maxRecDepth 100000
set_option maxHeartbeats 40000000
namespace Go.Proofs.YtjnpndfpajjihacGreat
open Go.Proofs.Tryz
open Go.RowKit
def zsw {α:Type}(p:α→Bool)(l:List α)(i:Int):Prop:=(i= -1∧l.any p=false)∨∃(k:Nat) (x:α),i=(k:Int)∧l[k]?=some x∧p x=true∧(l.take k).any p=false
theorem zp6{α:Type}{p:α→Bool}{l:List α}{i:Int}(h:zsw p l i):l.any p=decide (0≤i):=by
 rcases h with⟨rfl,h⟩|⟨k,x,rfl,h,hp,_⟩
 ·rw[h];rfl
 ·rw[z3u h hp];simp
theorem zux(p:Int×ByteArray→Bool)(g:Nat)(lb:Array Value)(eg:∀args w,(callFunc g args).run prog w=.ok (.enter g args) w)(a:Option Addr)(c:Nat)(l:List (Int×ByteArray))(w:World)(h:SegW w a l)(hn:l.length≤maxLen)
  (hp:∀(x:Int×ByteArray) (W:World),Below w.heap.size w W→Calls prog g (#[.agg #[.int .i64 x.1,.string x.2]]++lb) W fun e w'=>e=.returned (.bool (p x))∧Below w.heap.size w w'):
  Calls prog 134 #[.slice a l.length c,.func (.func g) #[] lb] w fun e w'=>∃i:Int,e=.returned (.int .i64 i)∧zsw p l i∧Below w.heap.size w w':=by
 unfold maxLen at hn;have O:=zaa h;have I:=zaa hp;clear h hp;go_enter func134,ntmps134;go_wp2
 go_loopw [8] (fun i wr=>∃k:Nat,k≤l.length∧i=.int .i64 k∧Hid ((l.take k).any p=false)∧Below w.heap.size w wr) (fun i _=>l.length - (intOf i).toNat)
 case atStart=>exact⟨0,Nat.zero_le _,rfl,by simp[Hid],Below.refl _ _⟩
 case round=>
  obtain⟨k,hk,rfl,C,B⟩:=hrel;by_cases hlt:k<l.length
  ·obtain⟨b2,off,rfl,hb,M⟩:=O.o.resolve_left (by intro e;rw[e]at hlt;simp at hlt);obtain⟨x,K⟩:∃x,x=l.getD k (0,ByteArray.empty):=⟨_,rfl⟩;obtain⟨F,E⟩:=M k hlt;rw[←K]at F E;have L:Hid (l[k]?=some x):=by rw[K];exact zce _ _ _ hlt
   have g1:=zac B hb F;have g2:=zac B hb E;have A:=I.o x wr B;clear K M F E;obtain⟨n,t⟩:=x;have A0:(k:Int)<(l.length:Int):=by omega
   cases hq:p (n,t) with
   |true=>
    have J:Hid (zsw p l (k:Int)):=.inr ⟨k,(n,t),rfl,L.o,hq,C.o⟩;rw[hq]at A;clear C I;go_wp2_with fail;refine A.mono ?_;rintro e w' ⟨rfl,D⟩;go_wp2;go_ret;exact⟨_,rfl,J.o,D⟩
   |false=>
    have N:=zaa (zum L.o hq C.o);rw[hq]at A;clear C I;go_wp2_with fail;refine A.mono ?_;rintro e w' ⟨rfl,D⟩;go_wp2
    go_roundw
    case rel=>exact⟨k+1,by omega,by go_num,N,D⟩
    case measure=>simp[intOf];omega
  ·have J:Hid (zsw p l (-1)):=.inl ⟨rfl,by have:=C.o;rw[List.take_of_length_le (by omega)]at this;exact this⟩;clear C I;go_wp2;go_ret;exact⟨_,rfl,J.o,B⟩
theorem zi4(p:Int×ByteArray→Bool)(g:Nat)(lb:Array Value)(eg:∀args w,(callFunc g args).run prog w=.ok (.enter g args) w)(a:Option Addr)(c:Nat)(l:List (Int×ByteArray))(w:World)(h:SegW w a l)(hn:l.length≤maxLen)
  (hp:∀(x:Int×ByteArray) (W:World),Below w.heap.size w W→Calls prog g (#[.agg #[.int .i64 x.1,.string x.2]]++lb) W fun e w'=>e=.returned (.bool (p x))∧Below w.heap.size w w'):
  Calls prog 98 #[.slice a l.length c,.func (.func g) #[] lb] w fun e w'=>e=.returned (.bool (l.any p))∧Below w.heap.size w w':=by
 go_enter func98,ntmps98;go_wp2_with fail;refine(zux p g lb eg a c l w h hn hp).mono ?_;rintro e w1 ⟨i,rfl,A,hb⟩;have B:=zaa (zp6 A);clear A;go_wp2;go_ret;exact⟨by rw[B.o];rfl,hb⟩
theorem zwa(x:Int×ByteArray)(W:World):
  Calls prog 99 (#[.agg #[.int .i64 x.1,.string x.2]]++#[]) W fun e w'=>e=.returned (.bool (!zba x.2))∧Below W.heap.size W w':=by
 obtain⟨n,t⟩:=x;show Calls prog 99 #[.agg #[.int .i64 n,.string t]] W _;go_enter func99,ntmps99;go_wp2;go_ret;exact⟨rfl,zab _ _⟩
theorem zsx(l:List (Int×ByteArray)):zb5 l= !l.any fun x=> !zba x.2:=by
 simp[zb5,List.all_eq_not_any_not]
theorem zuy(a:Option Addr)(c:Nat)(l:List (Int×ByteArray))(w:World)(h:SegW w a l)(hn:l.length≤maxLen):
  Calls prog 60 #[.slice a l.length c] w fun e w'=>e=.returned (.bool (zb5 l))∧Below w.heap.size w w':=by
 rw[zsx];go_enter func60,ntmps60;go_wp2_with fail;refine(zi4 (fun x=> !zba x.2) 99 #[] (Go.Proofs.enters_of func99 (by kernel_rfl) rfl) a c l w h hn (fun x W hb=>(zwa x W).mono fun _ _ ⟨h1,h2⟩=>⟨h1,hb.trans (h2.mono hb.size)⟩)).mono ?_;rintro e w1 ⟨rfl,hb⟩;go_wp2;go_ret;exact⟨rfl,hb⟩
theorem zwb(B:Nat)(b:Int)(x:Int×ByteArray)(W:World)(hB:B<W.heap.size)(hc:W.cell? ⟨B,0,none⟩=some (.int .i64 b)):
  Calls prog 203 (#[.agg #[.int .i64 x.1,.string x.2]]++#[.pointer (some ⟨B,0,none⟩)]) W fun e w'=>e=.returned (.bool (x.1==b))∧Below W.heap.size W w':=by
 obtain⟨n,t⟩:=x;show Calls prog 203 #[.agg #[.int .i64 n,.string t],.pointer (some ⟨B,0,none⟩)] W _;have A0:B≠W.heap.size:=by omega
 go_enter func203,ntmps203;go_wp2;go_ret;exact⟨rfl,zab _ _⟩
theorem zk6(l:List (Int×ByteArray))(b:Int):(zai b l).isSome=l.any fun x=>x.1==b:=by
 induction l with
 |nil=>rfl
 |cons x r ih=>
  rw[zai,List.any_cons];by_cases e:x.1=b
  ·simp[e]
  ·rw[if_neg e,ih,show(x.1==b)=false from by simpa using e];rfl
theorem zlo{l:List (Int×ByteArray)}{b:Int}(h:(l.any fun x=>x.1==b)=false):zai b l=none:=by
 have:=zk6 l b;rw[h]at this
 cases e:zai b l with
 |none=>rfl
 |some t=>rw[e]at this;cases this
theorem zk7(a:Option Addr)(c:Nat)(l:List (Int×ByteArray))(b:Int)(w:World)(h:SegW w a l)(hn:l.length≤maxLen):
  Calls prog 171 #[.slice a l.length c,.int .i64 b] w fun e w'=>e=.returned (.tuple #[.string ((zai b l).getD ⟨#[]⟩),.bool (zai b l).isSome])∧Below w.heap.size w w':=by
 have K:=zaa h;clear h;go_enter func171,ntmps171;go_wp2_with fail;refine(zux (fun x=>x.1==b) 203 #[.pointer (some ⟨w.heap.size,0,none⟩)] (Go.Proofs.enters_of func203 (by kernel_rfl) rfl) a c l _ (K.o.below (zab _ _)) hn (fun x W hb=>(zwb w.heap.size b x W (by have:=hb.size;simp at this;omega) ((hb.cell (p:=⟨w.heap.size,0,none⟩) (by simp)).trans (by simp[go_sem]))).mono fun _ _ ⟨h1,h2⟩=>⟨h1,hb.trans (h2.mono hb.size)⟩)).mono ?_;rintro e w1 ⟨i,rfl,B,C⟩;have I:=zaa (zae (zab _ _) C);have J:=zaa (K.o.below I.o);clear C;rcases B with⟨rfl,B⟩|⟨k,x,rfl,hx,hp,ht⟩
 ·have F:Hid (zai b l=none):=zlo B;clear B;go_wp2
  go_ret2
  exact⟨by rw[F.o];rfl,I.o⟩
 ·have E:x.1=b:=by simpa using hp
  have F:Hid (zai b l=some x.2):=z1k hx E (zlo ht);have A:k<l.length:=(List.getElem?_eq_some_iff.1 hx).1;obtain⟨b2,off,rfl,hb,L⟩:=J.o.resolve_left (by intro e;rw[e]at A;simp at A);have M:=(L k A).2;have D:l.getD k (0,ByteArray.empty)=x:=by rw[List.getD,hx];rfl
  rw[D]at M;unfold maxLen at hn;have A0:(k:Int)<(l.length:Int):=by omega
  clear L hx hp ht E D;go_wp2
  go_ret2
  exact⟨by rw[F.o];rfl,I.o⟩
theorem zi8(a:Option Addr)(c:Nat)(l:List (Int×ByteArray))(b:Int)(w:World)(h:SegW w a l)(hn:l.length≤maxLen):
  Calls prog 153 #[.slice a l.length c,.int .i64 b] w fun e w'=>e=.returned (.bool (zai b l).isSome)∧Below w.heap.size w w':=by
 go_enter func153,ntmps153;go_wp2_with fail;refine(zk7 a c l b w h hn).mono ?_;rintro e w1 ⟨rfl,A⟩;go_wp2;go_ret;exact⟨rfl,A⟩
theorem zwk(a:Option Addr)(c:Nat)(l:List Int)(b:Int)(w:World)(h:SegI w a l)(hn:l.length≤maxLen):
  Calls prog 197 #[.slice a l.length c,.int .i64 b] w fun e w'=>∃i:Int,e=.returned (.int .i64 i)∧zsw (·==b) l i∧w=w':=by
 unfold maxLen at hn;have J:=zaa h;clear h;go_enter func197,ntmps197;go_wp2
 go_loop [8] (fun i=>∃k:Nat,k≤l.length∧i=.int .i64 k∧Hid ((l.take k).any (·==b)=false)) (fun i=>l.length - (intOf i).toNat)
 case atStart=>exact⟨0,Nat.zero_le _,rfl,by simp[Hid]⟩
 case round=>
  obtain⟨k,hk,rfl,A⟩:=hrel;by_cases hlt:k<l.length
  ·obtain⟨b2,off,rfl,hb,F⟩:=J.o.resolve_left (by intro e;rw[e]at hlt;simp at hlt);obtain⟨x,C⟩:∃x,x=l.getD k 0:=⟨_,rfl⟩;have D:=F k hlt;rw[←C]at D;have E:Hid (l[k]?=some x):=by rw[C];exact zce _ _ _ hlt
   clear C F;have A0:(k:Int)<(l.length:Int):=by omega
   by_cases he:x=b
   ·have B:Hid (zsw (·==b) l (k:Int)):=.inr ⟨k,x,rfl,E.o,by simpa using he,A.o⟩;subst he;clear A;go_wp2;go_ret;exact⟨_,rfl,B.o,rfl⟩
   ·have I:=zaa (zum E.o (show(x==b)=false by simpa using he) A.o);have A1:¬b=x:=fun e=>he e.symm;clear A;go_wp2
    go_round
    case rel=>exact⟨k+1,by omega,by go_num,I⟩
    case measure=>simp[intOf];omega
  ·have B:Hid (zsw (·==b) l (-1)):=.inl ⟨rfl,by have:=A.o;rw[List.take_of_length_le (by omega)]at this;exact this⟩;clear A;go_wp2;go_ret;exact⟨_,rfl,B.o,rfl⟩
theorem zc8(a:Option Addr)(c:Nat)(l:List Int)(b:Int)(w:World)(h:SegI w a l)(hn:l.length≤maxLen):
  Calls prog 160 #[.slice a l.length c,.int .i64 b] w fun e w'=>e=.returned (.bool (za7 l b))∧w=w':=by
 go_enter func160,ntmps160;go_wp2_with fail;refine(zwk a c l b w h hn).mono ?_;rintro e w1 ⟨i,rfl,A,rfl⟩;have B:Hid (za7 l b=decide (0≤i)):=zp6 A;clear A;go_wp2;go_ret;exact⟨by rw[B.o];rfl,rfl⟩
theorem zg7(v:Value)(t:Tx)(b:Int)(w:World)(hT:IsTx w v t):
  Calls prog 159 #[v,.int .i64 b] w fun e w'=>e=.returned (.bool (zcq t b))∧Below w.heap.size w w':=by
 obtain⟨a,c,a',c',r,d,rfl,E,N,D,L,n2,F⟩:=hT;have J:=zaa E;have M:=zaa D;have K:=zaa F;clear E N D F;go_enter func159,ntmps159;go_wp2_with fail;refine(zi8 a c t.info b _ (J.o.below (zab _ _)) L).mono ?_;rintro e O ⟨rfl,A⟩;have A0:w.heap.size<O.heap.size:=by have:=A.size;simp at this;omega
 obtain⟨⟨_,_,_,x3,_⟩,_⟩:=zaj (z3v A);have C:=zaa (zae (zab _ _) A);have I:=zaa (M.o.below C.o);clear A
 cases hi:(zai b t.info).isSome with
 |true=>
  have B:Hid (zcq t b=true):=by rw[Hid,zcq,hi];rfl
  go_wp2;go_ret;exact⟨by rw[B.o];rfl,C.o⟩
 |false=>
  have B:Hid (zcq t b=za7 t.rev b):=by rw[Hid,zcq,hi];rfl
  go_wp2_with fail;refine(zc8 r d t.rev b _ I.o K.o).mono ?_;rintro e w2 ⟨rfl,rfl⟩;go_wp2;go_ret;exact⟨by rw[B.o];rfl,C.o⟩
theorem zij(o:Bool)(l:Int)(W:World):
  Calls prog 58 #[.agg #[.bool o,.int .i64 l]] W fun e w'=>e=.returned (.bool o)∧Below W.heap.size W w':=by
 go_enter func58,ntmps58;go_wp2;go_ret;exact⟨rfl,zab _ _⟩
def z6b (w:World)(B off:Nat)(x0 x1 x2:Hd):Prop:=
 B<w.heap.size∧(w.cell? ⟨B,off,none⟩=some (.bool x0.on)∧w.cell? ⟨B,off+1,none⟩=some (.int .i64 x0.left))∧(w.cell? ⟨B,off+2,none⟩=some (.bool x1.on)∧w.cell? ⟨B,off+3,none⟩=some (.int .i64 x1.left))∧(w.cell? ⟨B,off+4,none⟩=some (.bool x2.on)∧w.cell? ⟨B,off+5,none⟩=some (.int .i64 x2.left))
theorem z2g(B:Nat)(x0 x1 x2:Hd)(w:World)(h:z6b w B 4 x0 x1 x2):
  Calls prog 97 #[.slice (some ⟨B,4,none⟩) 3 3,.func (.func 58) #[] #[]] w fun e w'=>∃i:Int,e=.returned (.int .i64 i)∧(x0.on||x1.on||x2.on)=decide (0≤i)∧Below w.heap.size w w':=by
 obtain⟨S,j⟩:=x0;obtain⟨O,Z⟩:=x1;obtain⟨R,Y⟩:=x2;obtain⟨E,⟨Q,U⟩,⟨L,N⟩,K,M⟩:=h;simp only[Nat.reduceAdd]at Q L K U N M;go_enter func97,ntmps97;go_wp2;refine wp_loop_rounds 4 ?_;rw[rounds_succ];go_wp2_with fail;refine(zij S j _).mono ?_;rintro e c ⟨rfl,A⟩
 cases S with
 |true=>
  go_wp2;go_ret;exact⟨_,rfl,by simp,A⟩
 |false=>
  have c1:=zac A E L;have d:=zac A E N;have c2:=zac A E K;have X:=zac A E M;have J:B<c.heap.size:=Nat.lt_of_lt_of_le E A.size;clear Q U L N K M;go_wp2;rw[rounds_succ];go_wp2_with fail;refine(zij O Z _).mono ?_;rintro e w2 ⟨rfl,D⟩;have C:=zae A D
  cases O with
  |true=>
   go_wp2;go_ret;exact⟨_,rfl,by simp,C⟩
  |false=>
   have a:=zac D J c2;have b:=zac D J X;clear c1 d c2 X A D;go_wp2;rw[rounds_succ];go_wp2_with fail;refine(zij R Y _).mono ?_;rintro e w3 ⟨rfl,I⟩;have F:=zae C I;clear a b C I
   cases R with
   |true=>
    go_wp2;go_ret;exact⟨_,rfl,by simp,F⟩
   |false=>
    go_wp2;rw[rounds_succ];go_wp2;go_ret;exact⟨_,rfl,by simp,F⟩
theorem zoq(B:Nat)(x0 x1 x2:Hd)(w:World)(h:z6b w B 4 x0 x1 x2):
  Calls prog 57 #[.slice (some ⟨B,4,none⟩) 3 3,.func (.func 58) #[] #[]] w fun e w'=>e=.returned (.bool (x0.on||x1.on||x2.on))∧Below w.heap.size w w':=by
 go_enter func57,ntmps57;go_wp2_with fail;refine(z2g B x0 x1 x2 w h).mono ?_;rintro e w1 ⟨i,rfl,C,A⟩;have D:=zaa C;clear C;go_wp2;go_ret;exact⟨by rw[D.o];rfl,A⟩
theorem zwl(q:Int)(a:Option Addr)(n c:Nat)(a':Option Addr)(n' c':Nat)(r:Option Addr)(m d:Nat)(y0 y1 y2:Hd)(w:World):
  Calls prog 30 #[.agg #[.int .i64 q,.slice a n c,.slice a' n' c',.slice r m d,.bool y0.on,.int .i64 y0.left,.bool y1.on,.int .i64 y1.left,.bool y2.on,.int .i64 y2.left]] w fun e w'=>e=.returned (.bool (y0.on||y1.on||y2.on))∧Below w.heap.size w w':=by
 go_enter func30,ntmps30;go_wp2_with fail;refine(zoq w.heap.size y0 y1 y2 _ ⟨by simp,⟨by simp[go_sem],by simp[go_sem]⟩,⟨by simp[go_sem],by simp[go_sem]⟩,by simp[go_sem],by simp[go_sem]⟩).mono ?_;rintro e w1 ⟨rfl,A⟩;go_wp2;go_ret;exact⟨rfl,zae (zab _ _) A⟩
theorem zqm(v:Value)(t:Tx)(w:World)(hT:IsTx w v t):
  Calls prog 30 #[v] w fun e w'=>e=.returned (.bool (zfm t))∧Below w.heap.size w w':=by
 obtain⟨a,c,a',c',r,d,rfl,_,_,_,_,_,_⟩:=hT;exact zwl _ _ _ _ _ _ _ _ _ _ t.h0 t.h1 t.h2 w
