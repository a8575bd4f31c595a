/-
  
-/
import Derived.Test.YtjnpndfpajjihacGreatGrTopOrdered21
import Derived.Shelf.Abstract
set_option maxRecDepth 100000
set_option maxHeartbeats 40000000
namespace Go.Proofs.YtjnpndfpajjihacGreat
open Go.Proofs.Tryz
open Go.RowKit
def zs1 {α:Type}(p:α→Bool)(l:List α)(i:Int):Prop:=(i= -1∧l.any p=false)∨∃(k:Nat) (x:α),i=(k:Int)∧l[k]?=some x∧p x=true∧(l.take k).any p=false
theorem zqe{α:Type}{p:α→Bool}{l:List α}{i:Int}(h:zs1 p l i):l.any p=decide (0≤i):=by
 rcases h with⟨rfl,h⟩|⟨k,x,rfl,h,hp,_⟩
 ·rw[h];rfl
 ·rw[z31 h hp];simp
theorem zu1(p:Int×ByteArray→Bool)(g:Nat)(lb:Array Value)(eg:∀args w,(callFunc g args).run prog w=.ok (.enter g args) w)(a:Option Addr)(c:Nat)(l:List (Int×ByteArray))(w:World)(h:SegW w a l)(hn:l.length≤maxLen)
  (hp:∀(x:Int×ByteArray) (W:World),Below w.heap.size w W→Calls prog g (#[.agg #[.int .i64 x.1,.string x.2]]++lb) W fun e w'=>e=.returned (.bool (p x))∧Below w.heap.size w w'):
  Calls prog 134 #[.slice a l.length c,.func (.func g) #[] lb] w fun e w'=>∃i:Int,e=.returned (.int .i64 i)∧zs1 p l i∧Below w.heap.size w w':=by
 unfold maxLen at hn;have N:=zab h;have I:=zab hp;clear h hp;go_enter func134,ntmps134;go_wp2
 go_loopw [8] (fun i wr=>∃k:Nat,k≤l.length∧i=.int .i64 k∧Hid ((l.take k).any p=false)∧Below w.heap.size w wr) (fun i _=>l.length - (intOf i).toNat)
 case atStart=>exact⟨0,Nat.zero_le _,rfl,by simp[Hid],Below.refl _ _⟩
 case round=>
  obtain⟨k,hk,rfl,C,B⟩:=hrel;by_cases hlt:k<l.length
  ·obtain⟨b2,A1,rfl,hb,L⟩:=N.o.resolve_left (by intro e;rw[e]at hlt;simp at hlt);obtain⟨x,K⟩:∃x,x=l.getD k (0,ByteArray.empty):=⟨_,rfl⟩;obtain⟨D,F⟩:=L k hlt;rw[←K]at D F;have M:Hid (l[k]?=some x):=by rw[K];exact zcd _ _ _ hlt
   have g1:=zac B hb D;have g2:=zac B hb F;have A:=I.o x wr B;clear K L D F;obtain⟨n,t⟩:=x;have A0:(k:Int)<(l.length:Int):=by omega
   cases hq:p (n,t) with
   |true=>
    have J:Hid (zs1 p l (k:Int)):=.inr ⟨k,(n,t),rfl,M.o,hq,C.o⟩;rw[hq]at A;clear C I;go_wp2_with fail;refine A.mono ?_;rintro e w' ⟨rfl,E⟩;go_wp2;go_ret;exact⟨_,rfl,J.o,E⟩
   |false=>
    have O:=zab (zuq M.o hq C.o);rw[hq]at A;clear C I;go_wp2_with fail;refine A.mono ?_;rintro e w' ⟨rfl,E⟩;go_wp2
    go_roundw
    case rel=>exact⟨k+1,by omega,by go_num,O,E⟩
    case measure=>simp[intOf];omega
  ·have J:Hid (zs1 p l (-1)):=.inl ⟨rfl,by have:=C.o;rw[List.take_of_length_le (by omega)]at this;exact this⟩;clear C I;go_wp2;go_ret;exact⟨_,rfl,J.o,B⟩
theorem zi6(p:Int×ByteArray→Bool)(g:Nat)(lb:Array Value)(eg:∀args w,(callFunc g args).run prog w=.ok (.enter g args) w)(a:Option Addr)(c:Nat)(l:List (Int×ByteArray))(w:World)(h:SegW w a l)(hn:l.length≤maxLen)
  (hp:∀(x:Int×ByteArray) (W:World),Below w.heap.size w W→Calls prog g (#[.agg #[.int .i64 x.1,.string x.2]]++lb) W fun e w'=>e=.returned (.bool (p x))∧Below w.heap.size w w'):
  Calls prog 98 #[.slice a l.length c,.func (.func g) #[] lb] w fun e w'=>e=.returned (.bool (l.any p))∧Below w.heap.size w w':=by
 go_enter func98,ntmps98;go_wp2_with fail;refine(zu1 p g lb eg a c l w h hn hp).mono ?_;rintro e w1 ⟨i,rfl,A,hb⟩;have B:=zab (zqe A);clear A;go_wp2;go_ret;exact⟨by rw[B.o];rfl,hb⟩
theorem zwd(x:Int×ByteArray)(W:World):
  Calls prog 99 (#[.agg #[.int .i64 x.1,.string x.2]]++#[]) W fun e w'=>e=.returned (.bool (!zbb x.2))∧Below W.heap.size W w':=by
 obtain⟨n,t⟩:=x;show Calls prog 99 #[.agg #[.int .i64 n,.string t]] W _;go_enter func99,ntmps99;go_wp2;go_ret;exact⟨rfl,zaa _ _⟩
theorem zs2(l:List (Int×ByteArray)):zb6 l= !l.any fun x=> !zbb x.2:=by
 simp[zb6,List.all_eq_not_any_not]
theorem zu2(a:Option Addr)(c:Nat)(l:List (Int×ByteArray))(w:World)(h:SegW w a l)(hn:l.length≤maxLen):
  Calls prog 60 #[.slice a l.length c] w fun e w'=>e=.returned (.bool (zb6 l))∧Below w.heap.size w w':=by
 rw[zs2];go_enter func60,ntmps60;go_wp2_with fail;refine(zi6 (fun x=> !zbb x.2) 99 #[] (Go.Proofs.enters_of func99 (by kernel_rfl) rfl) a c l w h hn (fun x W hb=>(zwd x W).mono fun _ _ ⟨h1,h2⟩=>⟨h1,hb.trans (h2.mono hb.size)⟩)).mono ?_;rintro e w1 ⟨rfl,hb⟩;go_wp2;go_ret;exact⟨rfl,hb⟩
theorem zwe(B:Nat)(b:Int)(x:Int×ByteArray)(W:World)(hB:B<W.heap.size)(hc:W.cell? ⟨B,0,none⟩=some (.int .i64 b)):
  Calls prog 203 (#[.agg #[.int .i64 x.1,.string x.2]]++#[.pointer (some ⟨B,0,none⟩)]) W fun e w'=>e=.returned (.bool (x.1==b))∧Below W.heap.size W w':=by
 obtain⟨n,t⟩:=x;show Calls prog 203 #[.agg #[.int .i64 n,.string t],.pointer (some ⟨B,0,none⟩)] W _;have A0:B≠W.heap.size:=by omega
 go_enter func203,ntmps203;go_wp2;go_ret;exact⟨rfl,zaa _ _⟩
theorem zld(l:List (Int×ByteArray))(b:Int):(zai b l).isSome=l.any fun x=>x.1==b:=by
 induction l with
 |nil=>rfl
 |cons x r ih=>
  rw[zai,List.any_cons];by_cases e:x.1=b
  ·simp[e]
  ·rw[if_neg e,ih,show(x.1==b)=false from by simpa using e];rfl
theorem zly{l:List (Int×ByteArray)}{b:Int}(h:(l.any fun x=>x.1==b)=false):zai b l=none:=by
 have:=zld l b;rw[h]at this
 cases e:zai b l with
 |none=>rfl
 |some t=>rw[e]at this;cases this
theorem zle(a:Option Addr)(c:Nat)(l:List (Int×ByteArray))(b:Int)(w:World)(h:SegW w a l)(hn:l.length≤maxLen):
  Calls prog 171 #[.slice a l.length c,.int .i64 b] w fun e w'=>e=.returned (.tuple #[.string ((zai b l).getD ⟨#[]⟩),.bool (zai b l).isSome])∧Below w.heap.size w w':=by
 have L:=zab h;clear h;go_enter func171,ntmps171;go_wp2_with fail;refine(zu1 (fun x=>x.1==b) 203 #[.pointer (some ⟨w.heap.size,0,none⟩)] (Go.Proofs.enters_of func203 (by kernel_rfl) rfl) a c l _ (L.o.below (zaa _ _)) hn (fun x W hb=>(zwe w.heap.size b x W (by have:=hb.size;simp at this;omega) ((hb.cell (p:=⟨w.heap.size,0,none⟩) (by simp)).trans (by simp[go_sem]))).mono fun _ _ ⟨h1,h2⟩=>⟨h1,hb.trans (h2.mono hb.size)⟩)).mono ?_;rintro e w1 ⟨i,rfl,B,C⟩;have F:=zab (zae (zaa _ _) C);have K:=zab (L.o.below F.o);clear C;rcases B with⟨rfl,B⟩|⟨k,x,rfl,hx,hp,ht⟩
 ·have I:Hid (zai b l=none):=zly B;clear B;go_wp2
  go_ret2
  exact⟨by rw[I.o];rfl,F.o⟩
 ·have D:x.1=b:=by simpa using hp
  have I:Hid (zai b l=some x.2):=z1t hx D (zly ht);have A:k<l.length:=(List.getElem?_eq_some_iff.1 hx).1;obtain⟨b2,A1,rfl,hb,J⟩:=K.o.resolve_left (by intro e;rw[e]at A;simp at A);have M:=(J k A).2;have E:l.getD k (0,ByteArray.empty)=x:=by rw[List.getD,hx];rfl
  rw[E]at M;unfold maxLen at hn;have A0:(k:Int)<(l.length:Int):=by omega
  clear J hx hp ht D E;go_wp2
  go_ret2
  exact⟨by rw[I.o];rfl,F.o⟩
theorem zja(a:Option Addr)(c:Nat)(l:List (Int×ByteArray))(b:Int)(w:World)(h:SegW w a l)(hn:l.length≤maxLen):
  Calls prog 153 #[.slice a l.length c,.int .i64 b] w fun e w'=>e=.returned (.bool (zai b l).isSome)∧Below w.heap.size w w':=by
 go_enter func153,ntmps153;go_wp2_with fail;refine(zle a c l b w h hn).mono ?_;rintro e w1 ⟨rfl,A⟩;go_wp2;go_ret;exact⟨rfl,A⟩
theorem zwn(a:Option Addr)(c:Nat)(l:List Int)(b:Int)(w:World)(h:SegI w a l)(hn:l.length≤maxLen):
  Calls prog 197 #[.slice a l.length c,.int .i64 b] w fun e w'=>∃i:Int,e=.returned (.int .i64 i)∧zs1 (·==b) l i∧w=w':=by
 unfold maxLen at hn;have I:=zab h;clear h;go_enter func197,ntmps197;go_wp2
 go_loop [8] (fun i=>∃k:Nat,k≤l.length∧i=.int .i64 k∧Hid ((l.take k).any (·==b)=false)) (fun i=>l.length - (intOf i).toNat)
 case atStart=>exact⟨0,Nat.zero_le _,rfl,by simp[Hid]⟩
 case round=>
  obtain⟨k,hk,rfl,A⟩:=hrel;by_cases hlt:k<l.length
  ·obtain⟨b2,A1,rfl,hb,D⟩:=I.o.resolve_left (by intro e;rw[e]at hlt;simp at hlt);obtain⟨x,C⟩:∃x,x=l.getD k 0:=⟨_,rfl⟩;have E:=D k hlt;rw[←C]at E;have F:Hid (l[k]?=some x):=by rw[C];exact zcd _ _ _ hlt
   clear C D;have A0:(k:Int)<(l.length:Int):=by omega
   by_cases he:x=b
   ·have B:Hid (zs1 (·==b) l (k:Int)):=.inr ⟨k,x,rfl,F.o,by simpa using he,A.o⟩;subst he;clear A;go_wp2;go_ret;exact⟨_,rfl,B.o,rfl⟩
   ·have J:=zab (zuq F.o (show(x==b)=false by simpa using he) A.o);have A2:¬b=x:=fun e=>he e.symm;clear A;go_wp2
    go_round
    case rel=>exact⟨k+1,by omega,by go_num,J⟩
    case measure=>simp[intOf];omega
  ·have B:Hid (zs1 (·==b) l (-1)):=.inl ⟨rfl,by have:=A.o;rw[List.take_of_length_le (by omega)]at this;exact this⟩;clear A;go_wp2;go_ret;exact⟨_,rfl,B.o,rfl⟩
theorem zc7(a:Option Addr)(c:Nat)(l:List Int)(b:Int)(w:World)(h:SegI w a l)(hn:l.length≤maxLen):
  Calls prog 160 #[.slice a l.length c,.int .i64 b] w fun e w'=>e=.returned (.bool (zay l b))∧w=w':=by
 go_enter func160,ntmps160;go_wp2_with fail;refine(zwn a c l b w h hn).mono ?_;rintro e w1 ⟨i,rfl,A,rfl⟩;have B:Hid (zay l b=decide (0≤i)):=zqe A;clear A;go_wp2;go_ret;exact⟨by rw[B.o];rfl,rfl⟩
theorem zg6(v:Value)(t:Tx)(b:Int)(w:World)(hT:IsTx w v t):
  Calls prog 159 #[v,.int .i64 b] w fun e w'=>e=.returned (.bool (zcq t b))∧Below w.heap.size w w':=by
 obtain⟨a,c,a',c',r,d,rfl,D,K,E,M,n2,I⟩:=hT;have N:=zab D;have O:=zab E;have J:=zab I;clear D K E I;go_enter func159,ntmps159;go_wp2_with fail;refine(zja a c t.info b _ (N.o.below (zaa _ _)) M).mono ?_;rintro e L ⟨rfl,A⟩;have A0:w.heap.size<L.heap.size:=by have:=A.size;simp at this;omega
 obtain⟨⟨_,_,_,x3,_⟩,_⟩:=zaj (z32 A);have C:=zab (zae (zaa _ _) A);have F:=zab (O.o.below C.o);clear A
 cases hi:(zai b t.info).isSome with
 |true=>
  have B:Hid (zcq t b=true):=by rw[Hid,zcq,hi];rfl
  go_wp2;go_ret;exact⟨by rw[B.o];rfl,C.o⟩
 |false=>
  have B:Hid (zcq t b=zay t.rev b):=by rw[Hid,zcq,hi];rfl
  go_wp2_with fail;refine(zc7 r d t.rev b _ F.o J.o).mono ?_;rintro e w2 ⟨rfl,rfl⟩;go_wp2;go_ret;exact⟨by rw[B.o];rfl,C.o⟩
theorem zij(o:Bool)(l:Int)(W:World):
  Calls prog 58 #[.agg #[.bool o,.int .i64 l]] W fun e w'=>e=.returned (.bool o)∧Below W.heap.size W w':=by
 go_enter func58,ntmps58;go_wp2;go_ret;exact⟨rfl,zaa _ _⟩
def z6f (w:World)(B off:Nat)(x0 x1 x2:Hd):Prop:=
 B<w.heap.size∧(w.cell? ⟨B,off,none⟩=some (.bool x0.on)∧w.cell? ⟨B,off+1,none⟩=some (.int .i64 x0.left))∧(w.cell? ⟨B,off+2,none⟩=some (.bool x1.on)∧w.cell? ⟨B,off+3,none⟩=some (.int .i64 x1.left))∧(w.cell? ⟨B,off+4,none⟩=some (.bool x2.on)∧w.cell? ⟨B,off+5,none⟩=some (.int .i64 x2.left))
theorem z2n(B:Nat)(x0 x1 x2:Hd)(w:World)(h:z6f w B 4 x0 x1 x2):
  Calls prog 97 #[.slice (some ⟨B,4,none⟩) 3 3,.func (.func 58) #[] #[]] w fun e w'=>∃i:Int,e=.returned (.int .i64 i)∧(x0.on||x1.on||x2.on)=decide (0≤i)∧Below w.heap.size w w':=by
 obtain⟨O,j⟩:=x0;obtain⟨U,c⟩:=x1;obtain⟨R,b⟩:=x2;obtain⟨E,⟨X,S⟩,⟨L,N⟩,M,K⟩:=h;simp only[Nat.reduceAdd]at X L M S N K;go_enter func97,ntmps97;go_wp2;refine wp_loop_rounds 4 ?_;rw[rounds_succ];go_wp2_with fail;refine(zij O j _).mono ?_;rintro e Y ⟨rfl,A⟩
 cases O with
 |true=>
  go_wp2;go_ret;exact⟨_,rfl,by simp,A⟩
 |false=>
  have c1:=zac A E L;have d:=zac A E N;have c2:=zac A E M;have Q:=zac A E K;have J:B<Y.heap.size:=Nat.lt_of_lt_of_le E A.size;clear X S L N M K;go_wp2;rw[rounds_succ];go_wp2_with fail;refine(zij U c _).mono ?_;rintro e w2 ⟨rfl,D⟩;have C:=zae A D
  cases U with
  |true=>
   go_wp2;go_ret;exact⟨_,rfl,by simp,C⟩
  |false=>
   have Z:=zac D J c2;have a:=zac D J Q;clear c1 d c2 Q A D;go_wp2;rw[rounds_succ];go_wp2_with fail;refine(zij R b _).mono ?_;rintro e w3 ⟨rfl,I⟩;have F:=zae C I;clear Z a C I
   cases R with
   |true=>
    go_wp2;go_ret;exact⟨_,rfl,by simp,F⟩
   |false=>
    go_wp2;rw[rounds_succ];go_wp2;go_ret;exact⟨_,rfl,by simp,F⟩
theorem zo2(B:Nat)(x0 x1 x2:Hd)(w:World)(h:z6f w B 4 x0 x1 x2):
  Calls prog 57 #[.slice (some ⟨B,4,none⟩) 3 3,.func (.func 58) #[] #[]] w fun e w'=>e=.returned (.bool (x0.on||x1.on||x2.on))∧Below w.heap.size w w':=by
 go_enter func57,ntmps57;go_wp2_with fail;refine(z2n B x0 x1 x2 w h).mono ?_;rintro e w1 ⟨i,rfl,A,C⟩;have D:=zab A;clear A;go_wp2;go_ret;exact⟨by rw[D.o];rfl,C⟩
theorem zwo(q:Int)(a:Option Addr)(n c:Nat)(a':Option Addr)(n' c':Nat)(r:Option Addr)(m d:Nat)(y0 y1 y2:Hd)(w:World):
  Calls prog 30 #[.agg #[.int .i64 q,.slice a n c,.slice a' n' c',.slice r m d,.bool y0.on,.int .i64 y0.left,.bool y1.on,.int .i64 y1.left,.bool y2.on,.int .i64 y2.left]] w fun e w'=>e=.returned (.bool (y0.on||y1.on||y2.on))∧Below w.heap.size w w':=by
 go_enter func30,ntmps30;go_wp2_with fail;refine(zo2 w.heap.size y0 y1 y2 _ ⟨by simp,⟨by simp[go_sem],by simp[go_sem]⟩,⟨by simp[go_sem],by simp[go_sem]⟩,by simp[go_sem],by simp[go_sem]⟩).mono ?_;rintro e w1 ⟨rfl,A⟩;go_wp2;go_ret;exact⟨rfl,zae (zaa _ _) A⟩
theorem zqu(v:Value)(t:Tx)(w:World)(hT:IsTx w v t):
  Calls prog 30 #[v] w fun e w'=>e=.returned (.bool (zia t))∧Below w.heap.size w w':=by
 obtain⟨a,c,a',c',r,d,rfl,_,_,_,_,_,_⟩:=hT;exact zwo _ _ _ _ _ _ _ _ _ _ t.h0 t.h1 t.h2 w
