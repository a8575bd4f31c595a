/-
  
-/
import Derived.Test.YtjnpndfpajjihacGreatGrTopWhole22
import Derived.Shelf.Abstract
set_option maxRecDepth 100000
set_option maxHeartbeats 40000000
namespace Go.Proofs.YtjnpndfpajjihacGreat
open Tryz
open Go.RowKit
def zsr {α:Type}(p:α→Bool)(l:List α)(i:Int):Prop:=(i= -1∧l.any p=false)∨∃(k:Nat) (x:α),i=(k:Int)∧l[k]?=some x∧p x=true∧(l.take k).any p=false
theorem zqa {α:Type}{p:α→Bool}{l:List α}{i:Int}(h:zsr p l i):l.any p=decide (0≤i):=by
 rcases h with⟨rfl,h⟩|⟨k,x,rfl,h,hp,_⟩
 ·rw[h];rfl
 ·rw[z3z h hp];simp
theorem zut (p:Int×ByteArray→Bool)(g:Nat)(lb:Array Value)(eg:∀args w,(callFunc g args).run prog w=.ok (.enter g args) w)(a:Option Addr)(c:Nat)(l:List (Int×ByteArray))(w:World)(h:SegW w a l)(hn:l.length≤maxLen)
  (hp:∀(x:Int×ByteArray) (W:World),Below w.heap.size w W→Calls prog g (#[.agg #[.int .i64 x.1,.string x.2]]++lb) W fun e w'=>e=.returned (.bool (p x))∧Below w.heap.size w w'):
  Calls prog 134 #[.slice a l.length c,.func (.func g) #[] lb] w fun e w'=>∃i:Int,e=.returned (.int .i64 i)∧zsr p l i∧Below w.heap.size w w':=by
 unfold maxLen at hn;have N:=zab h;have I:=zab hp;clear h hp;go_enter func134,ntmps134;go_wp2
 go_loopw [8] (fun i wr=>∃k:Nat,k≤l.length∧i=.int .i64 k∧Hid ((l.take k).any p=false)∧Below w.heap.size w wr) (fun i _=>l.length - (intOf i).toNat)
 case atStart=>exact⟨0,Nat.zero_le _,rfl,by simp[Hid],Below.refl _ _⟩
 case round=>
  obtain⟨k,hk,rfl,C,B⟩:=hrel;by_cases hlt:k<l.length
  ·obtain⟨b2,A1,rfl,hb,L⟩:=N.o.resolve_left (by intro e;rw[e] at hlt;simp at hlt);obtain⟨x,J⟩:∃x,x=l.getD k (0,ByteArray.empty):=⟨_,rfl⟩;obtain⟨F,D⟩:=L k hlt;rw[←J] at F D;have M:Hid (l[k]?=some x):=by rw[J];exact zcg _ _ _ hlt
   have g1:=zac B hb F;have g2:=zac B hb D;have A:=I.o x wr B;clear J L F D;obtain⟨n,t⟩:=x;have A0:(k:Int)<(l.length:Int):=by omega
   cases hq:p (n,t) with
   |true=>
    have K:Hid (zsr p l (k:Int)):=.inr ⟨k,(n,t),rfl,M.o,hq,C.o⟩;rw[hq] at A;clear C I;go_wp2_with fail;refine A.mono ?_;rintro e w' ⟨rfl,E⟩;go_wp2;go_ret;exact⟨_,rfl,K.o,E⟩
   |false=>
    have O:=zab (zuh M.o hq C.o);rw[hq] at A;clear C I;go_wp2_with fail;refine A.mono ?_;rintro e w' ⟨rfl,E⟩;go_wp2
    go_roundw
    case rel=>exact⟨k+1,by omega,by go_num,O,E⟩
    case measure=>simp[intOf];omega
  ·have K:Hid (zsr p l (-1)):=.inl ⟨rfl,by have:=C.o;rw[List.take_of_length_le (by omega)] at this;exact this⟩;clear C I;go_wp2;go_ret;exact⟨_,rfl,K.o,B⟩
theorem ziz (p:Int×ByteArray→Bool)(g:Nat)(lb:Array Value)(eg:∀args w,(callFunc g args).run prog w=.ok (.enter g args) w)(a:Option Addr)(c:Nat)(l:List (Int×ByteArray))(w:World)(h:SegW w a l)(hn:l.length≤maxLen)
  (hp:∀(x:Int×ByteArray) (W:World),Below w.heap.size w W→Calls prog g (#[.agg #[.int .i64 x.1,.string x.2]]++lb) W fun e w'=>e=.returned (.bool (p x))∧Below w.heap.size w w'):
  Calls prog 98 #[.slice a l.length c,.func (.func g) #[] lb] w fun e w'=>e=.returned (.bool (l.any p))∧Below w.heap.size w w':=by
 go_enter func98,ntmps98;go_wp2_with fail;refine(zut p g lb eg a c l w h hn hp).mono ?_;rintro e w1 ⟨i,rfl,A,hb⟩;have B:=zab (zqa A);clear A;go_wp2;go_ret;exact⟨by rw[B.o];rfl,hb⟩
theorem zv6 (x:Int×ByteArray)(W:World):
  Calls prog 99 (#[.agg #[.int .i64 x.1,.string x.2]]++#[]) W fun e w'=>e=.returned (.bool (!zbd x.2))∧Below W.heap.size W w':=by
 obtain⟨n,t⟩:=x;show Calls prog 99 #[.agg #[.int .i64 n,.string t]] W _;go_enter func99,ntmps99;go_wp2;go_ret;exact⟨rfl,zaa _ _⟩
theorem zss (l:List (Int×ByteArray)):zb7 l= !l.any fun x=> !zbd x.2:=by
 simp[zb7,List.all_eq_not_any_not]
theorem zuu (a:Option Addr)(c:Nat)(l:List (Int×ByteArray))(w:World)(h:SegW w a l)(hn:l.length≤maxLen):
  Calls prog 60 #[.slice a l.length c] w fun e w'=>e=.returned (.bool (zb7 l))∧Below w.heap.size w w':=by
 rw[zss];go_enter func60,ntmps60;go_wp2_with fail;refine(ziz (fun x=> !zbd x.2) 99 #[] (Go.Proofs.enters_of func99 (by kernel_rfl) rfl) a c l w h hn (fun x W hb=>(zv6 x W).mono fun _ _ ⟨h1,h2⟩=>⟨h1,hb.trans (h2.mono hb.size)⟩)).mono ?_;rintro e w1 ⟨rfl,hb⟩;go_wp2;go_ret;exact⟨rfl,hb⟩
theorem zv7 (B:Nat)(b:Int)(x:Int×ByteArray)(W:World)(hB:B<W.heap.size)(hc:W.cell? ⟨B,0,none⟩=some (.int .i64 b)):
  Calls prog 203 (#[.agg #[.int .i64 x.1,.string x.2]]++#[.pointer (some ⟨B,0,none⟩)]) W fun e w'=>e=.returned (.bool (x.1==b))∧Below W.heap.size W w':=by
 obtain⟨n,t⟩:=x;show Calls prog 203 #[.agg #[.int .i64 n,.string t],.pointer (some ⟨B,0,none⟩)] W _;have A0:B≠W.heap.size:=by omega
 go_enter func203,ntmps203;go_wp2;go_ret;exact⟨rfl,zaa _ _⟩
theorem zk2 (l:List (Int×ByteArray))(b:Int):(zai b l).isSome=l.any fun x=>x.1==b:=by
 induction l with
 |nil=>rfl
 |cons x r ih=>
  rw[zai,List.any_cons];by_cases e:x.1=b
  ·simp[e]
  ·rw[if_neg e,ih,show(x.1==b)=false from by simpa using e];rfl
theorem zlo {l:List (Int×ByteArray)}{b:Int}(h:(l.any fun x=>x.1==b)=false):zai b l=none:=by
 have:=zk2 l b;rw[h] at this
 cases e:zai b l with
 |none=>rfl
 |some t=>rw[e] at this;cases this
theorem zk3 (a:Option Addr)(c:Nat)(l:List (Int×ByteArray))(b:Int)(w:World)(h:SegW w a l)(hn:l.length≤maxLen):
  Calls prog 171 #[.slice a l.length c,.int .i64 b] w fun e w'=>e=.returned (.tuple #[.string ((zai b l).getD ⟨#[]⟩),.bool (zai b l).isSome])∧Below w.heap.size w w':=by
 have K:=zab h;clear h;go_enter func171,ntmps171;go_wp2_with fail;refine(zut (fun x=>x.1==b) 203 #[.pointer (some ⟨w.heap.size,0,none⟩)] (Go.Proofs.enters_of func203 (by kernel_rfl) rfl) a c l _ (K.o.below (zaa _ _)) hn (fun x W hb=>(zv7 w.heap.size b x W (by have:=hb.size;simp at this;omega) ((hb.cell (p:=⟨w.heap.size,0,none⟩) (by simp)).trans (by simp[go_sem]))).mono fun _ _ ⟨h1,h2⟩=>⟨h1,hb.trans (h2.mono hb.size)⟩)).mono ?_;rintro e w1 ⟨i,rfl,B,C⟩;have F:=zab (zae (zaa _ _) C);have L:=zab (K.o.below F.o);clear C;rcases B with⟨rfl,B⟩|⟨k,x,rfl,hx,hp,ht⟩
 ·have I:Hid (zai b l=none):=zlo B;clear B;go_wp2
  go_ret2
  exact⟨by rw[I.o];rfl,F.o⟩
 ·have D:x.1=b:=by simpa using hp
  have I:Hid (zai b l=some x.2):=z1p hx D (zlo ht);have A:k<l.length:=(List.getElem?_eq_some_iff.1 hx).1;obtain⟨b2,A1,rfl,hb,J⟩:=L.o.resolve_left (by intro e;rw[e] at A;simp at A);have M:=(J k A).2;have E:l.getD k (0,ByteArray.empty)=x:=by rw[List.getD,hx];rfl
  rw[E] at M;unfold maxLen at hn;have A0:(k:Int)<(l.length:Int):=by omega
  clear J hx hp ht D E;go_wp2
  go_ret2
  exact⟨by rw[I.o];rfl,F.o⟩
open Go.RowKit
theorem zi3 (a:Option Addr)(c:Nat)(l:List (Int×ByteArray))(b:Int)(w:World)(h:SegW w a l)(hn:l.length≤maxLen):
  Calls prog 153 #[.slice a l.length c,.int .i64 b] w fun e w'=>e=.returned (.bool (zai b l).isSome)∧Below w.heap.size w w':=by
 go_enter func153,ntmps153;go_wp2_with fail;refine(zk3 a c l b w h hn).mono ?_;rintro e w1 ⟨rfl,A⟩;go_wp2;go_ret;exact⟨rfl,A⟩
theorem zwg (a:Option Addr)(c:Nat)(l:List Int)(b:Int)(w:World)(h:SegI w a l)(hn:l.length≤maxLen):
  Calls prog 197 #[.slice a l.length c,.int .i64 b] w fun e w'=>∃i:Int,e=.returned (.int .i64 i)∧zsr (·==b) l i∧w=w':=by
 unfold maxLen at hn;have I:=zab h;clear h;go_enter func197,ntmps197;go_wp2
 go_loop [8] (fun i=>∃k:Nat,k≤l.length∧i=.int .i64 k∧Hid ((l.take k).any (·==b)=false)) (fun i=>l.length - (intOf i).toNat)
 case atStart=>exact⟨0,Nat.zero_le _,rfl,by simp[Hid]⟩
 case round=>
  obtain⟨k,hk,rfl,A⟩:=hrel;by_cases hlt:k<l.length
  ·obtain⟨b2,A1,rfl,hb,F⟩:=I.o.resolve_left (by intro e;rw[e] at hlt;simp at hlt);obtain⟨x,B⟩:∃x,x=l.getD k 0:=⟨_,rfl⟩;have E:=F k hlt;rw[←B] at E;have D:Hid (l[k]?=some x):=by rw[B];exact zcg _ _ _ hlt
   clear B F;have A0:(k:Int)<(l.length:Int):=by omega
   by_cases he:x=b
   ·have C:Hid (zsr (·==b) l (k:Int)):=.inr ⟨k,x,rfl,D.o,by simpa using he,A.o⟩;subst he;clear A;go_wp2;go_ret;exact⟨_,rfl,C.o,rfl⟩
   ·have J:=zab (zuh D.o (show(x==b)=false by simpa using he) A.o);have A2:¬b=x:=fun e=>he e.symm;clear A;go_wp2
    go_round
    case rel=>exact⟨k+1,by omega,by go_num,J⟩
    case measure=>simp[intOf];omega
  ·have C:Hid (zsr (·==b) l (-1)):=.inl ⟨rfl,by have:=A.o;rw[List.take_of_length_le (by omega)] at this;exact this⟩;clear A;go_wp2;go_ret;exact⟨_,rfl,C.o,rfl⟩
theorem zc4 (a:Option Addr)(c:Nat)(l:List Int)(b:Int)(w:World)(h:SegI w a l)(hn:l.length≤maxLen):
  Calls prog 160 #[.slice a l.length c,.int .i64 b] w fun e w'=>e=.returned (.bool (zaw l b))∧w=w':=by
 go_enter func160,ntmps160;go_wp2_with fail;refine(zwg a c l b w h hn).mono ?_;rintro e w1 ⟨i,rfl,A,rfl⟩;have B:Hid (zaw l b=decide (0≤i)):=zqa A;clear A;go_wp2;go_ret;exact⟨by rw[B.o];rfl,rfl⟩
open Go.RowKit
theorem zgz (v:Value)(t:Tx)(b:Int)(w:World)(hT:IsTx w v t):
  Calls prog 159 #[v,.int .i64 b] w fun e w'=>e=.returned (.bool (zcq t b))∧Below w.heap.size w w':=by
 obtain⟨a,c,a',c',r,d,rfl,I,J,F,K,n2,E⟩:=hT;have N:=zab I;have M:=zab F;have O:=zab E;clear I J F E;go_enter func159,ntmps159;go_wp2_with fail;refine(zi3 a c t.info b _ (N.o.below (zaa _ _)) K).mono ?_;rintro e L ⟨rfl,A⟩;have A0:w.heap.size<L.heap.size:=by have:=A.size;simp at this;omega
 obtain⟨⟨_,_,_,x3,_⟩,_⟩:=zaj (z30 A);have C:=zab (zae (zaa _ _) A);have D:=zab (M.o.below C.o);clear A
 cases hi:(zai b t.info).isSome with
 |true=>
  have B:Hid (zcq t b=true):=by rw[Hid,zcq,hi];rfl
  go_wp2;go_ret;exact⟨by rw[B.o];rfl,C.o⟩
 |false=>
  have B:Hid (zcq t b=zaw t.rev b):=by rw[Hid,zcq,hi];rfl
  go_wp2_with fail;refine(zc4 r d t.rev b _ D.o O.o).mono ?_;rintro e w2 ⟨rfl,rfl⟩;go_wp2;go_ret;exact⟨by rw[B.o];rfl,C.o⟩
theorem zif (o:Bool)(l:Int)(W:World):
  Calls prog 58 #[.agg #[.bool o,.int .i64 l]] W fun e w'=>e=.returned (.bool o)∧Below W.heap.size W w':=by
 go_enter func58,ntmps58;go_wp2;go_ret;exact⟨rfl,zaa _ _⟩
def z6l (w:World)(B off:Nat)(x0 x1 x2:Hd):Prop:=
 B<w.heap.size∧(w.cell? ⟨B,off,none⟩=some (.bool x0.on)∧w.cell? ⟨B,off+1,none⟩=some (.int .i64 x0.left))∧(w.cell? ⟨B,off+2,none⟩=some (.bool x1.on)∧w.cell? ⟨B,off+3,none⟩=some (.int .i64 x1.left))∧(w.cell? ⟨B,off+4,none⟩=some (.bool x2.on)∧w.cell? ⟨B,off+5,none⟩=some (.int .i64 x2.left))
theorem z2m (B:Nat)(x0 x1 x2:Hd)(w:World)(h:z6l w B 4 x0 x1 x2):
  Calls prog 97 #[.slice (some ⟨B,4,none⟩) 3 3,.func (.func 58) #[] #[]] w fun e w'=>∃i:Int,e=.returned (.int .i64 i)∧(x0.on||x1.on||x2.on)=decide (0≤i)∧Below w.heap.size w w':=by
 obtain⟨U,j⟩:=x0;obtain⟨O,c⟩:=x1;obtain⟨R,b⟩:=x2;obtain⟨F,⟨S,X⟩,⟨N,M⟩,K,L⟩:=h;simp only[Nat.reduceAdd] at S N K X M L;go_enter func97,ntmps97;go_wp2;refine wp_loop_rounds 4 ?_;rw[rounds_succ];go_wp2_with fail;refine(zif U j _).mono ?_;rintro e a ⟨rfl,A⟩
 cases U with
 |true=>
  go_wp2;go_ret;exact⟨_,rfl,by simp,A⟩
 |false=>
  have c1:=zac A F N;have Y:=zac A F M;have c2:=zac A F K;have Q:=zac A F L;have I:B<a.heap.size:=Nat.lt_of_lt_of_le F A.size;clear S X N M K L;go_wp2;rw[rounds_succ];go_wp2_with fail;refine(zif O c _).mono ?_;rintro e w2 ⟨rfl,D⟩;have C:=zae A D
  cases O with
  |true=>
   go_wp2;go_ret;exact⟨_,rfl,by simp,C⟩
  |false=>
   have d:=zac D I c2;have Z:=zac D I Q;clear c1 Y c2 Q A D;go_wp2;rw[rounds_succ];go_wp2_with fail;refine(zif R b _).mono ?_;rintro e w3 ⟨rfl,J⟩;have E:=zae C J;clear d Z C J
   cases R with
   |true=>
    go_wp2;go_ret;exact⟨_,rfl,by simp,E⟩
   |false=>
    go_wp2;rw[rounds_succ];go_wp2;go_ret;exact⟨_,rfl,by simp,E⟩
theorem zou (B:Nat)(x0 x1 x2:Hd)(w:World)(h:z6l w B 4 x0 x1 x2):
  Calls prog 57 #[.slice (some ⟨B,4,none⟩) 3 3,.func (.func 58) #[] #[]] w fun e w'=>e=.returned (.bool (x0.on||x1.on||x2.on))∧Below w.heap.size w w':=by
 go_enter func57,ntmps57;go_wp2_with fail;refine(z2m B x0 x1 x2 w h).mono ?_;rintro e w1 ⟨i,rfl,C,A⟩;have D:=zab C;clear C;go_wp2;go_ret;exact⟨by rw[D.o];rfl,A⟩
theorem zwh (q:Int)(a:Option Addr)(n c:Nat)(a':Option Addr)(n' c':Nat)(r:Option Addr)(m d:Nat)(y0 y1 y2:Hd)(w:World):
  Calls prog 30 #[.agg #[.int .i64 q,.slice a n c,.slice a' n' c',.slice r m d,.bool y0.on,.int .i64 y0.left,.bool y1.on,.int .i64 y1.left,.bool y2.on,.int .i64 y2.left]] w fun e w'=>e=.returned (.bool (y0.on||y1.on||y2.on))∧Below w.heap.size w w':=by
 go_enter func30,ntmps30;go_wp2_with fail;refine(zou w.heap.size y0 y1 y2 _ ⟨by simp,⟨by simp[go_sem],by simp[go_sem]⟩,⟨by simp[go_sem],by simp[go_sem]⟩,by simp[go_sem],by simp[go_sem]⟩).mono ?_;rintro e w1 ⟨rfl,A⟩;go_wp2;go_ret;exact⟨rfl,zae (zaa _ _) A⟩
theorem zqq (v:Value)(t:Tx)(w:World)(hT:IsTx w v t):
  Calls prog 30 #[v] w fun e w'=>e=.returned (.bool (zh6 t))∧Below w.heap.size w w':=by
 obtain⟨a,c,a',c',r,d,rfl,_,_,_,_,_,_⟩:=hT;exact zwh _ _ _ _ _ _ _ _ _ _ t.h0 t.h1 t.h2 w
end Go.Proofs.YtjnpndfpajjihacGreat

