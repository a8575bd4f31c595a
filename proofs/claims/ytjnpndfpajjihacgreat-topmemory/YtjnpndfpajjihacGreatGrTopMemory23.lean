/-
  
-/
import Derived.Test.YtjnpndfpajjihacGreatGrTopMemory22
import Derived.Shelf.Abstract
set_option maxRecDepth 100000
set_option maxHeartbeats 40000000
namespace Go.Proofs.YtjnpndfpajjihacGreat
open Go.RowKit
def zse {α:Type}(p:α→Bool)(l:List α)(i:Int):Prop:=(i= -1∧l.any p=false)∨∃(k:Nat) (x:α),i=(k:Int)∧l[k]?=some x∧p x=true∧(l.take k).any p=false
theorem zpq {α:Type}{p:α→Bool}{l:List α}{i:Int}(h:zse p l i):l.any p=decide (0≤i):=by
 rcases h with⟨rfl,h⟩|⟨k,x,rfl,h,hp,_⟩
 ·rw[h];rfl
 ·rw[z2z h hp];simp
theorem zuc (p:Int×ByteArray→Bool)(g:Nat)(lb:Array Value)(eg:∀args w,(callFunc g args).run Tryz.prog w=.ok (.enter g args) w)(a:Option Addr)(c:Nat)(l:List (Int×ByteArray))(w:World)(h:SegW w a l)(hn:l.length≤maxLen)
  (hp:∀(x:Int×ByteArray) (W:World),Below w.heap.size w W→Calls Tryz.prog g (#[.agg #[.int .i64 x.1,.string x.2]]++lb) W fun e w'=>e=.returned (.bool (p x))∧Below w.heap.size w w'):
  Calls Tryz.prog 134 #[.slice a l.length c,.func (.func g) #[] lb] w fun e w'=>∃i:Int,e=.returned (.int .i64 i)∧zse p l i∧Below w.heap.size w w':=by
 unfold maxLen at hn;have HS:=zaa h;have HP:=zaa hp;clear h hp;go_enter Tryz.func134,Tryz.ntmps134;go_wp2
 go_loopw [8] (fun i wr=>∃k:Nat,k≤l.length∧i=.int .i64 k∧Hid ((l.take k).any p=false)∧Below w.heap.size w wr) (fun i _=>l.length - (intOf i).toNat)
 case atStart=>exact⟨0,Nat.zero_le _,rfl,by simp[Hid],Below.refl _ _⟩
 case round=>
  obtain⟨k,hk,rfl,hr,hbr⟩:=hrel;by_cases hlt:k<l.length
  ·obtain⟨b2,off,rfl,hb,hc⟩:=HS.o.resolve_left (by intro e;rw[e] at hlt;simp at hlt)
   obtain⟨x,hx⟩:∃x,x=l.getD k (0,ByteArray.empty):=⟨_,rfl⟩;obtain⟨hc1,hc2⟩:=hc k hlt;rw[←hx] at hc1 hc2;have HX:Hid (l[k]?=some x):=by rw[hx];exact zcb _ _ _ hlt
   have g1:=zac hbr hb hc1;have g2:=zac hbr hb hc2;have hcall:=HP.o x wr hbr;clear hx hc hc1 hc2;obtain⟨n,t⟩:=x;have hlt':(k:Int)<(l.length:Int):=by omega
   cases hq:p (n,t) with
   |true=>
    have HF:Hid (zse p l (k:Int)):=.inr ⟨k,(n,t),rfl,HX.o,hq,hr.o⟩;rw[hq] at hcall;clear hr HP;go_wp2_with fail;refine hcall.mono ?_;rintro e w' ⟨rfl,hb'⟩;go_wp2;go_ret;exact⟨_,rfl,HF.o,hb'⟩
   |false=>
    have HR:=zaa (zt1 HX.o hq hr.o);rw[hq] at hcall;clear hr HP;go_wp2_with fail;refine hcall.mono ?_;rintro e w' ⟨rfl,hb'⟩;go_wp2
    go_roundw
    case rel=>exact⟨k+1,by omega,by go_num,HR,hb'⟩
    case measure=>simp[intOf];omega
  ·have HF:Hid (zse p l (-1)):=.inl ⟨rfl,by have:=hr.o;rw[List.take_of_length_le (by omega)] at this;exact this⟩
   clear hr HP;go_wp2;go_ret;exact⟨_,rfl,HF.o,hbr⟩
theorem zit (p:Int×ByteArray→Bool)(g:Nat)(lb:Array Value)(eg:∀args w,(callFunc g args).run Tryz.prog w=.ok (.enter g args) w)(a:Option Addr)(c:Nat)(l:List (Int×ByteArray))(w:World)(h:SegW w a l)(hn:l.length≤maxLen)
  (hp:∀(x:Int×ByteArray) (W:World),Below w.heap.size w W→Calls Tryz.prog g (#[.agg #[.int .i64 x.1,.string x.2]]++lb) W fun e w'=>e=.returned (.bool (p x))∧Below w.heap.size w w'):
  Calls Tryz.prog 98 #[.slice a l.length c,.func (.func g) #[] lb] w fun e w'=>e=.returned (.bool (l.any p))∧Below w.heap.size w w':=by
 go_enter Tryz.func98,Tryz.ntmps98;go_wp2_with fail;refine(zuc p g lb eg a c l w h hn hp).mono ?_;rintro e w1 ⟨i,rfl,hf,hb⟩;have HF:=zaa (zpq hf);clear hf;go_wp2;go_ret;exact⟨by rw[HF.o];rfl,hb⟩
theorem zvj (x:Int×ByteArray)(W:World):
  Calls Tryz.prog 99 (#[.agg #[.int .i64 x.1,.string x.2]]++#[]) W fun e w'=>e=.returned (.bool (!za9 x.2))∧Below W.heap.size W w':=by
 obtain⟨n,t⟩:=x;show Calls Tryz.prog 99 #[.agg #[.int .i64 n,.string t]] W _;go_enter Tryz.func99,Tryz.ntmps99;go_wp2;go_ret;exact⟨rfl,zab _ _⟩
theorem zsf (l:List (Int×ByteArray)):zb4 l= !l.any fun x=> !za9 x.2:=by
 simp[zb4,List.all_eq_not_any_not]
theorem zud (a:Option Addr)(c:Nat)(l:List (Int×ByteArray))(w:World)(h:SegW w a l)(hn:l.length≤maxLen):
  Calls Tryz.prog 60 #[.slice a l.length c] w fun e w'=>e=.returned (.bool (zb4 l))∧Below w.heap.size w w':=by
 rw[zsf];go_enter Tryz.func60,Tryz.ntmps60;go_wp2_with fail;refine(zit (fun x=> !za9 x.2) 99 #[] (Go.Proofs.enters_of Tryz.func99 (by kernel_rfl) rfl) a c l w h hn (fun x W hb=>(zvj x W).mono fun _ _ ⟨h1,h2⟩=>⟨h1,hb.trans (h2.mono hb.size)⟩)).mono ?_;rintro e w1 ⟨rfl,hb⟩;go_wp2;go_ret;exact⟨rfl,hb⟩
theorem zvk (B:Nat)(b:Int)(x:Int×ByteArray)(W:World)(hB:B<W.heap.size)(hc:W.cell? ⟨B,0,none⟩=some (.int .i64 b)):
  Calls Tryz.prog 203 (#[.agg #[.int .i64 x.1,.string x.2]]++#[.pointer (some ⟨B,0,none⟩)]) W fun e w'=>e=.returned (.bool (x.1==b))∧Below W.heap.size W w':=by
 obtain⟨n,t⟩:=x;show Calls Tryz.prog 203 #[.agg #[.int .i64 n,.string t],.pointer (some ⟨B,0,none⟩)] W _;have hne:B≠W.heap.size:=by omega
 go_enter Tryz.func203,Tryz.ntmps203;go_wp2;go_ret;exact⟨rfl,zab _ _⟩
theorem zku (l:List (Int×ByteArray))(b:Int):(zas b l).isSome=l.any fun x=>x.1==b:=by
 induction l with
 |nil=>rfl
 |cons x r ih=>
  rw[zas,List.any_cons];by_cases e:x.1=b
  ·simp[e]
  ·rw[if_neg e,ih,show(x.1==b)=false from by simpa using e];rfl
theorem zpr {l:List (Int×ByteArray)}{b:Int}(h:(l.any fun x=>x.1==b)=false):zas b l=none:=by
 have:=zku l b;rw[h] at this
 cases e:zas b l with
 |none=>rfl
 |some t=>rw[e] at this;cases this
theorem zkv (a:Option Addr)(c:Nat)(l:List (Int×ByteArray))(b:Int)(w:World)(h:SegW w a l)(hn:l.length≤maxLen):
  Calls Tryz.prog 171 #[.slice a l.length c,.int .i64 b] w fun e w'=>e=.returned (.tuple #[.string ((zas b l).getD ⟨#[]⟩),.bool (zas b l).isSome])∧Below w.heap.size w w':=by
 have HS:=zaa h;clear h;go_enter Tryz.func171,Tryz.ntmps171;go_wp2_with fail;refine(zuc (fun x=>x.1==b) 203 #[.pointer (some ⟨w.heap.size,0,none⟩)] (Go.Proofs.enters_of Tryz.func203 (by kernel_rfl) rfl) a c l _ (HS.o.below (zab _ _)) hn (fun x W hb=>(zvk w.heap.size b x W (by have:=hb.size;simp at this;omega) ((hb.cell (p:=⟨w.heap.size,0,none⟩) (by simp)).trans (by simp[go_sem]))).mono fun _ _ ⟨h1,h2⟩=>⟨h1,hb.trans (h2.mono hb.size)⟩)).mono ?_;rintro e w1 ⟨i,rfl,hf,hb1⟩;have HB:=zaa (zae (zab _ _) hb1);have HS1:=zaa (HS.o.below HB.o);clear hb1;rcases hf with⟨rfl,hf⟩|⟨k,x,rfl,hx,hp,ht⟩
 ·have HT:Hid (zas b l=none):=zpr hf
  clear hf;go_wp2
  go_ret2
  exact⟨by rw[HT.o];rfl,HB.o⟩
 ·have hp':x.1=b:=by simpa using hp
  have HT:Hid (zas b l=some x.2):=z0q hx hp' (zpr ht);have hlt:k<l.length:=(List.getElem?_eq_some_iff.1 hx).1;obtain⟨b2,off,rfl,hb,hc⟩:=HS1.o.resolve_left (by intro e;rw[e] at hlt;simp at hlt);have hg:=(hc k hlt).2;have hxx:l.getD k (0,ByteArray.empty)=x:=by rw[List.getD,hx];rfl
  rw[hxx] at hg;unfold maxLen at hn;have hlt':(k:Int)<(l.length:Int):=by omega
  clear hc hx hp ht hp' hxx;go_wp2
  go_ret2
  exact⟨by rw[HT.o];rfl,HB.o⟩
theorem zix (a:Option Addr)(c:Nat)(l:List (Int×ByteArray))(b:Int)(w:World)(h:SegW w a l)(hn:l.length≤maxLen):
  Calls Tryz.prog 153 #[.slice a l.length c,.int .i64 b] w fun e w'=>e=.returned (.bool (zas b l).isSome)∧Below w.heap.size w w':=by
 go_enter Tryz.func153,Tryz.ntmps153;go_wp2_with fail;refine(zkv a c l b w h hn).mono ?_;rintro e w1 ⟨rfl,hb1⟩;go_wp2;go_ret;exact⟨rfl,hb1⟩
theorem zvt (a:Option Addr)(c:Nat)(l:List Int)(b:Int)(w:World)(h:SegI w a l)(hn:l.length≤maxLen):
  Calls Tryz.prog 197 #[.slice a l.length c,.int .i64 b] w fun e w'=>∃i:Int,e=.returned (.int .i64 i)∧zse (·==b) l i∧w=w':=by
 unfold maxLen at hn;have HS:=zaa h;clear h;go_enter Tryz.func197,Tryz.ntmps197;go_wp2
 go_loop [8] (fun i=>∃k:Nat,k≤l.length∧i=.int .i64 k∧Hid ((l.take k).any (·==b)=false)) (fun i=>l.length - (intOf i).toNat)
 case atStart=>exact⟨0,Nat.zero_le _,rfl,by simp[Hid]⟩
 case round=>
  obtain⟨k,hk,rfl,hr⟩:=hrel;by_cases hlt:k<l.length
  ·obtain⟨b2,off,rfl,hb,hc⟩:=HS.o.resolve_left (by intro e;rw[e] at hlt;simp at hlt)
   obtain⟨x,hx⟩:∃x,x=l.getD k 0:=⟨_,rfl⟩;have hck:=hc k hlt;rw[←hx] at hck;have HX:Hid (l[k]?=some x):=by rw[hx];exact zcb _ _ _ hlt
   clear hx hc;have hlt':(k:Int)<(l.length:Int):=by omega
   by_cases he:x=b
   ·have HF:Hid (zse (·==b) l (k:Int)):=.inr ⟨k,x,rfl,HX.o,by simpa using he,hr.o⟩
    subst he;clear hr;go_wp2;go_ret;exact⟨_,rfl,HF.o,rfl⟩
   ·have HR:=zaa (zt1 HX.o (show(x==b)=false by simpa using he) hr.o)
    have he':¬b=x:=fun e=>he e.symm;clear hr;go_wp2
    go_round
    case rel=>exact⟨k+1,by omega,by go_num,HR⟩
    case measure=>simp[intOf];omega
  ·have HF:Hid (zse (·==b) l (-1)):=.inl ⟨rfl,by have:=hr.o;rw[List.take_of_length_le (by omega)] at this;exact this⟩
   clear hr;go_wp2;go_ret;exact⟨_,rfl,HF.o,rfl⟩
theorem zcz (a:Option Addr)(c:Nat)(l:List Int)(b:Int)(w:World)(h:SegI w a l)(hn:l.length≤maxLen):
  Calls Tryz.prog 160 #[.slice a l.length c,.int .i64 b] w fun e w'=>e=.returned (.bool (zbm l b))∧w=w':=by
 go_enter Tryz.func160,Tryz.ntmps160;go_wp2_with fail;refine(zvt a c l b w h hn).mono ?_;rintro e w1 ⟨i,rfl,hf,rfl⟩;have HF:Hid (zbm l b=decide (0≤i)):=zpq hf;clear hf;go_wp2;go_ret;exact⟨by rw[HF.o];rfl,rfl⟩
theorem zgq (v:Value)(t:Tx)(b:Int)(w:World)(hT:IsTx w v t):
  Calls Tryz.prog 159 #[v,.int .i64 b] w fun e w'=>e=.returned (.bool (zcm t b))∧Below w.heap.size w w':=by
 obtain⟨a,c,a',c',r,d,rfl,hM,hD,hR,n1,n2,n3⟩:=hT;have HM:=zaa hM;have HR:=zaa hR;have N3:=zaa n3;clear hM hD hR n3;go_enter Tryz.func159,Tryz.ntmps159;go_wp2_with fail;refine(zix a c t.info b _ (HM.o.below (zab _ _)) n1).mono ?_;rintro e w1 ⟨rfl,hb1⟩;have hs1:w.heap.size<w1.heap.size:=by have:=hb1.size;simp at this;omega
 obtain⟨⟨_,_,_,x3,_⟩,_⟩:=zai (z2j hb1);have HB:=zaa (zae (zab _ _) hb1);have HR1:=zaa (HR.o.below HB.o);clear hb1
 cases hi:(zas b t.info).isSome with
 |true=>
  have HN:Hid (zcm t b=true):=by rw[Hid,zcm,hi];rfl
  go_wp2;go_ret;exact⟨by rw[HN.o];rfl,HB.o⟩
 |false=>
  have HN:Hid (zcm t b=zbm t.rev b):=by rw[Hid,zcm,hi];rfl
  go_wp2_with fail;refine(zcz r d t.rev b _ HR1.o N3.o).mono ?_;rintro e w2 ⟨rfl,rfl⟩;go_wp2;go_ret;exact⟨by rw[HN.o];rfl,HB.o⟩
theorem zh8 (o:Bool)(l:Int)(W:World):
  Calls Tryz.prog 58 #[.agg #[.bool o,.int .i64 l]] W fun e w'=>e=.returned (.bool o)∧Below W.heap.size W w':=by
 go_enter Tryz.func58,Tryz.ntmps58;go_wp2;go_ret;exact⟨rfl,zab _ _⟩
def z5a (w:World)(B off:Nat)(x0 x1 x2:Hd):Prop:=
 B<w.heap.size∧(w.cell? ⟨B,off,none⟩=some (.bool x0.on)∧w.cell? ⟨B,off+1,none⟩=some (.int .i64 x0.left))∧(w.cell? ⟨B,off+2,none⟩=some (.bool x1.on)∧w.cell? ⟨B,off+3,none⟩=some (.int .i64 x1.left))∧(w.cell? ⟨B,off+4,none⟩=some (.bool x2.on)∧w.cell? ⟨B,off+5,none⟩=some (.int .i64 x2.left))
theorem z1k (B:Nat)(x0 x1 x2:Hd)(w:World)(h:z5a w B 4 x0 x1 x2):
  Calls Tryz.prog 97 #[.slice (some ⟨B,4,none⟩) 3 3,.func (.func 58) #[] #[]] w fun e w'=>∃i:Int,e=.returned (.int .i64 i)∧(x0.on||x1.on||x2.on)=decide (0≤i)∧Below w.heap.size w w':=by
 obtain⟨o0,l0⟩:=x0;obtain⟨o1,l1⟩:=x1;obtain⟨o2,l2⟩:=x2;obtain⟨hB,⟨a0,b0⟩,⟨a1,b1⟩,a2,b2⟩:=h;simp only[Nat.reduceAdd] at a0 a1 a2 b0 b1 b2;go_enter Tryz.func97,Tryz.ntmps97;go_wp2;refine wp_loop_rounds 4 ?_;rw[rounds_succ];go_wp2_with fail;refine(zh8 o0 l0 _).mono ?_;rintro e w1 ⟨rfl,hb1⟩
 cases o0 with
 |true=>
  go_wp2;go_ret;exact⟨_,rfl,by simp,hb1⟩
 |false=>
  have c1:=zac hb1 hB a1;have d1:=zac hb1 hB b1;have c2:=zac hb1 hB a2;have d2:=zac hb1 hB b2;have hB1:B<w1.heap.size:=Nat.lt_of_lt_of_le hB hb1.size;clear a0 b0 a1 b1 a2 b2;go_wp2;rw[rounds_succ];go_wp2_with fail;refine(zh8 o1 l1 _).mono ?_;rintro e w2 ⟨rfl,hb2⟩;have hb12:=zae hb1 hb2
  cases o1 with
  |true=>
   go_wp2;go_ret;exact⟨_,rfl,by simp,hb12⟩
  |false=>
   have e2:=zac hb2 hB1 c2;have f2:=zac hb2 hB1 d2;clear c1 d1 c2 d2 hb1 hb2;go_wp2;rw[rounds_succ];go_wp2_with fail;refine(zh8 o2 l2 _).mono ?_;rintro e w3 ⟨rfl,hb3⟩;have hb13:=zae hb12 hb3;clear e2 f2 hb12 hb3
   cases o2 with
   |true=>
    go_wp2;go_ret;exact⟨_,rfl,by simp,hb13⟩
   |false=>
    go_wp2;rw[rounds_succ];go_wp2;go_ret;exact⟨_,rfl,by simp,hb13⟩
theorem zoj (B:Nat)(x0 x1 x2:Hd)(w:World)(h:z5a w B 4 x0 x1 x2):
  Calls Tryz.prog 57 #[.slice (some ⟨B,4,none⟩) 3 3,.func (.func 58) #[] #[]] w fun e w'=>e=.returned (.bool (x0.on||x1.on||x2.on))∧Below w.heap.size w w':=by
 go_enter Tryz.func57,Tryz.ntmps57;go_wp2_with fail;refine(z1k B x0 x1 x2 w h).mono ?_;rintro e w1 ⟨i,rfl,hi,hb1⟩;have HI:=zaa hi;clear hi;go_wp2;go_ret;exact⟨by rw[HI.o];rfl,hb1⟩
theorem zvu (q:Int)(a:Option Addr)(n c:Nat)(a':Option Addr)(n' c':Nat)(r:Option Addr)(m d:Nat)(y0 y1 y2:Hd)(w:World):
  Calls Tryz.prog 30 #[.agg #[.int .i64 q,.slice a n c,.slice a' n' c',.slice r m d,.bool y0.on,.int .i64 y0.left,.bool y1.on,.int .i64 y1.left,.bool y2.on,.int .i64 y2.left]] w fun e w'=>e=.returned (.bool (y0.on||y1.on||y2.on))∧Below w.heap.size w w':=by
 go_enter Tryz.func30,Tryz.ntmps30;go_wp2_with fail;refine(zoj w.heap.size y0 y1 y2 _ ⟨by simp,⟨by simp[go_sem],by simp[go_sem]⟩,⟨by simp[go_sem],by simp[go_sem]⟩,by simp[go_sem],by simp[go_sem]⟩).mono ?_;rintro e w1 ⟨rfl,hb1⟩;go_wp2;go_ret;exact⟨rfl,zae (zab _ _) hb1⟩
theorem zp7 (v:Value)(t:Tx)(w:World)(hT:IsTx w v t):
  Calls Tryz.prog 30 #[v] w fun e w'=>e=.returned (.bool (zhx t))∧Below w.heap.size w w':=by
 obtain⟨a,c,a',c',r,d,rfl,_,_,_,_,_,_⟩:=hT;exact zvu _ _ _ _ _ _ _ _ _ _ t.h0 t.h1 t.h2 w
end Go.Proofs.YtjnpndfpajjihacGreat

