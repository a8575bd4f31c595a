/-
  
-/
import Derived.Test.YtjnpndfpajjihacGreatGrTopWhole31
import Derived.Test.YtjnpndfpajjihacGreatGrTopWhole37
import Derived.Test.YtjnpndfpajjihacGreatGrTopWhole16
set_option maxRecDepth 100000
set_option maxHeartbeats 40000000
namespace Go.Proofs.YtjnpndfpajjihacGreat
open Go.RowKit
theorem zu3 (n:Int)(h: -9223372036854775808≤n∧n≤9223372036854775807):wrap64 n=n:=by unfold wrap64;omega
theorem zlz {t:Tx}(h:za8 t=true)(k:Int):hdB (zeq t k)=true:=by
 have:=((za6 t).1 h).2.2.2.2;unfold zeq;split
 ·exact this.1
 ·split
  ·exact this.2.1
  ·exact this.2.2
theorem zc6 {t:Tx}(h:za8 t=true):zb2 t=(t.info.length:Int)+(t.rev.length:Int)+t.h0.left+t.h1.left+t.h2.left∧0≤zb2 t∧zb2 t≤96:=by
 have hs:=za1 h;have A:=((za6 t).1 h).2.2.2.2;have a0:=(zep _).1 A.1;have a1:=(zep _).1 A.2.1;have a2:=(zep _).1 A.2.2
 have e:zb2 t=(t.info.length:Int)+(t.rev.length:Int)+t.h0.left+t.h1.left+t.h2.left:=by
  unfold zb2;rw[zu3 ((t.info.length:Int)+(t.rev.length:Int)) (by omega),zu3 ((t.info.length:Int)+(t.rev.length:Int)+t.h0.left) (by omega),zu3 ((t.info.length:Int)+(t.rev.length:Int)+t.h0.left+t.h1.left) (by omega),zu3 _ (by omega)]
 rw[e];omega
theorem zcj (v:Value)(t:Tx)(h b:Int)(w:World)(hT:IsTx w v t)(r1:t.info.length*24≤140737488355328)(r2:t.data.length*24≤140737488355328):
  Calls Tryz.prog 152 #[v,.int .i64 h,.int .i64 b] w fun e w'=>e=.returned (.int .i64 (reachE t h b))∧Below w.heap.size w w':=by
 have K:=zab hT;obtain⟨a,c,a',c',r,d,rfl,S,L,l,M,Y,Z⟩:=hT;clear S L l M Y Z;go_enter Tryz.func152,Tryz.ntmps152;go_wp2_with fail;refine(zb8 _ t _ (K.o.below (zaa _ _)) r1 r2).mono ?_;rintro e U ⟨rfl,C⟩;have A0:w.heap.size<U.heap.size:=by have:=C.size;simp at this;omega
 obtain⟨⟨O,k,N,Q,R,j,X,n,m,i⟩,_⟩:=zaj (z30 C);have I:=zab (zae (zaa _ _) C);clear C
 cases hg:za8 t with
 |false=>
  have A:Hid (reachE t h b=2):=by rw[Hid,reachE,if_pos hg]
  go_wp2;go_ret;exact⟨by rw[A.o];rfl,I.o⟩
 |true=>
  have J:=zab hg;go_wp2_with fail;refine(zja _ t h _ (K.o.below I.o)).mono ?_;rintro e w2 ⟨rfl,F⟩;have D:=zab (zae I.o F);clear F O k N Q R j X n m i hg
  cases ho:onB t h with
  |false=>
   have A:Hid (reachE t h b=4):=by
    rw[Hid,reachE,if_neg (by rw[J.o];simp),if_pos];rw[onB] at ho;by_cases E:0≤h∧h≤2
    ·rw[zbg.2 E,Bool.true_and] at ho;exact .inr (.inr (.inl ho))
    ·omega
   go_wp2;go_ret;exact⟨by rw[A.o];rfl,D.o⟩
  |true=>
   have B:zao h 0 2=true∧(zeq t h).on=true:=by rw[onB] at ho;simpa using ho
   have E:=zbg.1 B.1
   cases hq:zao b 0 11 with
   |false=>
    have A:Hid (reachE t h b=4):=by
     rw[Hid,reachE,if_neg (by rw[J.o];simp),if_pos];by_cases hb:0≤b∧b≤11
     ·rw[zbg.2 hb] at hq;cases hq
     ·omega
    clear B E;go_wp2_with (go_at_call 59;refine(zay _ _ _ _).mono ?_;rintro e w' ⟨rfl,rfl⟩);go_ret;exact⟨by rw[A.o];rfl,D.o⟩
   |true=>
    have hb:=zbg.1 hq
    have A:Hid (reachE t h b=0):=by
     rw[Hid,reachE,if_neg (by rw[J.o];simp),if_neg];rw[B.2];simp;omega
    clear B E hb;go_wp2_with (go_at_call 59;refine(zay _ _ _ _).mono ?_;rintro e w' ⟨rfl,rfl⟩);go_ret;exact⟨by rw[A.o];rfl,D.o⟩
theorem zce {t:Tx}{h b:Int}(e:reachE t h b=0):za8 t=true∧(h=0∨h=1∨h=2)∧(zeq t h).on=true∧0≤b∧b≤11:=by
 unfold reachE at e
 cases hg:za8 t with
 |false=>rw[if_pos hg] at e;cases e
 |true=>
  rw[if_neg (by rw[hg];simp)] at e;by_cases hc:h<0∨2<h∨(zeq t h).on=false∨b<0∨11<b
  ·rw[if_pos hc] at e;cases e
  ·have A:(zeq t h).on=true:=by cases hh:(zeq t h).on;exact absurd (.inr (.inr (.inl hh))) hc;rfl
   refine⟨rfl,by omega,A,by omega,by omega⟩
theorem zgc {l:List Int}(h:zbk l=true):l.Nodup:=by
 rw[za5] at h;exact List.Pairwise.imp (fun h=>by simp only[id] at h;omega) h.2
def zz0 (t:Tx):Prop:=(∀x∈blksOf t.info,x∉blksOf t.data∧x∉t.rev)∧∀x∈blksOf t.data,x∉t.rev
theorem znu {t:Tx}(h1:zbk (blksOf t.info)=true)(h2:zbk (blksOf t.data)=true)(h3:zbk t.rev=true):(zkn t).Nodup↔zz0 t:=by
 rw[zkn,List.nodup_append,List.nodup_append];constructor
 ·rintro⟨_,⟨_,_,a⟩,b⟩;refine⟨fun x hx=>⟨fun e=>b x hx x (List.mem_append.2 (.inl e)) rfl,fun e=>b x hx x (List.mem_append.2 (.inr e)) rfl⟩,fun x hx e=>a x hx x e rfl⟩
 ·rintro⟨a,b⟩;refine⟨zgc h1,⟨zgc h2,zgc h3,fun x hx y hy e=>b x hx (e▸hy)⟩,fun x hx y hy e=>?_⟩;rcases List.mem_append.1 hy with hy|hy
  ·exact(a x hx).1 (e▸hy)
  ·exact(a x hx).2 (e▸hy)
theorem zo2 {l:List (Int×ByteArray)}{b:Int}:b∈blksOf l↔(zai b l).isSome=true:=by
 rw[zk2,List.any_eq_true,blksOf,List.mem_map];constructor
 ·rintro⟨x,A,rfl⟩;exact⟨x,A,by simp⟩
 ·rintro⟨x,A,e⟩;exact⟨x,A,by simpa using e⟩
theorem zdv {l:List Int}{b:Int}:b∈l↔zaw l b=true:=by
 rw[zaw,List.any_eq_true];constructor
 ·intro h;exact⟨b,h,by simp⟩
 ·rintro⟨x,A,e⟩;have:x=b:=by simpa using e
  rw[←this];exact A
theorem zjb {l:List (Int×ByteArray)}{b y:Int}{s:ByteArray}:y∈blksOf (zbj (·.1) l b (b,s))↔y=b∨(y∈blksOf l∧y≠b):=by
 simp only[blksOf,List.mem_map];constructor
 ·rintro⟨x,C,rfl⟩;rcases zfh.1 C with rfl|⟨B,A⟩
  ·exact .inl rfl
  ·exact .inr ⟨⟨x,B,rfl⟩,A⟩
 ·rintro(rfl|⟨⟨x,B,rfl⟩,A⟩)
  ·exact⟨_,zfh.2 (.inl rfl),rfl⟩
  ·exact⟨x,zfh.2 (.inr ⟨B,A⟩),rfl⟩
theorem zg6 {l:List (Int×ByteArray)}{b y:Int}:y∈blksOf (zax (·.1) l b)↔y∈blksOf l∧y≠b:=by
 simp only[blksOf,List.mem_map];constructor
 ·rintro⟨x,B,rfl⟩;have:=zd8.1 B;exact⟨⟨x,this.1,rfl⟩,this.2⟩
 ·rintro⟨⟨x,C,rfl⟩,A⟩;exact⟨x,zd8.2 ⟨C,A⟩,rfl⟩
theorem zq2 {l:List (Int×ByteArray)}(h:zbk (blksOf l)=true){b:Int}(h0:0≤b)(h1:b≤11)(s:ByteArray):zbk (blksOf (zbj (·.1) l b (b,s)))=true:=by
 have A:=(za5 _).1 h;rw[za5];refine⟨fun y hy=>?_,?_⟩
 ·rcases zjb.1 hy with rfl|⟨e,_⟩
  ·exact⟨h0,h1⟩
  ·exact A.1 y e
 ·rw[blksOf,zfl] at A⊢;exact zul A.2 rfl
theorem zl0 {l:List (Int×ByteArray)}(h:zbk (blksOf l)=true)(b:Int):zbk (blksOf (zax (·.1) l b))=true:=by
 have A:=(za5 _).1 h;rw[za5];refine⟨fun y hy=>A.1 y (zg6.1 hy).1,?_⟩;rw[blksOf,zfl] at A⊢;exact zsb A.2 b
theorem zwu {l:List Int}(h:zbk l=true){b:Int}(h0:0≤b)(h1:b≤11):zbk (zbj id l b b)=true:=by
 rw[za5] at h⊢;refine⟨fun y hy=>?_,zul h.2 rfl⟩;rcases zfh.1 hy with rfl|⟨e,_⟩
 ·exact⟨h0,h1⟩
 ·exact h.1 y e
theorem ztb {l:List Int}(h:zbk l=true)(b:Int):zbk (zax id l b)=true:=by
 rw[za5] at h⊢;exact⟨fun y hy=>h.1 y (zd8.1 hy).1,zsb h.2 b⟩
theorem zu4 {l:List (Int×ByteArray)}(h:zb7 l=true)(b:Int){s:ByteArray}(hs:zbd s=true):zb7 (zbj (·.1) l b (b,s))=true:=by
 unfold zb7 at h⊢;rw[List.all_eq_true] at h⊢;intro x A;rcases zfh.1 A with rfl|⟨e,_⟩
 ·exact hs
 ·exact h x e
theorem znv {l:List (Int×ByteArray)}(h:zb7 l=true)(b:Int):zb7 (zax (·.1) l b)=true:=by
 unfold zb7 at h⊢;rw[List.all_eq_true] at h⊢;intro x A;exact h x (zd8.1 A).1
theorem zht {α:Type}{key:α→Int}{l:List α}(h:Up key l)(b:Int):(zax key l b).length+(if(l.any fun x=>key x==b)=true then 1 else 0)=l.length:=by
 induction l with
 |nil=>rfl
 |cons x r ih=>
  have C:=List.pairwise_cons.1 h;have D:=ih C.2;have hd:=zsc h b;have E:=zsc C.2 b;rw[E] at D;rw[hd,List.filter_cons,List.any_cons];by_cases e:key x=b
  ·have A:(r.any fun x=>key x==b)=false:=by
    rw[List.any_eq_false];intro y F;have:=C.1 y F;simp;omega
   rw[A] at D;have B:(key x==b)=true:=by simpa using e
   rw[if_neg (by simpa using e),B,A];simp at D⊢;omega
  ·have B:(key x==b)=false:=by simpa using e
   rw[if_pos (by simpa using e),B,Bool.false_or,List.length_cons,List.length_cons];omega
theorem zz1 {α:Type}(key:α→Int)(l:List α)(b:Int)(x:α):(zbj key l b x).length=(zax key l b).length+1:=by
 simp[zbj,zax];omega
theorem zu5 (l:List (Int×ByteArray))(h:Up (·.1) l)(b:Int)(s:ByteArray):zai b (zbj (·.1) l b (b,s))=some s:=by
 have A:=zf7 (zul h (b:=b) (x:=(b,s)) rfl) b;have B:(zbj (·.1) l b (b,s)).filter (fun y=>decide (y.1=b))=[(b,s)]:=z14 b (b,s) rfl;rw[B] at A
 cases e:zai b (zbj (·.1) l b (b,s)) with
 |none=>rw[e] at A;simp at A
 |some u=>rw[e] at A;simp at A;rw[A]
theorem zq3 (l:List (Int×ByteArray))(b:Int):zai b (zax (·.1) l b)=none:=by
 refine zlo ?_;rw[List.any_eq_false];intro x A;have:=(zd8.1 A).2
 simpa using this
theorem zwv (l:List Int)(b:Int):zaw (zax id l b) b=false:=by
 cases e:zaw (zax id l b) b with
 |false=>rfl
 |true=>exact absurd rfl (zd8.1 (zdv.2 e)).2
theorem zey (t:Tx)(h b:Int):(nameT t h b).seq=t.seq:=by
 unfold nameT ze3;split
 ·rfl
 ·split
  ·rfl
  ·split<;>rfl
theorem znw {t:Tx}{h b:Int}(hg:za8 t=true)(hh:h=0∨h=1∨h=2)(hn:nameE t h b=0)(ho:(zeq t h).on=true):
  hdB (nameT t h b).h0=true∧hdB (nameT t h b).h1=true∧hdB (nameT t h b).h2=true:=by
 have A:=((za6 t).1 hg).2.2.2.2;unfold nameT;by_cases e:zcq t b=true
 ·rw[if_pos e];exact A
 ·rw[if_neg e];rw[nameE,if_neg e] at hn;have hk:=(zep _).1 (zlz hg h);have hl:(zeq t h).left≠0:=by intro e;rw[if_pos e] at hn;cases hn
  have B:hdB ⟨(zeq t h).on,(zeq t h).left - 1⟩=true:=(zep _).2 ⟨by show 0≤(zeq t h).left - 1;omega,by show(zeq t h).left - 1≤24;omega,fun e=>by rw[ho] at e;cases e⟩;rcases hh with rfl|rfl|rfl
  ·exact⟨B,A.2.1,A.2.2⟩
  ·exact⟨A.1,B,A.2.2⟩
  ·exact⟨A.1,A.2.1,B⟩
theorem zl1 (t:Tx)(h b:Int)(hh:h=0∨h=1∨h=2):(nameT t h b).h0.left+(nameT t h b).h1.left+(nameT t h b).h2.left=t.h0.left+t.h1.left+t.h2.left - (if zcq t b=true then 0 else 1):=by
 unfold nameT
 cases zcq t b with
 |true=>simp
 |false=>rcases hh with rfl|rfl|rfl<;>simp[ze3,zeq]<;>omega
theorem zjc {t:Tx}{h b:Int}{s:ByteArray}(e:changeE t h b s=0):reachE t h b=0∧zbd s=true∧(zai b t.data).isSome=false∧nameE t h b=0:=by
 unfold changeE at e;by_cases h1:reachE t h b=0
 ·rw[if_neg (by simpa using h1)] at e
  cases h2:zbd s with
  |false=>rw[if_pos h2] at e;cases e
  |true=>
   rw[if_neg (by rw[h2];simp)] at e
   cases h3:(zai b t.data).isSome with
   |true=>rw[if_pos h3] at e;cases e
   |false=>rw[if_neg (by rw[h3];simp)] at e;exact⟨h1,rfl,rfl,e⟩
 ·rw[if_pos h1] at e;exact absurd e h1
theorem ztc {t:Tx}{h b:Int}{s:ByteArray}(e:fillE t h b s=0):reachE t h b=0∧zbd s=true∧zcq t b=false:=by
 unfold fillE at e;by_cases h1:reachE t h b=0
 ·rw[if_neg (by simpa using h1)] at e
  cases h2:zbd s with
  |false=>rw[if_pos h2] at e;cases e
  |true=>
   rw[if_neg (by rw[h2];simp)] at e
   cases h3:zcq t b with
   |true=>rw[if_pos h3] at e;cases e
   |false=>exact⟨h1,rfl,rfl⟩
 ·rw[if_pos h1] at e;exact absurd e h1
theorem zjd {t:Tx}{h b:Int}(e:revokeE t h b=0):reachE t h b=0∧zaw t.rev b=false∧nameE t h b=0:=by
 unfold revokeE at e;by_cases h1:reachE t h b=0
 ·rw[if_neg (by simpa using h1)] at e
  cases h3:zaw t.rev b with
  |true=>rw[if_pos h3] at e;cases e
  |false=>rw[if_neg (by rw[h3];simp)] at e;exact⟨h1,rfl,e⟩
 ·rw[if_pos h1] at e;exact absurd e h1
theorem zo3 {t:Tx}(h1:1≤t.seq∧t.seq≤2147483647)(h2:zb7 t.info=true)(h3:zb7 t.data=true)(h4:zbk (blksOf t.info)=true)(h5:zbk (blksOf t.data)=true)(h6:zbk t.rev=true)(h7:zz0 t)(h8:hdB t.h0=true∧hdB t.h1=true∧hdB t.h2=true):za8 t=true:=
 (za6 t).2 ⟨h1,⟨h2,h3⟩,⟨h4,h5,h6⟩,(znu h4 h5 h6).2 h7,h8⟩
theorem zd7 {t:Tx}(h:za8 t=true):zz0 t:=by
 have:=(za6 t).1 h;exact(znu this.2.2.1.1 this.2.2.1.2.1 this.2.2.1.2.2).1 this.2.2.2.1
theorem zkc {t:Tx}{h b:Int}{s:ByteArray}(e:changeE t h b s=0):za8 (zer t h b s)=true:=by
 obtain⟨O,N,hd,K⟩:=zjc e;obtain⟨E,M,J,Q,L⟩:=zce O;have A:=(za6 t).1 E;have D:=zd7 E;refine zo3 (t:=zer t h b s) ?_ (zu4 A.2.1.1 b N) ?_ (zq2 A.2.2.1.1 Q L s) ?_ (ztb A.2.2.1.2.2 b) ?_ (znw E M K J)
 ·show 1≤(nameT t h b).seq∧(nameT t h b).seq≤2147483647;rw[zey];exact A.1
 ·show zb7 (nameT t h b).data=true;rw[(zei t h b).2.1];exact A.2.1.2
 ·show zbk (blksOf (nameT t h b).data)=true;rw[(zei t h b).2.1];exact A.2.2.1.2.1
 ·have C:(zer t h b s).data=t.data:=(zei t h b).2.1;have I:b∉blksOf t.data:=fun e=>by rw[zo2,hd] at e;cases e
  refine⟨fun x hx=>⟨?_,?_⟩,fun x hx=>?_⟩
  ·rw[C];rcases zjb.1 hx with rfl|⟨h1,_⟩
   ·exact I
   ·exact(D.1 x h1).1
  ·intro B;have F:=zd8.1 B;rcases zjb.1 hx with rfl|⟨h1,_⟩
   ·exact F.2 rfl
   ·exact(D.1 x h1).2 F.1
  ·rw[C] at hx;intro B;exact D.2 x hx (zd8.1 B).1
theorem zkd {t:Tx}{h b:Int}(e:revokeE t h b=0):za8 (zes t h b)=true:=by
 obtain⟨L,hd,I⟩:=zjd e;obtain⟨E,K,F,M,J⟩:=zce L;have B:=(za6 t).1 E;have D:=zd7 E;refine zo3 (t:=zes t h b) ?_ (znv B.2.1.1 b) (znv B.2.1.2 b) (zl0 B.2.2.1.1 b) (zl0 B.2.2.1.2.1 b) (zwu B.2.2.1.2.2 M J) ?_ (znw E K I F)
 ·show 1≤(nameT t h b).seq∧(nameT t h b).seq≤2147483647;rw[zey];exact B.1
 ·refine⟨fun x hx=>⟨?_,?_⟩,fun x hx=>?_⟩
  ·intro A;exact(D.1 x (zg6.1 hx).1).1 (zg6.1 A).1
  ·intro A;have C:=zg6.1 hx;rcases zfh.1 A with rfl|⟨h2,_⟩
   ·exact C.2 rfl
   ·exact(D.1 x C.1).2 h2
  ·intro A;have C:=zg6.1 hx;rcases zfh.1 A with rfl|⟨h2,_⟩
   ·exact C.2 rfl
   ·exact D.2 x C.1 h2
theorem zww {t:Tx}{h b:Int}{s:ByteArray}(e:fillE t h b s=0):za8 {t with data:=zbj (·.1) t.data b (b,s)}=true:=by
 obtain⟨J,I,hd⟩:=ztc e;obtain⟨E,hh,ho,K,F⟩:=zce J;have B:=(za6 t).1 E;have D:=zd7 E;have C:(zai b t.info).isSome=false∧zaw t.rev b=false:=by rw[zcq] at hd;simpa using hd
 refine zo3 (t:={t with data:=zbj (·.1) t.data b (b,s)}) B.1 B.2.1.1 (zu4 B.2.1.2 b I) B.2.2.1.1 (zq2 B.2.2.1.2.1 K F s) B.2.2.1.2.2 ?_ B.2.2.2.2;refine⟨fun x hx=>⟨?_,(D.1 x hx).2⟩,fun x hx=>?_⟩
 ·intro A;rcases zjb.1 A with rfl|⟨h2,_⟩
  ·rw[zo2,C.1] at hx;cases hx
  ·exact(D.1 x hx).1 h2
 ·intro A;rcases zjb.1 hx with rfl|⟨h1,_⟩
  ·rw[zdv] at A;rw[C.2] at A;cases A
  ·exact D.2 x h1 A
theorem zjv {t:Tx}{h:Int}{x:Hd}(hg:za8 t=true)(hx:hdB x=true):za8 (ze3 t h x)=true:=by
 have A:=(za6 t).1 hg;unfold ze3;split
 ·exact(za6 _).2 ⟨A.1,A.2.1,A.2.2.1,A.2.2.2.1,hx,A.2.2.2.2.2⟩
 ·split
  ·exact(za6 _).2 ⟨A.1,A.2.1,A.2.2.1,A.2.2.2.1,A.2.2.2.2.1,hx,A.2.2.2.2.2.2⟩
  ·exact(za6 _).2 ⟨A.1,A.2.1,A.2.2.1,A.2.2.2.1,A.2.2.2.2.1,A.2.2.2.2.2.1,hx⟩
theorem zo4 {t:Tx}{h b:Int}{s:ByteArray}(e:changeE t h b s=0):zb2 (zer t h b s)=zb2 t:=by
 have Q:=zkc e;obtain⟨L,hs,hd,hn⟩:=zjc e;obtain⟨D,F,ho,b0,b1⟩:=zce L;have E:=(za6 t).1 D;have K:=zd7 D;have u1:Up (·.1) t.info:=(zfl _ _).1 ((za5 _).1 E.2.2.1.1).2;have u3:Up id t.rev:=((za5 _).1 E.2.2.1.2.2).2;rw[(zc6 Q).1,(zc6 D).1];have C:=zht u1 b;have B:=zht u3 b;have J:=zz1 (·.1) t.info b (b,s);have I:=zl1 t h b F;have x1:(zer t h b s).info.length=(zax (·.1) t.info b).length+1:=J;have x3:(zer t h b s).rev.length=(zax id t.rev b).length:=rfl;have A:(zer t h b s).h0.left+(zer t h b s).h1.left+(zer t h b s).h2.left=t.h0.left+t.h1.left+t.h2.left - (if zcq t b=true then 0 else 1):=I;have M:(t.info.any fun x=>x.1==b)=(zai b t.info).isSome:=(zk2 t.info b).symm;have N:(t.rev.any fun x=>id x==b)=zaw t.rev b:=rfl;rw[M] at C;rw[N] at B;have O:¬((zai b t.info).isSome=true∧zaw t.rev b=true):=fun⟨e1,e2⟩=>(K.1 b (zo2.2 e1)).2 (zdv.2 e2);unfold zcq at A
 cases c1:(zai b t.info).isSome with
 |true=>
  cases c3:zaw t.rev b with
  |true=>exact absurd ⟨c1,c3⟩ O
  |false=>rw[c1] at C;rw[c3] at B;rw[c1] at A;simp at C B A;omega
 |false=>
  cases c3:zaw t.rev b with
  |true=>rw[c1] at C;rw[c3] at B;rw[c1,c3] at A;simp at C B A;omega
  |false=>rw[c1] at C;rw[c3] at B;rw[c1,c3] at A;simp at C B A;omega
theorem zo5 {t:Tx}{h b:Int}(e:revokeE t h b=0):zb2 (zes t h b)=zb2 t:=by
 have M:=zkd e;obtain⟨J,hd,hn⟩:=zjd e;obtain⟨D,F,ho,b0,b1⟩:=zce J;have E:=(za6 t).1 D;have u1:Up (·.1) t.info:=(zfl _ _).1 ((za5 _).1 E.2.2.1.1).2;have u3:Up id t.rev:=((za5 _).1 E.2.2.1.2.2).2;rw[(zc6 M).1,(zc6 D).1];have B:=zht u1 b;have C:=zht u3 b;have p3:=zz1 id t.rev b b;have I:=zl1 t h b F;have x1:(zes t h b).info.length=(zax (·.1) t.info b).length:=rfl;have x3:(zes t h b).rev.length=(zax id t.rev b).length+1:=p3;have A:(zes t h b).h0.left+(zes t h b).h1.left+(zes t h b).h2.left=t.h0.left+t.h1.left+t.h2.left - (if zcq t b=true then 0 else 1):=I;have K:(t.info.any fun x=>x.1==b)=(zai b t.info).isSome:=(zk2 t.info b).symm;have L:(t.rev.any fun x=>id x==b)=zaw t.rev b:=rfl;rw[K] at B;rw[L,hd] at C;unfold zcq at A;rw[hd,Bool.or_false] at A
 cases c1:(zai b t.info).isSome with
 |true=>rw[c1] at B;rw[c1] at A;simp at B C A;omega
 |false=>rw[c1] at B;rw[c1] at A;simp at B C A;omega
def zcy (t:Tx)(k h b n free:Int)(s:ByteArray):Int:=
 if k=0 then zbe t h n free else if k=1 then changeE t h b s else if k=2 then fillE t h b s else if k=3 then revokeE t h b else zc7 t h
def zco (t:Tx)(k h b n free:Int)(s:ByteArray):Tx:=
 if k=0 then zau t h n free else if k=1 then zaf t h b s else if k=2 then zan t h b s else if k=3 then zag t h b else zb4 t h
theorem zwy {a b:Int}(h:a≤b):clampN a≤clampN b:=by unfold clampN;split<;>split<;>(try split)<;>(try split)<;>omega
theorem zz4 {a b:Int}(h:a≤b):ze2 a≤ze2 b:=by
 have h1:=zwy h;unfold ze2;generalize clampN a=x at *;generalize clampN b=y at *;have e1:(if 0<x then(1:Int) else 0)≤if 0<y then 1 else 0:=by split<;>split<;>omega
 have e2:(if 10<x then(1:Int) else 0)≤if 10<y then 1 else 0:=by split<;>split<;>omega
 have e3:(if 20<x then(1:Int) else 0)≤if 20<y then 1 else 0:=by split<;>split<;>omega
 omega
theorem zl2 (t:Tx)(h:Int)(x:Hd):(ze3 t h x).info=t.info∧(ze3 t h x).rev=t.rev:=by
 unfold ze3;split
 ·exact⟨rfl,rfl⟩
 ·split<;>exact⟨rfl,rfl⟩
theorem zl3 {t:Tx}{h:Int}{x:Hd}(hg:za8 t=true)(hx:hdB x=true):zb2 (ze3 t h x)=zb2 t - (zeq t h).left+x.left:=by
 have e:=(zc6 (zjv (h:=h) hg hx)).1;have A:=(zc6 hg).1;rw[e,A,(zl2 t h x).1,(zl2 t h x).2];unfold ze3 zeq;split
 ·show _+_+x.left+t.h1.left+t.h2.left=_;omega
 ·split
  ·show _+_+t.h0.left+x.left+t.h2.left=_;omega
  ·show _+_+t.h0.left+t.h1.left+x.left=_;omega
theorem z2t {t:Tx}{h n free:Int}(e:zbe t h n free=0):za8 t=true∧(zeq t h).on=false∧(0≤n∧n≤12)∧zb2 t+n≤24∧ze2 (zb2 t+n)≤free:=by
 unfold zbe at e
 cases hg:za8 t with
 |false=>rw[if_pos hg] at e;cases e
 |true=>
  rw[if_neg (by rw[hg];simp)] at e;by_cases h1:h<0∨2<h
  ·rw[if_pos h1] at e;cases e
  ·rw[if_neg h1] at e
   cases ho:(zeq t h).on with
   |true=>rw[if_pos ho] at e;cases e
   |false=>
    rw[if_neg (by rw[ho];simp)] at e;by_cases h2:n<0∨12<n
    ·rw[if_pos h2] at e;cases e
    ·rw[if_neg h2] at e;by_cases h3:24<zb2 t+n∨free<ze2 (zb2 t+n)
     ·rw[if_pos h3] at e;cases e
     ·exact⟨rfl,rfl,by omega,by omega,by omega⟩
theorem zte {t:Tx}{k h b n free:Int}{s:ByteArray}(he:¬zcy t k h b n free s=0):zco t k h b n free s=t:=by
 unfold zcy at he;unfold zco;split
 ·rename_i A;rw[if_pos A] at he;rw[zau,if_neg he]
 ·rename_i A;rw[if_neg A] at he;split
  ·rename_i A;rw[if_pos A] at he;rw[zaf,if_neg he]
  ·rename_i A;rw[if_neg A] at he;split
   ·rename_i A;rw[if_pos A] at he;rw[zan,if_neg he]
   ·rename_i A;rw[if_neg A] at he;split
    ·rename_i A;rw[if_pos A] at he;rw[zag,if_neg he]
    ·rename_i A;rw[if_neg A] at he;rw[zb4,if_neg he]
theorem zq5 {t:Tx}{k h b n free:Int}{s:ByteArray}(hg:za8 t=true):
  za8 (zco t k h b n free s)=true∧(k≠0→zb2 (zco t k h b n free s)≤zb2 t)∧(zcy t k h b n free s=0→k=0→ze2 (zb2 (zco t k h b n free s))≤free):=by
 by_cases he:zcy t k h b n free s=0
 ·have I:=(zep _).1 (zlz hg h);unfold zcy at he;unfold zco;split
  ·rename_i A;rw[if_pos A] at he;obtain⟨_,J,K,A0,M⟩:=z2t he;have D:hdB ⟨true,n⟩=true:=(zep _).2 ⟨K.1,by show n≤24;omega,fun e=>by cases e⟩;have L:(zeq t h).left=0:=I.2.2 J;have F:=zl3 (h:=h) hg D;rw[L] at F;rw[zau,if_pos he];refine⟨zjv hg D,fun e=>absurd A e,fun _ _=>?_⟩;rw[F,show zb2 t - 0+(Hd.mk true n).left=zb2 t+n from by show _ - 0+n=_;omega];exact M
  ·rename_i A;rw[if_neg A] at he;split
   ·rename_i E;rw[if_pos E] at he;rw[zaf,if_pos he];exact⟨zkc he,fun _=>by rw[zo4 he];omega,fun _ e=>absurd e A⟩
   ·rename_i E;rw[if_neg E] at he;split
    ·rename_i C;rw[if_pos C] at he;rw[zan,if_pos he];refine⟨zww he,fun _=>?_,fun _ e=>absurd e A⟩;exact Int.le_of_eq rfl
    ·rename_i C;rw[if_neg C] at he;split
     ·rename_i B;rw[if_pos B] at he;rw[zag,if_pos he];exact⟨zkd he,fun _=>by rw[zo5 he];omega,fun _ e=>absurd e A⟩
     ·rename_i B;rw[if_neg B] at he;have D:hdB ⟨false,0⟩=true:=rfl;have F:=zl3 (h:=h) hg D;rw[zb4,if_pos he];refine⟨zjv hg D,fun _=>?_,fun _ e=>absurd e A⟩;rw[F];show zb2 t - (zeq t h).left+0≤_;omega
 ·rw[zte he];exact⟨hg,fun _=>Int.le_refl _,fun e=>absurd e he⟩
end Go.Proofs.YtjnpndfpajjihacGreat


namespace Go.Proofs.YtjnpndfpajjihacGreat
open Tryz
open Go.RowKit
def zo9 (base:Nat)(v:Value)(t:Tx):Prop:=
 ∃a c a' c' r d,v=.agg #[.int .i64 t.seq,.slice a t.info.length c,.slice a' t.data.length c',.slice r t.rev.length d,.bool t.h0.on,.int .i64 t.h0.left,.bool t.h1.on,.int .i64 t.h1.left,.bool t.h2.on,.int .i64 t.h2.left]∧
  (∀x off,a=some ⟨x,off,none⟩→base≤x)∧(∀x off,a'=some ⟨x,off,none⟩→base≤x)∧∀x off,r=some ⟨x,off,none⟩→base≤x
theorem BoxTx.from {w:World}{B base:Nat}{t:Tx}{va vd vr:Value}(h:BoxTx w B t va vd vr)(hb:base≤B+1):
  zo9 base (.agg #[.int .i64 t.seq,va,vd,vr,.bool t.h0.on,.int .i64 t.h0.left,.bool t.h1.on,.int .i64 t.h1.left,.bool t.h2.on,.int .i64 t.h2.left]) t:=by
 obtain⟨a,c,rfl,_,h1⟩:=SegC.of_owns h.2.1;obtain⟨A,C,rfl,_,h2⟩:=SegC.of_owns h.2.2.1;obtain⟨r,d,rfl,_,D⟩:=SegI.of_owns h.2.2.2;exact⟨a,c,A,C,r,d,rfl,fun x o e=>Nat.le_trans hb (h1 x o e),fun x o e=>Nat.le_trans hb (h2 x o e),fun x o e=>Nat.le_trans hb (D x o e)⟩
def za0 (base:Nat)(v:Value)(t:Tx):Prop:=zo9 base v t∧RoomTx v
theorem zpa {w:World}{base sz k n c:Nat}{e:TypeId}{a:Option Addr}{xs:List Value}(h:w.ownsRow base e sz (.slice a n c) k xs):n≤c:=by
 rcases h.2 with⟨e,_⟩|⟨g,cap,cur,e,_,_,h1,_⟩
 ·simp only[Value.slice.injEq] at e;omega
 ·simp only[Value.slice.injEq] at e;omega
theorem BoxTx.fromR {w:World}{B base:Nat}{t:Tx}{va vd vr:Value}(h:BoxTx w B t va vd vr)(hb:base≤B+1):
  za0 base (.agg #[.int .i64 t.seq,va,vd,vr,.bool t.h0.on,.int .i64 t.h0.left,.bool t.h1.on,.int .i64 t.h1.left,.bool t.h2.on,.int .i64 t.h2.left]) t:=by
 refine⟨h.from hb,?_⟩;obtain⟨_,A,D,C⟩:=h;obtain⟨a,c,rfl,_,_⟩:=SegC.of_owns A;obtain⟨a',c',rfl,_,_⟩:=SegC.of_owns D;obtain⟨r,d,rfl,_,_⟩:=SegI.of_owns C;exact⟨_,_,_,_,_,_,_,_,_,_,_,_,_,_,_,_,rfl,zpa A,zpa D,zpa C⟩
theorem BoxTx.other {w:World}{B:Nat}{t:Tx}{va vd vr:Value}(h:BoxTx w B t va vd vr){p:Addr}(hp:p.block<B)(u:Value):BoxTx (w.setCell p u) B t va vd vr:=
 ⟨(Below.heap_setCell _ _ _ _ (by omega)).trans h.1,ownsRow_setCell_below h.2.1 (by omega) _,ownsRow_setCell_below h.2.2.1 (by omega) _,ownsRow_setCell_below h.2.2.2 (by omega) _⟩
theorem zw5 (v:Value)(t:Tx)(h n free:Int)(w:World)(hT:IsTx w v t)(r1:t.info.length*24≤140737488355328)(r2:t.data.length*24≤140737488355328)(hg:za8 t=false):
  Calls prog 80 #[v,.int .i64 h,.int .i64 n,.int .i64 free] w fun e w'=>∃v2,e=.returned (.tuple #[v2,.int .i64 (zbe t h n free)])∧IsTx w' v2 (zau t h n free)∧Below w.heap.size w w'∧(v2=v∨za0 w.heap.size v2 (zau t h n free)):=by
 have K:=zab hT;obtain⟨a,c,O,j,r,d,rfl,U,L,k,C,I,J⟩:=hT;have N1:=zab C;have N2:=zab I;have N3:=zab J;clear U L k C I J;go_enter func80,ntmps80;go_wp2_with fail;refine(zb8 _ t _ (K.o.below (zae (zaa _ _) (zaa _ _))) r1 r2).mono ?_;rintro e F ⟨rfl,A⟩;have A1:w.heap.size+1<F.heap.size:=by have:=A.size;simp at this;omega
 have A0:w.heap.size<F.heap.size:=by omega
 have Z:=zab (zhe A);have i:=zab (zhx A);obtain⟨⟨x0,x1,x2,x3,x4,x5,x6,x7,x8,x9⟩,_⟩:=zaj Z.o;obtain⟨⟨N,R,S,b,m,Y,Q,M,X,l⟩,ff⟩:=zaj i.o;have B:=zab (zae (zae (zaa _ _) (zaa _ _)) A);clear A;have E:Hid (zbe t h n free=2):=by rw[Hid,zbe,if_pos hg]
 have D:Hid (zau t h n free=t):=by rw[Hid,zau,E.o];rfl
 go_wp2;refine bodyPost_ret (v:=.tuple #[.agg #[.int .i64 t.seq,.slice a t.info.length c,.slice O t.data.length j,.slice r t.rev.length d,.bool t.h0.on,.int .i64 t.h0.left,.bool t.h1.on,.int .i64 t.h1.left,.bool t.h2.on,.int .i64 t.h2.left],.int .i64 2]) (by simp[results,results80,go_sem,N,R,S,b,m,Y,Q,M,X,l]) rfl ⟨_,by rw[E.o],?_⟩;refine⟨?_,?_,.inl rfl⟩
 ·rw[D.o];refine K.o.below ?_
  repeat refine Below.setCell ?_ (by simp) _
  exact B.o
 ·repeat refine Below.setCell ?_ (by simp) _
  exact B.o
theorem ztg (v:Value)(t:Tx)(h n free:Int)(w:World)(hT:IsTx w v t)(r1:t.info.length*24≤140737488355328)(r2:t.data.length*24≤140737488355328)(hg:za8 t=true)(hw:zao h 0 2=false):
  Calls prog 80 #[v,.int .i64 h,.int .i64 n,.int .i64 free] w fun e w'=>∃v2,e=.returned (.tuple #[v2,.int .i64 (zbe t h n free)])∧IsTx w' v2 (zau t h n free)∧Below w.heap.size w w'∧(v2=v∨za0 w.heap.size v2 (zau t h n free)):=by
 have L:=zab hT;obtain⟨a,c,Q,k,r,d,rfl,X,M,l,D,J,K⟩:=hT;have N1:=zab D;have N2:=zab J;have N3:=zab K;clear X M l D J K;go_enter func80,ntmps80;go_wp2_with fail;refine(zb8 _ t _ (L.o.below (zae (zaa _ _) (zaa _ _))) r1 r2).mono ?_;rintro e I ⟨rfl,A⟩;have A1:w.heap.size+1<I.heap.size:=by have:=A.size;simp at this;omega
 have A0:w.heap.size<I.heap.size:=by omega
 have b:=zab (zhe A);have j:=zab (zhx A);obtain⟨⟨x0,x1,x2,x3,x4,x5,x6,x7,x8,x9⟩,_⟩:=zaj b.o;obtain⟨⟨O,S,U,i,p,Z,R,N,Y,m⟩,ff⟩:=zaj j.o;have B:=zab (zae (zae (zaa _ _) (zaa _ _)) A);clear A
 have C:h<0∨2<h:=by
  by_cases e:0≤h∧h≤2
  ·rw[zbg.2 e] at hw;cases hw
  ·omega
 have F:Hid (zbe t h n free=4):=by rw[Hid,zbe,if_neg (by rw[hg];simp),if_pos C]
 have E:Hid (zau t h n free=t):=by rw[Hid,zau,F.o];rfl
 clear C;go_wp2_with (go_at_call 117;refine(zbn _ _).mono ?_;rintro e w' ⟨rfl,rfl⟩);refine bodyPost_ret (v:=.tuple #[.agg #[.int .i64 t.seq,.slice a t.info.length c,.slice Q t.data.length k,.slice r t.rev.length d,.bool t.h0.on,.int .i64 t.h0.left,.bool t.h1.on,.int .i64 t.h1.left,.bool t.h2.on,.int .i64 t.h2.left],.int .i64 4]) (by simp[results,results80,go_sem,O,S,U,i,p,Z,R,N,Y,m]) rfl ⟨_,by rw[F.o],?_⟩;refine⟨?_,?_,.inl rfl⟩
 ·rw[E.o];refine L.o.below ?_
  repeat refine Below.setCell ?_ (by simp) _
  exact B.o
 ·repeat refine Below.setCell ?_ (by simp) _
  exact B.o
theorem zw6 (v:Value)(t:Tx)(n free:Int)(w:World)(hT:IsTx w v t)(r1:t.info.length*24≤140737488355328)(r2:t.data.length*24≤140737488355328)(hg:za8 t=true)(ho:t.h0.on=true):
  Calls prog 80 #[v,.int .i64 0,.int .i64 n,.int .i64 free] w fun e w'=>∃v2,e=.returned (.tuple #[v2,.int .i64 (zbe t 0 n free)])∧IsTx w' v2 (zau t 0 n free)∧Below w.heap.size w w'∧(v2=v∨za0 w.heap.size v2 (zau t 0 n free)):=by
 have Z:=zab ho;clear ho;have K:=zab hT;obtain⟨a,c,O,j,r,d,rfl,U,L,k,C,I,J⟩:=hT;have N1:=zab C;have N2:=zab I;have N3:=zab J;clear U L k C I J;go_enter func80,ntmps80;go_wp2_with fail;refine(zb8 _ t _ (K.o.below (zae (zaa _ _) (zaa _ _))) r1 r2).mono ?_;rintro e F ⟨rfl,A⟩;have A1:w.heap.size+1<F.heap.size:=by have:=A.size;simp at this;omega
 have A0:w.heap.size<F.heap.size:=by omega
 have b:=zab (zhe A);have i:=zab (zhx A);obtain⟨⟨x0,x1,x2,x3,x4,x5,x6,x7,x8,x9⟩,_⟩:=zaj b.o;obtain⟨⟨N,R,S,h,m,Y,Q,M,X,l⟩,ff⟩:=zaj i.o;have B:=zab (zae (zae (zaa _ _) (zaa _ _)) A);clear A;have ho:=Z.o;have E:Hid (zbe t 0 n free=5):=by rw[Hid,zbe,if_neg (by rw[hg];simp),if_neg (by omega),show zeq t 0=t.h0 from rfl,if_pos ho]
 have D:Hid (zau t 0 n free=t):=by rw[Hid,zau,E.o];rfl
 have hw:zao 0 0 2=true:=rfl;go_wp2_with (go_at_call 117;refine(zbn _ _).mono ?_;rintro e w' ⟨rfl,rfl⟩);refine bodyPost_ret (v:=.tuple #[.agg #[.int .i64 t.seq,.slice a t.info.length c,.slice O t.data.length j,.slice r t.rev.length d,.bool t.h0.on,.int .i64 t.h0.left,.bool t.h1.on,.int .i64 t.h1.left,.bool t.h2.on,.int .i64 t.h2.left],.int .i64 5]) (by simp[results,results80,go_sem,N,R,S,h,m,Y,Q,M,X,l,ho]) rfl ⟨_,by rw[E.o],?_⟩;refine⟨?_,?_,.inl rfl⟩
 ·rw[D.o];refine K.o.below ?_
  repeat refine Below.setCell ?_ (by simp) _
  exact B.o
 ·repeat refine Below.setCell ?_ (by simp) _
  exact B.o
theorem zth (v:Value)(t:Tx)(n free:Int)(w:World)(hT:IsTx w v t)(r1:t.info.length*24≤140737488355328)(r2:t.data.length*24≤140737488355328)(hg:za8 t=true)(ho:t.h0.on=false):
  Calls prog 80 #[v,.int .i64 0,.int .i64 n,.int .i64 free] w fun e w'=>∃v2,e=.returned (.tuple #[v2,.int .i64 (zbe t 0 n free)])∧IsTx w' v2 (zau t 0 n free)∧Below w.heap.size w w'∧(v2=v∨za0 w.heap.size v2 (zau t 0 n free)):=by
 have A4:=za1 hg;have i:=zc6 hg;have HO:=zab ho;clear ho;have p:=zab hT;obtain⟨a,c,z,c',r,d,rfl,hM,hD,hR,n1,n2,n3⟩:=hT;have N1:=zab n1;have N2:=zab n2;have N3:=zab n3;clear hM hD hR n1 n2 n3;go_enter func80,ntmps80;go_wp2_with fail;refine(zb8 _ t _ (p.o.below (zae (zaa _ _) (zaa _ _))) r1 r2).mono ?_;rintro e w1 ⟨rfl,F⟩;have A5:w.heap.size+1<w1.heap.size:=by have:=F.size;simp at this;omega
 have A1:w.heap.size<w1.heap.size:=by omega
 have K1:=zab (zhe F);have K2:=zab (zhx F);obtain⟨⟨x0,x1,x2,x3,x4,x5,x6,x7,x8,x9⟩,_⟩:=zaj K1.o;obtain⟨⟨O,R,Y,h,U,b,Q,X,Z,S⟩,s⟩:=zaj K2.o;have E:=zab (zae (zae (zaa _ _) (zaa _ _)) F);clear F;have ho:=HO.o;have l:¬za8 t=false:=by rw[hg];simp
 have m:¬(zeq t 0).on=true:=by rw[show zeq t 0=t.h0 from rfl,ho];simp
 have y:Hid (IsTx w (.agg #[.int .i64 t.seq,.slice a t.info.length c,.slice z t.data.length c',.slice r t.rev.length d,.bool false,.int .i64 t.h0.left,.bool t.h1.on,.int .i64 t.h1.left,.bool t.h2.on,.int .i64 t.h2.left]) t):=by have:=p.o;rw[ho] at this;exact this
 have hw:zao 0 0 2=true:=rfl
 cases hq:zao n 0 12 with
 |false=>
  have u:n<0∨12<n:=by
   by_cases e:0≤n∧n≤12
   ·rw[zbg.2 e] at hq;cases hq
   ·omega
  have N:Hid (zbe t 0 n free=2):=by rw[Hid,zbe,if_neg l,if_neg (by omega),if_neg m,if_pos u]
  have J:Hid (zau t 0 n free=t):=by rw[Hid,zau,N.o];rfl
  clear l m u i A4;go_wp2_with (first|(go_at_call 117;refine(zbn _ _).mono ?_;rintro e w' ⟨rfl,rfl⟩)|(go_at_call 59;refine(zay _ _ _ _).mono ?_;rintro e w' ⟨rfl,rfl⟩));refine bodyPost_ret (v:=.tuple #[.agg #[.int .i64 t.seq,.slice a t.info.length c,.slice z t.data.length c',.slice r t.rev.length d,.bool t.h0.on,.int .i64 t.h0.left,.bool t.h1.on,.int .i64 t.h1.left,.bool t.h2.on,.int .i64 t.h2.left],.int .i64 2]) (by simp[results,results80,go_sem,O,R,Y,h,U,b,Q,X,Z,S,ho]) rfl ⟨_,by rw[N.o],?_⟩;refine⟨?_,?_,.inl rfl⟩
  ·rw[J.o];refine p.o.below ?_
   repeat refine Below.setCell ?_ (by simp) _
   exact E.o
  ·repeat refine Below.setCell ?_ (by simp) _
   exact E.o
 |true=>
  have B0:=zbg.1 hq;have NN:¬(n<0∨12<n):=by omega
  go_wp2_with (first|(go_at_call 117;refine(zbn _ _).mono ?_;rintro e w' ⟨rfl,rfl⟩)|(go_at_call 59;refine(zay _ _ _ _).mono ?_;rintro e w' ⟨rfl,rfl⟩));refine(zju _ t _ (y.o.below E.o)).mono ?_;rintro e I ⟨rfl,M⟩;have A6:w.heap.size+1<I.heap.size:=by have:=M.size;omega
  have A9:w.heap.size<I.heap.size:=by omega
  have A7:=zab (zad M A1 K1.o);have x:=zab (zad M A5 K2.o);have D:=zab (zae E.o M);clear x0 x1 x2 x3 x4 x5 x6 x7 x8 x9 O R Y h U b Q X Z S s M K1 K2 E;obtain⟨⟨x0,x1,x2,x3,x4,x5,x6,x7,x8,x9⟩,_⟩:=zaj A7.o;obtain⟨⟨O,R,Y,h,U,b,Q,X,Z,S⟩,s⟩:=zaj x.o;have A2:=i.2.1;have A8:=i.2.2;have K:Hid (zbe t 0 n free=if 24<zb2 t+n∨free<ze2 (zb2 t+n) then 6 else 0):=by rw[Hid,zbe,if_neg l,if_neg (by omega),if_neg m,if_neg NN]
  obtain⟨q,k⟩:∃q,q=zb2 t:=⟨_,rfl⟩;rw[←k] at K A2 A8;rw[←k];clear i l m NN k hq
  cases hrm:(decide (q+n≤24)&&decide (ze2 (q+n)≤free)) with
  |false=>
   have N:Hid (zbe t 0 n free=6):=by
    rw[Hid,K.o,if_pos];by_cases e:q+n≤24
    ·rw[show decide (q+n≤24)=true from by simpa using e,Bool.true_and] at hrm;simp at hrm;omega
    ·omega
   have J:Hid (zau t 0 n free=t):=by rw[Hid,zau,N.o];rfl
   have A:=zhs (q+n) free I;rw[hrm] at A;clear hrm K;go_wp2_with fail;refine A.mono ?_;rintro e w3 ⟨rfl,rfl⟩;go_wp2;refine bodyPost_ret (v:=.tuple #[.agg #[.int .i64 t.seq,.slice a t.info.length c,.slice z t.data.length c',.slice r t.rev.length d,.bool t.h0.on,.int .i64 t.h0.left,.bool t.h1.on,.int .i64 t.h1.left,.bool t.h2.on,.int .i64 t.h2.left],.int .i64 6]) (by simp[results,results80,go_sem,O,R,Y,h,U,b,Q,X,Z,S,ho]) rfl ⟨_,by rw[N.o],?_⟩;refine⟨?_,?_,.inl rfl⟩
   ·rw[J.o];refine p.o.below ?_
    repeat refine Below.setCell ?_ (by simp) _
    exact D.o
   ·repeat refine Below.setCell ?_ (by simp) _
    exact D.o
  |true=>
   have N:Hid (zbe t 0 n free=0):=by
    rw[Hid,K.o,if_neg];simp at hrm;omega
   have J:Hid (zau t 0 n free={t with h0:=⟨true,n⟩}):=by rw[Hid,zau,N.o];rfl
   have A:=zhs (q+n) free I;rw[hrm] at A;clear hrm K;go_wp2_with fail;refine A.mono ?_;rintro e w3 ⟨rfl,rfl⟩;go_wp2_with fail;refine(zcx _ t _ (y.o.below D.o) (by omega) (by omega) (by omega)).mono ?_;rintro e w4 ⟨va,vd,vr,rfl,C,j⟩;obtain⟨a1,c1,rfl,_,_⟩:=SegC.of_owns C.2.1;obtain⟨a2,c2,rfl,_,_⟩:=SegC.of_owns C.2.2.1;obtain⟨a3,c3,rfl,_,_⟩:=SegI.of_owns C.2.2.2;have L:=zab C;have B1:=C.lt;have A3:=zab (zae D.o j);have A0:=zab (zad j A6 x.o);clear x0 x1 x2 x3 x4 x5 x6 x7 x8 x9 O R Y h U b Q X Z S s j C D;obtain⟨⟨O,R,Y,h,U,b,Q,X,Z,S⟩,s⟩:=zaj A0.o;obtain⟨⟨z0,z1,z2,z3,z4,z5,z6,z7,z8,z9⟩,gf⟩:=zaj L.o.1;have HX:Hid (BoxTx ((w4.setCell ⟨I.heap.size,4,none⟩ (.bool true)).setCell ⟨I.heap.size,5,none⟩ (.int .i64 n)) I.heap.size {t with h0:=⟨true,n⟩} (.slice a1 t.info.length c1) (.slice a2 t.data.length c2) (.slice a3 t.rev.length c3)):=(L.o.set (t':={t with h0:=⟨true,t.h0.left⟩}) 4 (.bool true) rfl L.o.2.1 L.o.2.2.1 L.o.2.2.2).set (t':={t with h0:=⟨true,n⟩}) 5 (.int .i64 n) rfl (ownsRow_setCell_below L.o.2.1 (by simp) _) (ownsRow_setCell_below L.o.2.2.1 (by simp) _) (ownsRow_setCell_below L.o.2.2.2 (by simp) _);go_wp2;refine bodyPost_ret (v:=.tuple #[.agg #[.int .i64 t.seq,.slice a1 t.info.length c1,.slice a2 t.data.length c2,.slice a3 t.rev.length c3,.bool true,.int .i64 n,.bool t.h1.on,.int .i64 t.h1.left,.bool t.h2.on,.int .i64 t.h2.left],.int .i64 0]) (by simp[results,results80,go_sem,O,R,Y,h,U,b,Q,X,Z,S]) rfl ⟨_,by rw[N.o],?_⟩;rw[J.o];refine⟨?_,?_,.inr (HX.o.fromR (t:={t with h0:=⟨true,n⟩}) (by omega))⟩
   ·refine BoxTx.is (t:={t with h0:=⟨true,n⟩}) (B:=I.heap.size) ?_ N1.o N2.o N3.o
    repeat refine BoxTx.other ?_ (by simp;omega) _
    exact HX.o
   ·repeat refine Below.setCell ?_ (by simp;try omega) _
    exact A3.o
theorem zw7 (v:Value)(t:Tx)(n free:Int)(w:World)(hT:IsTx w v t)(r1:t.info.length*24≤140737488355328)(r2:t.data.length*24≤140737488355328)(hg:za8 t=true)(ho:t.h1.on=true):
  Calls prog 80 #[v,.int .i64 1,.int .i64 n,.int .i64 free] w fun e w'=>∃v2,e=.returned (.tuple #[v2,.int .i64 (zbe t 1 n free)])∧IsTx w' v2 (zau t 1 n free)∧Below w.heap.size w w'∧(v2=v∨za0 w.heap.size v2 (zau t 1 n free)):=by
 have Z:=zab ho;clear ho;have K:=zab hT;obtain⟨a,c,O,j,r,d,rfl,U,L,k,C,I,J⟩:=hT;have N1:=zab C;have N2:=zab I;have N3:=zab J;clear U L k C I J;go_enter func80,ntmps80;go_wp2_with fail;refine(zb8 _ t _ (K.o.below (zae (zaa _ _) (zaa _ _))) r1 r2).mono ?_;rintro e F ⟨rfl,A⟩;have A1:w.heap.size+1<F.heap.size:=by have:=A.size;simp at this;omega
 have A0:w.heap.size<F.heap.size:=by omega
 have b:=zab (zhe A);have i:=zab (zhx A);obtain⟨⟨x0,x1,x2,x3,x4,x5,x6,x7,x8,x9⟩,_⟩:=zaj b.o;obtain⟨⟨N,R,S,h,m,Y,Q,M,X,l⟩,ff⟩:=zaj i.o;have B:=zab (zae (zae (zaa _ _) (zaa _ _)) A);clear A;have ho:=Z.o;have E:Hid (zbe t 1 n free=5):=by rw[Hid,zbe,if_neg (by rw[hg];simp),if_neg (by omega),show zeq t 1=t.h1 from rfl,if_pos ho]
 have D:Hid (zau t 1 n free=t):=by rw[Hid,zau,E.o];rfl
 have hw:zao 1 0 2=true:=rfl;go_wp2_with (go_at_call 117;refine(zbn _ _).mono ?_;rintro e w' ⟨rfl,rfl⟩);refine bodyPost_ret (v:=.tuple #[.agg #[.int .i64 t.seq,.slice a t.info.length c,.slice O t.data.length j,.slice r t.rev.length d,.bool t.h0.on,.int .i64 t.h0.left,.bool t.h1.on,.int .i64 t.h1.left,.bool t.h2.on,.int .i64 t.h2.left],.int .i64 5]) (by simp[results,results80,go_sem,N,R,S,h,m,Y,Q,M,X,l,ho]) rfl ⟨_,by rw[E.o],?_⟩;refine⟨?_,?_,.inl rfl⟩
 ·rw[D.o];refine K.o.below ?_
  repeat refine Below.setCell ?_ (by simp) _
  exact B.o
 ·repeat refine Below.setCell ?_ (by simp) _
  exact B.o
theorem zti (v:Value)(t:Tx)(n free:Int)(w:World)(hT:IsTx w v t)(r1:t.info.length*24≤140737488355328)(r2:t.data.length*24≤140737488355328)(hg:za8 t=true)(ho:t.h1.on=false):
  Calls prog 80 #[v,.int .i64 1,.int .i64 n,.int .i64 free] w fun e w'=>∃v2,e=.returned (.tuple #[v2,.int .i64 (zbe t 1 n free)])∧IsTx w' v2 (zau t 1 n free)∧Below w.heap.size w w'∧(v2=v∨za0 w.heap.size v2 (zau t 1 n free)):=by
 have A4:=za1 hg;have i:=zc6 hg;have HO:=zab ho;clear ho;have p:=zab hT;obtain⟨a,c,z,c',r,d,rfl,hM,hD,hR,n1,n2,n3⟩:=hT;have N1:=zab n1;have N2:=zab n2;have N3:=zab n3;clear hM hD hR n1 n2 n3;go_enter func80,ntmps80;go_wp2_with fail;refine(zb8 _ t _ (p.o.below (zae (zaa _ _) (zaa _ _))) r1 r2).mono ?_;rintro e w1 ⟨rfl,F⟩;have A5:w.heap.size+1<w1.heap.size:=by have:=F.size;simp at this;omega
 have A1:w.heap.size<w1.heap.size:=by omega
 have K1:=zab (zhe F);have K2:=zab (zhx F);obtain⟨⟨x0,x1,x2,x3,x4,x5,x6,x7,x8,x9⟩,_⟩:=zaj K1.o;obtain⟨⟨O,R,Y,h,U,b,Q,X,Z,S⟩,s⟩:=zaj K2.o;have E:=zab (zae (zae (zaa _ _) (zaa _ _)) F);clear F;have ho:=HO.o;have l:¬za8 t=false:=by rw[hg];simp
 have m:¬(zeq t 1).on=true:=by rw[show zeq t 1=t.h1 from rfl,ho];simp
 have y:Hid (IsTx w (.agg #[.int .i64 t.seq,.slice a t.info.length c,.slice z t.data.length c',.slice r t.rev.length d,.bool t.h0.on,.int .i64 t.h0.left,.bool false,.int .i64 t.h1.left,.bool t.h2.on,.int .i64 t.h2.left]) t):=by have:=p.o;rw[ho] at this;exact this
 have hw:zao 1 0 2=true:=rfl
 cases hq:zao n 0 12 with
 |false=>
  have u:n<0∨12<n:=by
   by_cases e:0≤n∧n≤12
   ·rw[zbg.2 e] at hq;cases hq
   ·omega
  have N:Hid (zbe t 1 n free=2):=by rw[Hid,zbe,if_neg l,if_neg (by omega),if_neg m,if_pos u]
  have J:Hid (zau t 1 n free=t):=by rw[Hid,zau,N.o];rfl
  clear l m u i A4;go_wp2_with (first|(go_at_call 117;refine(zbn _ _).mono ?_;rintro e w' ⟨rfl,rfl⟩)|(go_at_call 59;refine(zay _ _ _ _).mono ?_;rintro e w' ⟨rfl,rfl⟩));refine bodyPost_ret (v:=.tuple #[.agg #[.int .i64 t.seq,.slice a t.info.length c,.slice z t.data.length c',.slice r t.rev.length d,.bool t.h0.on,.int .i64 t.h0.left,.bool t.h1.on,.int .i64 t.h1.left,.bool t.h2.on,.int .i64 t.h2.left],.int .i64 2]) (by simp[results,results80,go_sem,O,R,Y,h,U,b,Q,X,Z,S,ho]) rfl ⟨_,by rw[N.o],?_⟩;refine⟨?_,?_,.inl rfl⟩
  ·rw[J.o];refine p.o.below ?_
   repeat refine Below.setCell ?_ (by simp) _
   exact E.o
  ·repeat refine Below.setCell ?_ (by simp) _
   exact E.o
 |true=>
  have B0:=zbg.1 hq;have NN:¬(n<0∨12<n):=by omega
  go_wp2_with (first|(go_at_call 117;refine(zbn _ _).mono ?_;rintro e w' ⟨rfl,rfl⟩)|(go_at_call 59;refine(zay _ _ _ _).mono ?_;rintro e w' ⟨rfl,rfl⟩));refine(zju _ t _ (y.o.below E.o)).mono ?_;rintro e I ⟨rfl,M⟩;have A6:w.heap.size+1<I.heap.size:=by have:=M.size;omega
  have A9:w.heap.size<I.heap.size:=by omega
  have A7:=zab (zad M A1 K1.o);have x:=zab (zad M A5 K2.o);have D:=zab (zae E.o M);clear x0 x1 x2 x3 x4 x5 x6 x7 x8 x9 O R Y h U b Q X Z S s M K1 K2 E;obtain⟨⟨x0,x1,x2,x3,x4,x5,x6,x7,x8,x9⟩,_⟩:=zaj A7.o;obtain⟨⟨O,R,Y,h,U,b,Q,X,Z,S⟩,s⟩:=zaj x.o;have A2:=i.2.1;have A8:=i.2.2;have K:Hid (zbe t 1 n free=if 24<zb2 t+n∨free<ze2 (zb2 t+n) then 6 else 0):=by rw[Hid,zbe,if_neg l,if_neg (by omega),if_neg m,if_neg NN]
  obtain⟨q,k⟩:∃q,q=zb2 t:=⟨_,rfl⟩;rw[←k] at K A2 A8;rw[←k];clear i l m NN k hq
  cases hrm:(decide (q+n≤24)&&decide (ze2 (q+n)≤free)) with
  |false=>
   have N:Hid (zbe t 1 n free=6):=by
    rw[Hid,K.o,if_pos];by_cases e:q+n≤24
    ·rw[show decide (q+n≤24)=true from by simpa using e,Bool.true_and] at hrm;simp at hrm;omega
    ·omega
   have J:Hid (zau t 1 n free=t):=by rw[Hid,zau,N.o];rfl
   have A:=zhs (q+n) free I;rw[hrm] at A;clear hrm K;go_wp2_with fail;refine A.mono ?_;rintro e w3 ⟨rfl,rfl⟩;go_wp2;refine bodyPost_ret (v:=.tuple #[.agg #[.int .i64 t.seq,.slice a t.info.length c,.slice z t.data.length c',.slice r t.rev.length d,.bool t.h0.on,.int .i64 t.h0.left,.bool t.h1.on,.int .i64 t.h1.left,.bool t.h2.on,.int .i64 t.h2.left],.int .i64 6]) (by simp[results,results80,go_sem,O,R,Y,h,U,b,Q,X,Z,S,ho]) rfl ⟨_,by rw[N.o],?_⟩;refine⟨?_,?_,.inl rfl⟩
   ·rw[J.o];refine p.o.below ?_
    repeat refine Below.setCell ?_ (by simp) _
    exact D.o
   ·repeat refine Below.setCell ?_ (by simp) _
    exact D.o
  |true=>
   have N:Hid (zbe t 1 n free=0):=by
    rw[Hid,K.o,if_neg];simp at hrm;omega
   have J:Hid (zau t 1 n free={t with h1:=⟨true,n⟩}):=by rw[Hid,zau,N.o];rfl
   have A:=zhs (q+n) free I;rw[hrm] at A;clear hrm K;go_wp2_with fail;refine A.mono ?_;rintro e w3 ⟨rfl,rfl⟩;go_wp2_with fail;refine(zcx _ t _ (y.o.below D.o) (by omega) (by omega) (by omega)).mono ?_;rintro e w4 ⟨va,vd,vr,rfl,C,j⟩;obtain⟨a1,c1,rfl,_,_⟩:=SegC.of_owns C.2.1;obtain⟨a2,c2,rfl,_,_⟩:=SegC.of_owns C.2.2.1;obtain⟨a3,c3,rfl,_,_⟩:=SegI.of_owns C.2.2.2;have L:=zab C;have B1:=C.lt;have A3:=zab (zae D.o j);have A0:=zab (zad j A6 x.o);clear x0 x1 x2 x3 x4 x5 x6 x7 x8 x9 O R Y h U b Q X Z S s j C D;obtain⟨⟨O,R,Y,h,U,b,Q,X,Z,S⟩,s⟩:=zaj A0.o;obtain⟨⟨z0,z1,z2,z3,z4,z5,z6,z7,z8,z9⟩,gf⟩:=zaj L.o.1;have HX:Hid (BoxTx ((w4.setCell ⟨I.heap.size,6,none⟩ (.bool true)).setCell ⟨I.heap.size,7,none⟩ (.int .i64 n)) I.heap.size {t with h1:=⟨true,n⟩} (.slice a1 t.info.length c1) (.slice a2 t.data.length c2) (.slice a3 t.rev.length c3)):=(L.o.set (t':={t with h1:=⟨true,t.h1.left⟩}) 6 (.bool true) rfl L.o.2.1 L.o.2.2.1 L.o.2.2.2).set (t':={t with h1:=⟨true,n⟩}) 7 (.int .i64 n) rfl (ownsRow_setCell_below L.o.2.1 (by simp) _) (ownsRow_setCell_below L.o.2.2.1 (by simp) _) (ownsRow_setCell_below L.o.2.2.2 (by simp) _);go_wp2;refine bodyPost_ret (v:=.tuple #[.agg #[.int .i64 t.seq,.slice a1 t.info.length c1,.slice a2 t.data.length c2,.slice a3 t.rev.length c3,.bool t.h0.on,.int .i64 t.h0.left,.bool true,.int .i64 n,.bool t.h2.on,.int .i64 t.h2.left],.int .i64 0]) (by simp[results,results80,go_sem,O,R,Y,h,U,b,Q,X,Z,S]) rfl ⟨_,by rw[N.o],?_⟩;rw[J.o];refine⟨?_,?_,.inr (HX.o.fromR (t:={t with h1:=⟨true,n⟩}) (by omega))⟩
   ·refine BoxTx.is (t:={t with h1:=⟨true,n⟩}) (B:=I.heap.size) ?_ N1.o N2.o N3.o
    repeat refine BoxTx.other ?_ (by simp;omega) _
    exact HX.o
   ·repeat refine Below.setCell ?_ (by simp;try omega) _
    exact A3.o
theorem zw8 (v:Value)(t:Tx)(n free:Int)(w:World)(hT:IsTx w v t)(r1:t.info.length*24≤140737488355328)(r2:t.data.length*24≤140737488355328)(hg:za8 t=true)(ho:t.h2.on=true):
  Calls prog 80 #[v,.int .i64 2,.int .i64 n,.int .i64 free] w fun e w'=>∃v2,e=.returned (.tuple #[v2,.int .i64 (zbe t 2 n free)])∧IsTx w' v2 (zau t 2 n free)∧Below w.heap.size w w'∧(v2=v∨za0 w.heap.size v2 (zau t 2 n free)):=by
 have Z:=zab ho;clear ho;have K:=zab hT;obtain⟨a,c,O,j,r,d,rfl,U,L,k,C,I,J⟩:=hT;have N1:=zab C;have N2:=zab I;have N3:=zab J;clear U L k C I J;go_enter func80,ntmps80;go_wp2_with fail;refine(zb8 _ t _ (K.o.below (zae (zaa _ _) (zaa _ _))) r1 r2).mono ?_;rintro e F ⟨rfl,A⟩;have A1:w.heap.size+1<F.heap.size:=by have:=A.size;simp at this;omega
 have A0:w.heap.size<F.heap.size:=by omega
 have b:=zab (zhe A);have i:=zab (zhx A);obtain⟨⟨x0,x1,x2,x3,x4,x5,x6,x7,x8,x9⟩,_⟩:=zaj b.o;obtain⟨⟨N,R,S,h,m,Y,Q,M,X,l⟩,ff⟩:=zaj i.o;have B:=zab (zae (zae (zaa _ _) (zaa _ _)) A);clear A;have ho:=Z.o;have E:Hid (zbe t 2 n free=5):=by rw[Hid,zbe,if_neg (by rw[hg];simp),if_neg (by omega),show zeq t 2=t.h2 from rfl,if_pos ho]
 have D:Hid (zau t 2 n free=t):=by rw[Hid,zau,E.o];rfl
 have hw:zao 2 0 2=true:=rfl;go_wp2_with (go_at_call 117;refine(zbn _ _).mono ?_;rintro e w' ⟨rfl,rfl⟩);refine bodyPost_ret (v:=.tuple #[.agg #[.int .i64 t.seq,.slice a t.info.length c,.slice O t.data.length j,.slice r t.rev.length d,.bool t.h0.on,.int .i64 t.h0.left,.bool t.h1.on,.int .i64 t.h1.left,.bool t.h2.on,.int .i64 t.h2.left],.int .i64 5]) (by simp[results,results80,go_sem,N,R,S,h,m,Y,Q,M,X,l,ho]) rfl ⟨_,by rw[E.o],?_⟩;refine⟨?_,?_,.inl rfl⟩
 ·rw[D.o];refine K.o.below ?_
  repeat refine Below.setCell ?_ (by simp) _
  exact B.o
 ·repeat refine Below.setCell ?_ (by simp) _
  exact B.o
theorem ztj (v:Value)(t:Tx)(n free:Int)(w:World)(hT:IsTx w v t)(r1:t.info.length*24≤140737488355328)(r2:t.data.length*24≤140737488355328)(hg:za8 t=true)(ho:t.h2.on=false):
  Calls prog 80 #[v,.int .i64 2,.int .i64 n,.int .i64 free] w fun e w'=>∃v2,e=.returned (.tuple #[v2,.int .i64 (zbe t 2 n free)])∧IsTx w' v2 (zau t 2 n free)∧Below w.heap.size w w'∧(v2=v∨za0 w.heap.size v2 (zau t 2 n free)):=by
 have A4:=za1 hg;have i:=zc6 hg;have HO:=zab ho;clear ho;have p:=zab hT;obtain⟨a,c,z,c',r,d,rfl,hM,hD,hR,n1,n2,n3⟩:=hT;have N1:=zab n1;have N2:=zab n2;have N3:=zab n3;clear hM hD hR n1 n2 n3;go_enter func80,ntmps80;go_wp2_with fail;refine(zb8 _ t _ (p.o.below (zae (zaa _ _) (zaa _ _))) r1 r2).mono ?_;rintro e w1 ⟨rfl,F⟩;have A5:w.heap.size+1<w1.heap.size:=by have:=F.size;simp at this;omega
 have A1:w.heap.size<w1.heap.size:=by omega
 have K1:=zab (zhe F);have K2:=zab (zhx F);obtain⟨⟨x0,x1,x2,x3,x4,x5,x6,x7,x8,x9⟩,_⟩:=zaj K1.o;obtain⟨⟨O,R,Y,h,U,b,Q,X,Z,S⟩,s⟩:=zaj K2.o;have E:=zab (zae (zae (zaa _ _) (zaa _ _)) F);clear F;have ho:=HO.o;have l:¬za8 t=false:=by rw[hg];simp
 have m:¬(zeq t 2).on=true:=by rw[show zeq t 2=t.h2 from rfl,ho];simp
 have y:Hid (IsTx w (.agg #[.int .i64 t.seq,.slice a t.info.length c,.slice z t.data.length c',.slice r t.rev.length d,.bool t.h0.on,.int .i64 t.h0.left,.bool t.h1.on,.int .i64 t.h1.left,.bool false,.int .i64 t.h2.left]) t):=by have:=p.o;rw[ho] at this;exact this
 have hw:zao 2 0 2=true:=rfl
 cases hq:zao n 0 12 with
 |false=>
  have u:n<0∨12<n:=by
   by_cases e:0≤n∧n≤12
   ·rw[zbg.2 e] at hq;cases hq
   ·omega
  have N:Hid (zbe t 2 n free=2):=by rw[Hid,zbe,if_neg l,if_neg (by omega),if_neg m,if_pos u]
  have J:Hid (zau t 2 n free=t):=by rw[Hid,zau,N.o];rfl
  clear l m u i A4;go_wp2_with (first|(go_at_call 117;refine(zbn _ _).mono ?_;rintro e w' ⟨rfl,rfl⟩)|(go_at_call 59;refine(zay _ _ _ _).mono ?_;rintro e w' ⟨rfl,rfl⟩));refine bodyPost_ret (v:=.tuple #[.agg #[.int .i64 t.seq,.slice a t.info.length c,.slice z t.data.length c',.slice r t.rev.length d,.bool t.h0.on,.int .i64 t.h0.left,.bool t.h1.on,.int .i64 t.h1.left,.bool t.h2.on,.int .i64 t.h2.left],.int .i64 2]) (by simp[results,results80,go_sem,O,R,Y,h,U,b,Q,X,Z,S,ho]) rfl ⟨_,by rw[N.o],?_⟩;refine⟨?_,?_,.inl rfl⟩
  ·rw[J.o];refine p.o.below ?_
   repeat refine Below.setCell ?_ (by simp) _
   exact E.o
  ·repeat refine Below.setCell ?_ (by simp) _
   exact E.o
 |true=>
  have B0:=zbg.1 hq;have NN:¬(n<0∨12<n):=by omega
  go_wp2_with (first|(go_at_call 117;refine(zbn _ _).mono ?_;rintro e w' ⟨rfl,rfl⟩)|(go_at_call 59;refine(zay _ _ _ _).mono ?_;rintro e w' ⟨rfl,rfl⟩));refine(zju _ t _ (y.o.below E.o)).mono ?_;rintro e I ⟨rfl,M⟩;have A6:w.heap.size+1<I.heap.size:=by have:=M.size;omega
  have A9:w.heap.size<I.heap.size:=by omega
  have A7:=zab (zad M A1 K1.o);have x:=zab (zad M A5 K2.o);have D:=zab (zae E.o M);clear x0 x1 x2 x3 x4 x5 x6 x7 x8 x9 O R Y h U b Q X Z S s M K1 K2 E;obtain⟨⟨x0,x1,x2,x3,x4,x5,x6,x7,x8,x9⟩,_⟩:=zaj A7.o;obtain⟨⟨O,R,Y,h,U,b,Q,X,Z,S⟩,s⟩:=zaj x.o;have A2:=i.2.1;have A8:=i.2.2;have K:Hid (zbe t 2 n free=if 24<zb2 t+n∨free<ze2 (zb2 t+n) then 6 else 0):=by rw[Hid,zbe,if_neg l,if_neg (by omega),if_neg m,if_neg NN]
  obtain⟨q,k⟩:∃q,q=zb2 t:=⟨_,rfl⟩;rw[←k] at K A2 A8;rw[←k];clear i l m NN k hq
  cases hrm:(decide (q+n≤24)&&decide (ze2 (q+n)≤free)) with
  |false=>
   have N:Hid (zbe t 2 n free=6):=by
    rw[Hid,K.o,if_pos];by_cases e:q+n≤24
    ·rw[show decide (q+n≤24)=true from by simpa using e,Bool.true_and] at hrm;simp at hrm;omega
    ·omega
   have J:Hid (zau t 2 n free=t):=by rw[Hid,zau,N.o];rfl
   have A:=zhs (q+n) free I;rw[hrm] at A;clear hrm K;go_wp2_with fail;refine A.mono ?_;rintro e w3 ⟨rfl,rfl⟩;go_wp2;refine bodyPost_ret (v:=.tuple #[.agg #[.int .i64 t.seq,.slice a t.info.length c,.slice z t.data.length c',.slice r t.rev.length d,.bool t.h0.on,.int .i64 t.h0.left,.bool t.h1.on,.int .i64 t.h1.left,.bool t.h2.on,.int .i64 t.h2.left],.int .i64 6]) (by simp[results,results80,go_sem,O,R,Y,h,U,b,Q,X,Z,S,ho]) rfl ⟨_,by rw[N.o],?_⟩;refine⟨?_,?_,.inl rfl⟩
   ·rw[J.o];refine p.o.below ?_
    repeat refine Below.setCell ?_ (by simp) _
    exact D.o
   ·repeat refine Below.setCell ?_ (by simp) _
    exact D.o
  |true=>
   have N:Hid (zbe t 2 n free=0):=by
    rw[Hid,K.o,if_neg];simp at hrm;omega
   have J:Hid (zau t 2 n free={t with h2:=⟨true,n⟩}):=by rw[Hid,zau,N.o];rfl
   have A:=zhs (q+n) free I;rw[hrm] at A;clear hrm K;go_wp2_with fail;refine A.mono ?_;rintro e w3 ⟨rfl,rfl⟩;go_wp2_with fail;refine(zcx _ t _ (y.o.below D.o) (by omega) (by omega) (by omega)).mono ?_;rintro e w4 ⟨va,vd,vr,rfl,C,j⟩;obtain⟨a1,c1,rfl,_,_⟩:=SegC.of_owns C.2.1;obtain⟨a2,c2,rfl,_,_⟩:=SegC.of_owns C.2.2.1;obtain⟨a3,c3,rfl,_,_⟩:=SegI.of_owns C.2.2.2;have L:=zab C;have B1:=C.lt;have A3:=zab (zae D.o j);have A0:=zab (zad j A6 x.o);clear x0 x1 x2 x3 x4 x5 x6 x7 x8 x9 O R Y h U b Q X Z S s j C D;obtain⟨⟨O,R,Y,h,U,b,Q,X,Z,S⟩,s⟩:=zaj A0.o;obtain⟨⟨z0,z1,z2,z3,z4,z5,z6,z7,z8,z9⟩,gf⟩:=zaj L.o.1;have HX:Hid (BoxTx ((w4.setCell ⟨I.heap.size,8,none⟩ (.bool true)).setCell ⟨I.heap.size,9,none⟩ (.int .i64 n)) I.heap.size {t with h2:=⟨true,n⟩} (.slice a1 t.info.length c1) (.slice a2 t.data.length c2) (.slice a3 t.rev.length c3)):=(L.o.set (t':={t with h2:=⟨true,t.h2.left⟩}) 8 (.bool true) rfl L.o.2.1 L.o.2.2.1 L.o.2.2.2).set (t':={t with h2:=⟨true,n⟩}) 9 (.int .i64 n) rfl (ownsRow_setCell_below L.o.2.1 (by simp) _) (ownsRow_setCell_below L.o.2.2.1 (by simp) _) (ownsRow_setCell_below L.o.2.2.2 (by simp) _);go_wp2;refine bodyPost_ret (v:=.tuple #[.agg #[.int .i64 t.seq,.slice a1 t.info.length c1,.slice a2 t.data.length c2,.slice a3 t.rev.length c3,.bool t.h0.on,.int .i64 t.h0.left,.bool t.h1.on,.int .i64 t.h1.left,.bool true,.int .i64 n],.int .i64 0]) (by simp[results,results80,go_sem,O,R,Y,h,U,b,Q,X,Z,S]) rfl ⟨_,by rw[N.o],?_⟩;rw[J.o];refine⟨?_,?_,.inr (HX.o.fromR (t:={t with h2:=⟨true,n⟩}) (by omega))⟩
   ·refine BoxTx.is (t:={t with h2:=⟨true,n⟩}) (B:=I.heap.size) ?_ N1.o N2.o N3.o
    repeat refine BoxTx.other ?_ (by simp;omega) _
    exact HX.o
   ·repeat refine Below.setCell ?_ (by simp;try omega) _
    exact A3.o
theorem ztk (v:Value)(t:Tx)(h n free:Int)(w:World)(hT:IsTx w v t)(r1:t.info.length*24≤140737488355328)(r2:t.data.length*24≤140737488355328):
  Calls prog 80 #[v,.int .i64 h,.int .i64 n,.int .i64 free] w fun e w'=>∃v2,e=.returned (.tuple #[v2,.int .i64 (zbe t h n free)])∧IsTx w' v2 (zau t h n free)∧Below w.heap.size w w'∧(v2=v∨za0 w.heap.size v2 (zau t h n free)):=by
 cases hg:za8 t with
 |false=>exact zw5 v t h n free w hT r1 r2 hg
 |true=>
  cases hw:zao h 0 2 with
  |false=>exact ztg v t h n free w hT r1 r2 hg hw
  |true=>
   have hr:=zbg.1 hw;have A:h=0∨h=1∨h=2:=by omega
   rcases A with rfl|rfl|rfl
   ·cases ho:t.h0.on with
    |true=>exact zw6 v t n free w hT r1 r2 hg ho
    |false=>exact zth v t n free w hT r1 r2 hg ho
   ·cases ho:t.h1.on with
    |true=>exact zw7 v t n free w hT r1 r2 hg ho
    |false=>exact zti v t n free w hT r1 r2 hg ho
   ·cases ho:t.h2.on with
    |true=>exact zw8 v t n free w hT r1 r2 hg ho
    |false=>exact ztj v t n free w hT r1 r2 hg ho
open Go.RowKit
def zig (t:Tx)(h b:Int):Tx:=if nameE t h b=0 then nameT t h b else t
theorem z5r (B:Nat)(t:Tx)(va vd vr:Value)(b:Int)(w:World)(hbx:BoxTx w B t va vd vr)(r1:t.info.length≤1000)(r2:t.data.length≤1000)(r3:t.rev.length≤1000)(hl:0≤t.h0.left∧t.h0.left≤24):
  Calls prog 154 #[.pointer (some ⟨B,0,none⟩),.int .i64 0,.int .i64 b] w fun e w'=>e=.returned (.int .i64 (nameE t 0 b))∧BoxTx w' B (zig t 0 b) va vd vr∧Below B w w':=by
 have Z:=zab (hbx.is (by unfold maxLen;omega) (by unfold maxLen;omega) (by unfold maxLen;omega));obtain⟨a1,c1,rfl,_,_⟩:=SegC.of_owns hbx.2.1;obtain⟨a2,c2,rfl,_,_⟩:=SegC.of_owns hbx.2.2.1;obtain⟨a3,c3,rfl,_,_⟩:=SegI.of_owns hbx.2.2.2;have O:=zab hbx;have A0:=hbx.lt;clear hbx r1 r2 r3;obtain⟨⟨N,S,M,J,X,Q,U,L,K,R⟩,I⟩:=zaj O.o.1;go_enter func154,ntmps154;go_wp2_with fail;refine(zgz _ t b _ Z.o).mono ?_;rintro e Y ⟨rfl,E⟩;have A:=zab (O.o.below E);have D:Hid (Below B w Y):=E.mono (by omega);clear N S M J X Q U L K R I E;obtain⟨⟨N,S,M,J,X,Q,U,L,K,R⟩,I⟩:=zaj A.o.1
 cases hn:zcq t b with
 |true=>
  have C:Hid (nameE t 0 b=0):=by rw[Hid,nameE,if_pos hn]
  have F:Hid (nameT t 0 b=t):=by rw[Hid,nameT,if_pos hn]
  go_wp2;go_ret;exact⟨by rw[C.o];rfl,by rw[zig,if_pos C.o,F.o];exact A.o,D.o⟩
 |false=>
  by_cases h0:t.h0.left=0
  ·have C:Hid (nameE t 0 b=7):=by rw[Hid,nameE,if_neg (by rw[hn];simp),if_pos (show(zeq t 0).left=0 from h0)]
   have H0:=zab h0;clear hn;go_wp2;go_ret;exact⟨by rw[C.o];rfl,by rw[zig,if_neg (by rw[C.o];decide)];exact A.o,D.o⟩
  ·have C:Hid (nameE t 0 b=0):=by rw[Hid,nameE,if_neg (by rw[hn];simp),if_neg (show¬(zeq t 0).left=0 from h0)]
   have F:Hid (nameT t 0 b={t with h0:=⟨t.h0.on,t.h0.left - 1⟩}):=by rw[Hid,nameT,if_neg (by rw[hn];simp)];rfl
   go_wp2;go_ret;refine⟨by rw[C.o];rfl,?_,D.o.setCell (by simp) _⟩;rw[zig,if_pos C.o,F.o];exact A.o.set (t':={t with h0:=⟨t.h0.on,t.h0.left - 1⟩}) 5 (.int .i64 (t.h0.left - 1)) rfl A.o.2.1 A.o.2.2.1 A.o.2.2.2
theorem z5s (B:Nat)(t:Tx)(va vd vr:Value)(b:Int)(w:World)(hbx:BoxTx w B t va vd vr)(r1:t.info.length≤1000)(r2:t.data.length≤1000)(r3:t.rev.length≤1000)(hl:0≤t.h1.left∧t.h1.left≤24):
  Calls prog 154 #[.pointer (some ⟨B,0,none⟩),.int .i64 1,.int .i64 b] w fun e w'=>e=.returned (.int .i64 (nameE t 1 b))∧BoxTx w' B (zig t 1 b) va vd vr∧Below B w w':=by
 have Z:=zab (hbx.is (by unfold maxLen;omega) (by unfold maxLen;omega) (by unfold maxLen;omega));obtain⟨a1,c1,rfl,_,_⟩:=SegC.of_owns hbx.2.1;obtain⟨a2,c2,rfl,_,_⟩:=SegC.of_owns hbx.2.2.1;obtain⟨a3,c3,rfl,_,_⟩:=SegI.of_owns hbx.2.2.2;have O:=zab hbx;have A0:=hbx.lt;clear hbx r1 r2 r3;obtain⟨⟨N,S,M,J,X,Q,U,L,K,R⟩,I⟩:=zaj O.o.1;go_enter func154,ntmps154;go_wp2_with fail;refine(zgz _ t b _ Z.o).mono ?_;rintro e Y ⟨rfl,E⟩;have A:=zab (O.o.below E);have D:Hid (Below B w Y):=E.mono (by omega);clear N S M J X Q U L K R I E;obtain⟨⟨N,S,M,J,X,Q,U,L,K,R⟩,I⟩:=zaj A.o.1
 cases hn:zcq t b with
 |true=>
  have C:Hid (nameE t 1 b=0):=by rw[Hid,nameE,if_pos hn]
  have F:Hid (nameT t 1 b=t):=by rw[Hid,nameT,if_pos hn]
  go_wp2;go_ret;exact⟨by rw[C.o];rfl,by rw[zig,if_pos C.o,F.o];exact A.o,D.o⟩
 |false=>
  by_cases h0:t.h1.left=0
  ·have C:Hid (nameE t 1 b=7):=by rw[Hid,nameE,if_neg (by rw[hn];simp),if_pos (show(zeq t 1).left=0 from h0)]
   have H0:=zab h0;clear hn;go_wp2;go_ret;exact⟨by rw[C.o];rfl,by rw[zig,if_neg (by rw[C.o];decide)];exact A.o,D.o⟩
  ·have C:Hid (nameE t 1 b=0):=by rw[Hid,nameE,if_neg (by rw[hn];simp),if_neg (show¬(zeq t 1).left=0 from h0)]
   have F:Hid (nameT t 1 b={t with h1:=⟨t.h1.on,t.h1.left - 1⟩}):=by rw[Hid,nameT,if_neg (by rw[hn];simp)];rfl
   go_wp2;go_ret;refine⟨by rw[C.o];rfl,?_,D.o.setCell (by simp) _⟩;rw[zig,if_pos C.o,F.o];exact A.o.set (t':={t with h1:=⟨t.h1.on,t.h1.left - 1⟩}) 7 (.int .i64 (t.h1.left - 1)) rfl A.o.2.1 A.o.2.2.1 A.o.2.2.2
theorem z5t (B:Nat)(t:Tx)(va vd vr:Value)(b:Int)(w:World)(hbx:BoxTx w B t va vd vr)(r1:t.info.length≤1000)(r2:t.data.length≤1000)(r3:t.rev.length≤1000)(hl:0≤t.h2.left∧t.h2.left≤24):
  Calls prog 154 #[.pointer (some ⟨B,0,none⟩),.int .i64 2,.int .i64 b] w fun e w'=>e=.returned (.int .i64 (nameE t 2 b))∧BoxTx w' B (zig t 2 b) va vd vr∧Below B w w':=by
 have Z:=zab (hbx.is (by unfold maxLen;omega) (by unfold maxLen;omega) (by unfold maxLen;omega));obtain⟨a1,c1,rfl,_,_⟩:=SegC.of_owns hbx.2.1;obtain⟨a2,c2,rfl,_,_⟩:=SegC.of_owns hbx.2.2.1;obtain⟨a3,c3,rfl,_,_⟩:=SegI.of_owns hbx.2.2.2;have O:=zab hbx;have A0:=hbx.lt;clear hbx r1 r2 r3;obtain⟨⟨N,S,M,J,X,Q,U,L,K,R⟩,I⟩:=zaj O.o.1;go_enter func154,ntmps154;go_wp2_with fail;refine(zgz _ t b _ Z.o).mono ?_;rintro e Y ⟨rfl,E⟩;have A:=zab (O.o.below E);have D:Hid (Below B w Y):=E.mono (by omega);clear N S M J X Q U L K R I E;obtain⟨⟨N,S,M,J,X,Q,U,L,K,R⟩,I⟩:=zaj A.o.1
 cases hn:zcq t b with
 |true=>
  have C:Hid (nameE t 2 b=0):=by rw[Hid,nameE,if_pos hn]
  have F:Hid (nameT t 2 b=t):=by rw[Hid,nameT,if_pos hn]
  go_wp2;go_ret;exact⟨by rw[C.o];rfl,by rw[zig,if_pos C.o,F.o];exact A.o,D.o⟩
 |false=>
  by_cases h0:t.h2.left=0
  ·have C:Hid (nameE t 2 b=7):=by rw[Hid,nameE,if_neg (by rw[hn];simp),if_pos (show(zeq t 2).left=0 from h0)]
   have H0:=zab h0;clear hn;go_wp2;go_ret;exact⟨by rw[C.o];rfl,by rw[zig,if_neg (by rw[C.o];decide)];exact A.o,D.o⟩
  ·have C:Hid (nameE t 2 b=0):=by rw[Hid,nameE,if_neg (by rw[hn];simp),if_neg (show¬(zeq t 2).left=0 from h0)]
   have F:Hid (nameT t 2 b={t with h2:=⟨t.h2.on,t.h2.left - 1⟩}):=by rw[Hid,nameT,if_neg (by rw[hn];simp)];rfl
   go_wp2;go_ret;refine⟨by rw[C.o];rfl,?_,D.o.setCell (by simp) _⟩;rw[zig,if_pos C.o,F.o];exact A.o.set (t':={t with h2:=⟨t.h2.on,t.h2.left - 1⟩}) 9 (.int .i64 (t.h2.left - 1)) rfl A.o.2.1 A.o.2.2.1 A.o.2.2.2
theorem zk8 (B:Nat)(t:Tx)(va vd vr:Value)(h b:Int)(w:World)(hbx:BoxTx w B t va vd vr)(hg:za8 t=true)(hh:h=0∨h=1∨h=2):
  Calls prog 154 #[.pointer (some ⟨B,0,none⟩),.int .i64 h,.int .i64 b] w fun e w'=>e=.returned (.int .i64 (nameE t h b))∧BoxTx w' B (zig t h b) va vd vr∧Below B w w':=by
 have hs:=za1 hg;rcases hh with rfl|rfl|rfl
 ·have:=(zep _).1 (zlz hg 0);exact z5r B t va vd vr b w hbx (by omega) (by omega) (by omega) ⟨this.1,this.2.1⟩
 ·have:=(zep _).1 (zlz hg 1);exact z5s B t va vd vr b w hbx (by omega) (by omega) (by omega) ⟨this.1,this.2.1⟩
 ·have:=(zep _).1 (zlz hg 2);exact z5t B t va vd vr b w hbx (by omega) (by omega) (by omega) ⟨this.1,this.2.1⟩
open Go.RowKit
theorem zjx {α:Type}(key:α→Int)(l:List α)(b:Int)(x:α):(zbj key l b x).length≤2*l.length+1:=by
 have h1:=List.length_filter_le (fun y=>decide (key y<b)) l;have h2:=List.length_filter_le (fun y=>decide (b<key y)) l;simp[zbj];omega
theorem zii {α:Type}(key:α→Int)(l:List α)(b:Int):(zax key l b).length≤2*l.length:=by
 have h1:=List.length_filter_le (fun y=>decide (key y<b)) l;have h2:=List.length_filter_le (fun y=>decide (b<key y)) l;simp[zax];omega
theorem zw9 (v:Value)(t:Tx)(h b:Int)(s:ByteArray)(w:World)(hT:IsTx w v t)(r1:t.info.length*24≤140737488355328)(r2:t.data.length*24≤140737488355328)(hr:¬reachE t h b=0):
  Calls prog 121 #[v,.int .i64 h,.int .i64 b,.string s] w fun e w'=>∃v2,e=.returned (.tuple #[v2,.int .i64 (changeE t h b s)])∧IsTx w' v2 (zaf t h b s)∧Below w.heap.size w w'∧(v2=v∨za0 w.heap.size v2 (zaf t h b s)):=by
 have N:=zab hT;obtain⟨a,c,R,l,r,d,rfl,I,C,M,D,K,L⟩:=hT;have HM:=zab I;have HD:=zab C;have HR:=zab M;have N1:=zab D;have N2:=zab K;have N3:=zab L;clear I C M D K L;go_enter func121,ntmps121;go_wp2_with fail;refine(zcj _ t h b _ (N.o.below (zae (zaa _ _) (zaa _ _))) r1 r2).mono ?_;rintro e J ⟨rfl,A⟩;have A1:w.heap.size+1<J.heap.size:=by have:=A.size;simp at this;omega
 have A0:w.heap.size<J.heap.size:=by omega
 have i:=zab (zhe A);have k:=zab (zhx A);obtain⟨⟨x0,x1,x2,x3,x4,x5,x6,x7,x8,x9⟩,_⟩:=zaj i.o;obtain⟨⟨Q,U,X,j,n,Z,S,O,Y,m⟩,ff⟩:=zaj k.o;have B:=zab (zae (zae (zaa _ _) (zaa _ _)) A);clear A;have F:Hid (changeE t h b s=reachE t h b):=by rw[Hid,changeE,if_pos hr]
 have E:Hid (zaf t h b s=t):=by rw[Hid,zaf,if_neg (by rw[F.o];exact hr)]
 generalize reachE t h b=z at *;go_wp2;refine bodyPost_ret (v:=.tuple #[.agg #[.int .i64 t.seq,.slice a t.info.length c,.slice R t.data.length l,.slice r t.rev.length d,.bool t.h0.on,.int .i64 t.h0.left,.bool t.h1.on,.int .i64 t.h1.left,.bool t.h2.on,.int .i64 t.h2.left],.int .i64 z]) (by simp[results,results121,go_sem,Q,U,X,j,n,Z,S,O,Y,m]) rfl ⟨_,by rw[F.o],?_⟩;refine⟨?_,?_,.inl rfl⟩
 ·rw[E.o];refine N.o.below ?_
  repeat refine Below.setCell ?_ (by simp) _
  exact B.o
 ·repeat refine Below.setCell ?_ (by simp) _
  exact B.o
theorem zrg (v:Value)(t:Tx)(h b:Int)(s:ByteArray)(w:World)(hT:IsTx w v t)(r1:t.info.length*24≤140737488355328)(r2:t.data.length*24≤140737488355328)(hr:reachE t h b=0)(hs:zbd s=false):
  Calls prog 121 #[v,.int .i64 h,.int .i64 b,.string s] w fun e w'=>∃v2,e=.returned (.tuple #[v2,.int .i64 (changeE t h b s)])∧IsTx w' v2 (zaf t h b s)∧Below w.heap.size w w'∧(v2=v∨za0 w.heap.size v2 (zaf t h b s)):=by
 have N:=zab hT;obtain⟨a,c,R,l,r,d,rfl,I,C,M,D,K,L⟩:=hT;have HM:=zab I;have HD:=zab C;have HR:=zab M;have N1:=zab D;have N2:=zab K;have N3:=zab L;clear I C M D K L;go_enter func121,ntmps121;go_wp2_with fail;refine(zcj _ t h b _ (N.o.below (zae (zaa _ _) (zaa _ _))) r1 r2).mono ?_;rintro e J ⟨rfl,A⟩;have A1:w.heap.size+1<J.heap.size:=by have:=A.size;simp at this;omega
 have A0:w.heap.size<J.heap.size:=by omega
 have i:=zab (zhe A);have k:=zab (zhx A);obtain⟨⟨x0,x1,x2,x3,x4,x5,x6,x7,x8,x9⟩,_⟩:=zaj i.o;obtain⟨⟨Q,U,X,j,n,Z,S,O,Y,m⟩,ff⟩:=zaj k.o;have B:=zab (zae (zae (zaa _ _) (zaa _ _)) A);clear A;have F:Hid (changeE t h b s=1):=by rw[Hid,changeE,if_neg (by rw[hr];simp),if_pos hs]
 have E:Hid (zaf t h b s=t):=by rw[Hid,zaf,if_neg (by rw[F.o];decide)]
 have hz:¬(s.size:Int)=32:=by simpa[zbd] using hs
 clear hs;go_wp2;refine bodyPost_ret (v:=.tuple #[.agg #[.int .i64 t.seq,.slice a t.info.length c,.slice R t.data.length l,.slice r t.rev.length d,.bool t.h0.on,.int .i64 t.h0.left,.bool t.h1.on,.int .i64 t.h1.left,.bool t.h2.on,.int .i64 t.h2.left],.int .i64 1]) (by simp[results,results121,go_sem,Q,U,X,j,n,Z,S,O,Y,m]) rfl ⟨_,by rw[F.o],?_⟩;refine⟨?_,?_,.inl rfl⟩
 ·rw[E.o];refine N.o.below ?_
  repeat refine Below.setCell ?_ (by simp) _
  exact B.o
 ·repeat refine Below.setCell ?_ (by simp) _
  exact B.o
theorem zrh (v:Value)(t:Tx)(h b:Int)(s:ByteArray)(w:World)(hT:IsTx w v t)(r1:t.info.length*24≤140737488355328)(r2:t.data.length*24≤140737488355328)(hr:reachE t h b=0)(hs:zbd s=true)(hd:(zai b t.data).isSome=true):
  Calls prog 121 #[v,.int .i64 h,.int .i64 b,.string s] w fun e w'=>∃v2,e=.returned (.tuple #[v2,.int .i64 (changeE t h b s)])∧IsTx w' v2 (zaf t h b s)∧Below w.heap.size w w'∧(v2=v∨za0 w.heap.size v2 (zaf t h b s)):=by
 have HT:=zab hT;obtain⟨a,c,i,c',r,d,rfl,u,X,hR,Y,y,z⟩:=hT;have HM:=zab u;have HD:=zab X;have HR:=zab hR;have N1:=zab Y;have N2:=zab y;have N3:=zab z;clear u X hR Y y z;go_enter func121,ntmps121;go_wp2_with fail;refine(zcj _ t h b _ (HT.o.below (zae (zaa _ _) (zaa _ _))) r1 r2).mono ?_;rintro e x ⟨rfl,A⟩;have j:w.heap.size+1<x.heap.size:=by have:=A.size;simp at this;omega
 have N:w.heap.size<x.heap.size:=by omega
 have O:=zab (zhe A);have R:=zab (zhx A);obtain⟨⟨m,x1,k,p,q,x5,x6,x7,x8,x9⟩,_⟩:=zaj O.o;obtain⟨⟨F,J,K,Q,U,M,I,E,L,S⟩,l⟩:=zaj R.o;have C:=zab (zae (zae (zaa _ _) (zaa _ _)) A);clear A;have HE:Hid (changeE t h b s=8):=by rw[Hid,changeE,if_neg (by rw[hr];simp),if_neg (by rw[hs];simp),if_pos hd]
 have Z:Hid (zaf t h b s=t):=by rw[Hid,zaf,if_neg (by rw[HE.o];decide)]
 have hz:(s.size:Int)=32:=by simpa[zbd] using hs
 clear hs;go_wp2_with fail;refine(zi3 i c' t.data b _ (HD.o.below C.o) N2.o).mono ?_;rintro e w2 ⟨rfl,B⟩;have A2:w.heap.size+1<w2.heap.size:=by have:=B.size;omega
 have A1:w.heap.size<w2.heap.size:=by omega
 have A0:=zab (zad B N O.o);have n:=zab (zad B j R.o);have D:=zab (zae C.o B);clear m x1 k p q x5 x6 x7 x8 x9 F J K Q U M I E L S l B O R C;obtain⟨⟨m,x1,k,p,q,x5,x6,x7,x8,x9⟩,_⟩:=zaj A0.o;obtain⟨⟨F,J,K,Q,U,M,I,E,L,S⟩,l⟩:=zaj n.o;go_wp2;refine bodyPost_ret (v:=.tuple #[.agg #[.int .i64 t.seq,.slice a t.info.length c,.slice i t.data.length c',.slice r t.rev.length d,.bool t.h0.on,.int .i64 t.h0.left,.bool t.h1.on,.int .i64 t.h1.left,.bool t.h2.on,.int .i64 t.h2.left],.int .i64 8]) (by simp[results,results121,go_sem,F,J,K,Q,U,M,I,E,L,S]) rfl ⟨_,by rw[HE.o],?_⟩;refine⟨?_,?_,.inl rfl⟩
 ·rw[Z.o];refine HT.o.below ?_
  repeat refine Below.setCell ?_ (by simp) _
  exact D.o
 ·repeat refine Below.setCell ?_ (by simp) _
  exact D.o
theorem zmx (v:Value)(t:Tx)(h b:Int)(s:ByteArray)(w:World)(hT:IsTx w v t)(r1:t.info.length*24≤140737488355328)(r2:t.data.length*24≤140737488355328)(hr:reachE t h b=0)(hs:zbd s=true)(hd:(zai b t.data).isSome=false)(hn:¬nameE t h b=0):
  Calls prog 121 #[v,.int .i64 h,.int .i64 b,.string s] w fun e w'=>∃v2,e=.returned (.tuple #[v2,.int .i64 (changeE t h b s)])∧IsTx w' v2 (zaf t h b s)∧Below w.heap.size w w'∧(v2=v∨za0 w.heap.size v2 (zaf t h b s)):=by
 have N:=zce hr;have hg:=N.1;have hh:=N.2.1;clear N;have B2:=za1 hg;have HT:=zab hT;obtain⟨a,c,a',c',r,d,rfl,hM,hD,hR,n1,n2,n3⟩:=hT;have HM:=zab hM;have HD:=zab hD;have HR:=zab hR;have N1:=zab n1;have N2:=zab n2;have N3:=zab n3;clear hM hD hR n1 n2 n3;go_enter func121,ntmps121;go_wp2_with fail;refine(zcj _ t h b _ (HT.o.below (zae (zaa _ _) (zaa _ _))) r1 r2).mono ?_;rintro e w1 ⟨rfl,B⟩;have A9:w.heap.size+1<w1.heap.size:=by have:=B.size;simp at this;omega
 have A5:w.heap.size<w1.heap.size:=by omega
 have K1:=zab (zhe B);have K2:=zab (zhx B);obtain⟨⟨u,n,j,x,k,m,l,x7,p,y⟩,_⟩:=zaj K1.o;obtain⟨⟨I,L,S,i,Q,Y,J,R,X,O⟩,q⟩:=zaj K2.o;have M:=zab (zae (zae (zaa _ _) (zaa _ _)) B);clear B;have HE:Hid (changeE t h b s=nameE t h b):=by rw[Hid,changeE,if_neg (by rw[hr];simp),if_neg (by rw[hs];simp),if_neg (by rw[hd];simp)]
 have A8:Hid (zaf t h b s=t):=by rw[Hid,zaf,if_neg (by rw[HE.o];exact hn)]
 have hz:(s.size:Int)=32:=by simpa[zbd] using hs
 clear hs;go_wp2_with fail;refine(zi3 a' c' t.data b _ (HD.o.below M.o) N2.o).mono ?_;rintro e w2 ⟨rfl,C⟩;have B1:w.heap.size+1<w2.heap.size:=by have:=C.size;omega
 have A4:w.heap.size<w2.heap.size:=by omega
 have Z:=zab (zad C A5 K1.o);have U:=zab (zad C A9 K2.o);have K:=zab (zae M.o C);clear u n j x k m l x7 p y I L S i Q Y J R X O q C K1 K2 M;obtain⟨⟨u,n,j,x,k,m,l,x7,p,y⟩,_⟩:=zaj Z.o;obtain⟨⟨I,L,S,i,Q,Y,J,R,X,O⟩,q⟩:=zaj U.o;go_wp2_with fail;refine(zcx _ t _ (HT.o.below K.o) (by omega) (by omega) (by omega)).mono ?_;rintro e w4 ⟨va,vd,vr,rfl,A,E⟩;obtain⟨a1,c1,rfl,_,_⟩:=SegC.of_owns A.2.1;obtain⟨a2,c2,rfl,_,_⟩:=SegC.of_owns A.2.2.1;obtain⟨a3,c3,rfl,_,_⟩:=SegI.of_owns A.2.2.2;have BX:=zab A;have B3:=A.lt;have A2:=zab (zae K.o E);have A3:=zab (zad E A4 Z.o);have A1:=zab (zad E B1 U.o);clear u n j x k m l x7 p y I L S i Q Y J R X O q E A K Z U;obtain⟨⟨z0,z1,z2,z3,z4,z5,z6,z7,z8,z9⟩,gf⟩:=zaj BX.o.1;go_wp2_with fail;refine(zk8 w2.heap.size t _ _ _ h b w4 BX.o hg hh).mono ?_;rintro e w5 ⟨rfl,D,F⟩;have B0:=zab D;have B4:=D.lt;have A7:=zab ((F.block w.heap.size (by omega)).trans A3.o);have A6:=zab ((F.block (w.heap.size+1) (by omega)).trans A1.o);have A0:=zab (A2.o.trans (F.mono (by omega)));clear z0 z1 z2 z3 z4 z5 z6 z7 z8 z9 gf F D A2 A3 A1 BX;obtain⟨⟨u,n,j,x,k,m,l,x7,p,y⟩,_⟩:=zaj A7.o;obtain⟨⟨I,L,S,i,Q,Y,J,R,X,O⟩,q⟩:=zaj A6.o;clear B0;generalize nameE t h b=z at *;go_wp2;refine bodyPost_ret (v:=.tuple #[.agg #[.int .i64 t.seq,.slice a t.info.length c,.slice a' t.data.length c',.slice r t.rev.length d,.bool t.h0.on,.int .i64 t.h0.left,.bool t.h1.on,.int .i64 t.h1.left,.bool t.h2.on,.int .i64 t.h2.left],.int .i64 z]) (by simp[results,results121,go_sem,I,L,S,i,Q,Y,J,R,X,O]) rfl ⟨_,by rw[HE.o],?_⟩;refine⟨?_,?_,.inl rfl⟩
 ·rw[A8.o];refine HT.o.below ?_
  repeat refine Below.setCell ?_ (by simp) _
  exact A0.o
 ·repeat refine Below.setCell ?_ (by simp) _
  exact A0.o
theorem zxa (v:Value)(t:Tx)(h b:Int)(s:ByteArray)(w:World)(hT:IsTx w v t)(r1:t.info.length*24≤140737488355328)(r2:t.data.length*24≤140737488355328)(hr:reachE t h b=0)(hs:zbd s=true)(hd:(zai b t.data).isSome=false)(hn:nameE t h b=0):
  Calls prog 121 #[v,.int .i64 h,.int .i64 b,.string s] w fun e w'=>∃v2,e=.returned (.tuple #[v2,.int .i64 (changeE t h b s)])∧IsTx w' v2 (zaf t h b s)∧Below w.heap.size w w'∧(v2=v∨za0 w.heap.size v2 (zaf t h b s)):=by
 have A4:=zce hr;have hg:=A4.1;have hh:=A4.2.1;clear A4;have n:=(za6 t).1 hg;have C3:Up (·.1) t.info:=(zfl _ _).1 ((za5 _).1 n.2.2.1.1).2;have D6:Up (·.1) t.data:=(zfl _ _).1 ((za5 _).1 n.2.2.1.2.1).2;have C9:Up id t.rev:=((za5 _).1 n.2.2.1.2.2).2;have D5:=za1 hg;clear n;have HT:=zab hT;obtain⟨a,c,a',c',r,d,rfl,hM,hD,hR,n1,n2,n3⟩:=hT;have HM:=zab hM;have HD:=zab hD;have HR:=zab hR;have N1:=zab n1;have N2:=zab n2;have N3:=zab n3;clear hM hD hR n1 n2 n3;go_enter func121,ntmps121;go_wp2_with fail;refine(zcj _ t h b _ (HT.o.below (zae (zaa _ _) (zaa _ _))) r1 r2).mono ?_;rintro e w1 ⟨rfl,U⟩;have C5:w.heap.size+1<w1.heap.size:=by have:=U.size;simp at this;omega
 have C2:w.heap.size<w1.heap.size:=by omega
 have K1:=zab (zhe U);have K2:=zab (zhx U);obtain⟨⟨x0,x1,x2,x3,x4,x5,x6,x7,x8,x9⟩,_⟩:=zaj K1.o;obtain⟨⟨E,I,O,S,L,R,F,M,Q,K⟩,Z⟩:=zaj K2.o;have A1:=zab (zae (zae (zaa _ _) (zaa _ _)) U);clear U;have HE:Hid (changeE t h b s=0):=by rw[Hid,changeE,if_neg (by rw[hr];simp),if_neg (by rw[hs];simp),if_neg (by rw[hd];simp),hn]
 have B7:Hid (zaf t h b s={{nameT t h b with info:=zbj (·.1) t.info b (b,s)} with rev:=zax id t.rev b}):=by rw[Hid,zaf,if_pos HE.o];rfl
 have hz:(s.size:Int)=32:=by simpa[zbd] using hs
 clear hs;go_wp2_with fail;refine(zi3 a' c' t.data b _ (HD.o.below A1.o) N2.o).mono ?_;rintro e A ⟨rfl,i⟩;have D1:w.heap.size+1<A.heap.size:=by have:=i.size;omega
 have C1:w.heap.size<A.heap.size:=by omega
 have A9:=zab (zad i C2 K1.o);have A7:=zab (zad i C5 K2.o);have A0:=zab (zae A1.o i);clear x0 x1 x2 x3 x4 x5 x6 x7 x8 x9 E I O S L R F M Q K Z i K1 K2 A1;obtain⟨⟨x0,x1,x2,x3,x4,x5,x6,x7,x8,x9⟩,_⟩:=zaj A9.o;obtain⟨⟨E,I,O,S,L,R,F,M,Q,K⟩,Z⟩:=zaj A7.o;go_wp2_with fail;refine(zcx _ t _ (HT.o.below A0.o) (by omega) (by omega) (by omega)).mono ?_;rintro e w4 ⟨va,vd,vr,rfl,C,l⟩;obtain⟨a1,c1,rfl,_,_⟩:=SegC.of_owns C.2.1;obtain⟨a2,c2,rfl,_,_⟩:=SegC.of_owns C.2.2.1;obtain⟨a3,c3,rfl,_,_⟩:=SegI.of_owns C.2.2.2;have BX:=zab C;have D8:=C.lt;have B3:=zab (zae A0.o l);have C0:=zab (zad l C1 A9.o);have B2:=zab (zad l D1 A7.o);clear x0 x1 x2 x3 x4 x5 x6 x7 x8 x9 E I O S L R F M Q K Z l C A0 A9 A7;obtain⟨⟨z,z1,z2,u,z4,z5,z6,y,x,z9⟩,q⟩:=zaj BX.o.1;go_wp2_with fail;refine(zk8 A.heap.size t _ _ _ h b w4 BX.o hg hh).mono ?_;rintro e w5 ⟨rfl,k,m⟩;have D:=zab k;have E0:=k.lt;have D4:=zab ((m.block w.heap.size (by omega)).trans C0.o);have A3:=zab ((m.block (w.heap.size+1) (by omega)).trans B2.o);have B1:=zab (B3.o.trans (m.mono (by omega)));clear z z1 z2 u z4 z5 z6 y x z9 q m k B3 C0 B2 BX;rw[zig,if_pos hn] at D;have Y:=zei t h b;obtain⟨t',B8⟩:∃t',t'=nameT t h b:=⟨_,rfl⟩;rw[←B8] at D B7 Y;have C7:Hid (t'.info=t.info):=Y.1;have C4:Hid (t'.data=t.data):=Y.2.1;have D2:Hid (t'.rev=t.rev):=Y.2.2;clear B8 Y;have o6:=D.o.2.1;rw[C7.o] at o6;obtain⟨⟨z,z1,z2,u,z4,z5,z6,y,x,z9⟩,q⟩:=zaj D.o.1;obtain⟨⟨E,I,O,S,L,R,F,M,Q,K⟩,Z⟩:=zaj A3.o;go_wp2_with fail;refine(zrc (A.heap.size+1) _ t.info b s _ o6 (by omega) C3).mono ?_;clear o6;rintro e w6 ⟨v6,rfl,A2,j⟩;obtain⟨p6,q6,rfl,_,_⟩:=SegC.of_owns A2;have D9:=j.size;have D3:A.heap.size<w6.heap.size:=by omega
 have J:=zab (D.o.below j);have B0:Hid (w6.ownsRow (A.heap.size+1) 84 2 (.slice p6 (zbj (·.1) t.info b (b,s)).length q6) (zbj (·.1) t.info b (b,s)).length (cellsC (zbj (·.1) t.info b (b,s)))):=za9 A2 (by omega);have A5:=zab (J.o.set (t':={t' with info:=zbj (·.1) t.info b (b,s)}) 1 (.slice p6 (zbj (·.1) t.info b (b,s)).length q6) rfl B0.o J.o.2.2.1 J.o.2.2.2);have B5:=zab (zad j (by omega) A3.o);have K6:Hid ((w6.setCell ⟨A.heap.size,1,none⟩ (.slice p6 (zbj (·.1) t.info b (b,s)).length q6)).heap[w.heap.size+1]?=_):=(Below.heap_setCell _ _ _ _ (by simp;omega)).trans B5.o;have B6:=zab ((B1.o.trans (j.mono (by omega))).setCell (p:=⟨A.heap.size,1,none⟩) (by simp;omega) (.slice p6 (zbj (·.1) t.info b (b,s)).length q6));clear z z1 z2 u z4 z5 z6 y x z9 q E I O S L R F M Q K Z j A2 B0 D B1 A3;have o7:=A5.o.2.2.2;dsimp only at o7;rw[D2.o] at o7;obtain⟨⟨z,z1,z2,u,z4,z5,z6,y,x,z9⟩,q⟩:=zaj J.o.1;obtain⟨⟨E,I,O,S,L,R,F,M,Q,K⟩,Z⟩:=zaj B5.o;go_wp2_with fail;refine(zrf (A.heap.size+1) _ t.rev b _ o7 (by omega) C9).mono ?_;clear o7;rintro e w7 ⟨v7,rfl,A8,X⟩;obtain⟨p7,q7,rfl,_,_⟩:=SegI.of_owns A8;have C8:=X.size;simp only[World.size_setCell] at C8;have D7:A.heap.size<w7.heap.size:=by omega
 have N:=zab (A5.o.below X);have A6:Hid (w7.ownsRow (A.heap.size+1) 3 1 (.slice p7 (zax id t.rev b).length q7) (zax id t.rev b).length (cellsI (zax id t.rev b))):=za9 A8 (by simp;omega);have B9:=zab (N.o.set (t':={{t' with info:=zbj (·.1) t.info b (b,s)} with rev:=zax id t.rev b}) 3 (.slice p7 (zax id t.rev b).length q7) rfl N.o.2.1 N.o.2.2.1 A6.o);have B4:=zab (zad X (by simp;omega) K6.o);have K7:Hid ((w7.setCell ⟨A.heap.size,3,none⟩ (.slice p7 (zax id t.rev b).length q7)).heap[w.heap.size+1]?=_):=(Below.heap_setCell _ _ _ _ (by simp;omega)).trans B4.o;have C6:=zab ((B6.o.trans (X.mono (by simp;omega))).setCell (p:=⟨A.heap.size,3,none⟩) (by simp;omega) (.slice p7 (zax id t.rev b).length q7));clear z z1 z2 u z4 z5 z6 y x z9 q E I O S L R F M Q K Z X A8 A6 A5 B6 K6;obtain⟨⟨z,z1,z2,u,z4,z5,z6,y,x,z9⟩,q⟩:=zaj N.o.1;obtain⟨⟨E,I,O,S,L,R,F,M,Q,K⟩,Z⟩:=zaj B4.o;go_wp2;refine bodyPost_ret (v:=.tuple #[.agg #[.int .i64 t'.seq,(.slice p6 (zbj (·.1) t.info b (b,s)).length q6),(.slice a2 t.data.length c2),(.slice p7 (zax id t.rev b).length q7),.bool t'.h0.on,.int .i64 t'.h0.left,.bool t'.h1.on,.int .i64 t'.h1.left,.bool t'.h2.on,.int .i64 t'.h2.left],.int .i64 0]) (by simp[results,results121,go_sem,E,I,O,S,L,R,F,M,Q,K]) rfl ⟨_,by rw[HE.o],?_⟩;rw[B7.o];refine⟨?_,?_,.inr (B9.o.fromR (t:={{t' with info:=zbj (·.1) t.info b (b,s)} with rev:=zax id t.rev b}) (by omega))⟩
 ·refine BoxTx.is (t:={{t' with info:=zbj (·.1) t.info b (b,s)} with rev:=zax id t.rev b}) (B:=A.heap.size) ?_ (by have:=zjx (·.1) t.info b (b,s);unfold maxLen;dsimp only at this⊢;omega) (by have:=C4.o;unfold maxLen;dsimp only;rw[this];omega) (by have:=zii id t.rev b;unfold maxLen;dsimp only;omega)
  repeat refine BoxTx.other ?_ (by simp;omega) _
  exact B9.o
 ·iterate 10 (refine Below.setCell ?_ (by simp;try omega) _)
  exact C6.o
theorem zri (v:Value)(t:Tx)(h b:Int)(s:ByteArray)(w:World)(hT:IsTx w v t)(r1:t.info.length*24≤140737488355328)(r2:t.data.length*24≤140737488355328):
  Calls prog 121 #[v,.int .i64 h,.int .i64 b,.string s] w fun e w'=>∃v2,e=.returned (.tuple #[v2,.int .i64 (changeE t h b s)])∧IsTx w' v2 (zaf t h b s)∧Below w.heap.size w w'∧(v2=v∨za0 w.heap.size v2 (zaf t h b s)):=by
 by_cases hr:reachE t h b=0
 ·cases hs:zbd s with
  |false=>exact zrg v t h b s w hT r1 r2 hr hs
  |true=>
   cases hd:(zai b t.data).isSome with
   |true=>exact zrh v t h b s w hT r1 r2 hr hs hd
   |false=>
    by_cases hn:nameE t h b=0
    ·exact zxa v t h b s w hT r1 r2 hr hs hd hn
    ·exact zmx v t h b s w hT r1 r2 hr hs hd hn
 ·exact zw9 v t h b s w hT r1 r2 hr
open Go.RowKit
theorem z3d (v:Value)(t:Tx)(h b:Int)(s:ByteArray)(w:World)(hT:IsTx w v t)(r1:t.info.length*24≤140737488355328)(r2:t.data.length*24≤140737488355328)(hr:¬reachE t h b=0):
  Calls prog 122 #[v,.int .i64 h,.int .i64 b,.string s] w fun e w'=>∃v2,e=.returned (.tuple #[v2,.int .i64 (fillE t h b s)])∧IsTx w' v2 (zan t h b s)∧Below w.heap.size w w'∧(v2=v∨za0 w.heap.size v2 (zan t h b s)):=by
 have N:=zab hT;obtain⟨a,c,R,l,r,d,rfl,I,C,M,D,K,L⟩:=hT;have HM:=zab I;have HD:=zab C;have HR:=zab M;have N1:=zab D;have N2:=zab K;have N3:=zab L;clear I C M D K L;go_enter func122,ntmps122;go_wp2_with fail;refine(zcj _ t h b _ (N.o.below (zae (zaa _ _) (zaa _ _))) r1 r2).mono ?_;rintro e J ⟨rfl,A⟩;have A1:w.heap.size+1<J.heap.size:=by have:=A.size;simp at this;omega
 have A0:w.heap.size<J.heap.size:=by omega
 have i:=zab (zhe A);have k:=zab (zhx A);obtain⟨⟨x0,x1,x2,x3,x4,x5,x6,x7,x8,x9⟩,_⟩:=zaj i.o;obtain⟨⟨Q,U,X,j,n,Z,S,O,Y,m⟩,ff⟩:=zaj k.o;have B:=zab (zae (zae (zaa _ _) (zaa _ _)) A);clear A;have F:Hid (fillE t h b s=reachE t h b):=by rw[Hid,fillE,if_pos hr]
 have E:Hid (zan t h b s=t):=by rw[Hid,zan,if_neg (by rw[F.o];exact hr)]
 generalize reachE t h b=z at *;go_wp2;refine bodyPost_ret (v:=.tuple #[.agg #[.int .i64 t.seq,.slice a t.info.length c,.slice R t.data.length l,.slice r t.rev.length d,.bool t.h0.on,.int .i64 t.h0.left,.bool t.h1.on,.int .i64 t.h1.left,.bool t.h2.on,.int .i64 t.h2.left],.int .i64 z]) (by simp[results,results122,go_sem,Q,U,X,j,n,Z,S,O,Y,m]) rfl ⟨_,by rw[F.o],?_⟩;refine⟨?_,?_,.inl rfl⟩
 ·rw[E.o];refine N.o.below ?_
  repeat refine Below.setCell ?_ (by simp) _
  exact B.o
 ·repeat refine Below.setCell ?_ (by simp) _
  exact B.o
theorem zxb (v:Value)(t:Tx)(h b:Int)(s:ByteArray)(w:World)(hT:IsTx w v t)(r1:t.info.length*24≤140737488355328)(r2:t.data.length*24≤140737488355328)(hr:reachE t h b=0)(hs:zbd s=false):
  Calls prog 122 #[v,.int .i64 h,.int .i64 b,.string s] w fun e w'=>∃v2,e=.returned (.tuple #[v2,.int .i64 (fillE t h b s)])∧IsTx w' v2 (zan t h b s)∧Below w.heap.size w w'∧(v2=v∨za0 w.heap.size v2 (zan t h b s)):=by
 have N:=zab hT;obtain⟨a,c,R,l,r,d,rfl,I,C,M,D,K,L⟩:=hT;have HM:=zab I;have HD:=zab C;have HR:=zab M;have N1:=zab D;have N2:=zab K;have N3:=zab L;clear I C M D K L;go_enter func122,ntmps122;go_wp2_with fail;refine(zcj _ t h b _ (N.o.below (zae (zaa _ _) (zaa _ _))) r1 r2).mono ?_;rintro e J ⟨rfl,A⟩;have A1:w.heap.size+1<J.heap.size:=by have:=A.size;simp at this;omega
 have A0:w.heap.size<J.heap.size:=by omega
 have i:=zab (zhe A);have k:=zab (zhx A);obtain⟨⟨x0,x1,x2,x3,x4,x5,x6,x7,x8,x9⟩,_⟩:=zaj i.o;obtain⟨⟨Q,U,X,j,n,Z,S,O,Y,m⟩,ff⟩:=zaj k.o;have B:=zab (zae (zae (zaa _ _) (zaa _ _)) A);clear A;have F:Hid (fillE t h b s=1):=by rw[Hid,fillE,if_neg (by rw[hr];simp),if_pos hs]
 have E:Hid (zan t h b s=t):=by rw[Hid,zan,if_neg (by rw[F.o];decide)]
 have hz:¬(s.size:Int)=32:=by simpa[zbd] using hs
 clear hs;go_wp2;refine bodyPost_ret (v:=.tuple #[.agg #[.int .i64 t.seq,.slice a t.info.length c,.slice R t.data.length l,.slice r t.rev.length d,.bool t.h0.on,.int .i64 t.h0.left,.bool t.h1.on,.int .i64 t.h1.left,.bool t.h2.on,.int .i64 t.h2.left],.int .i64 1]) (by simp[results,results122,go_sem,Q,U,X,j,n,Z,S,O,Y,m]) rfl ⟨_,by rw[F.o],?_⟩;refine⟨?_,?_,.inl rfl⟩
 ·rw[E.o];refine N.o.below ?_
  repeat refine Below.setCell ?_ (by simp) _
  exact B.o
 ·repeat refine Below.setCell ?_ (by simp) _
  exact B.o
theorem zxc (v:Value)(t:Tx)(h b:Int)(s:ByteArray)(w:World)(hT:IsTx w v t)(r1:t.info.length*24≤140737488355328)(r2:t.data.length*24≤140737488355328)(hr:reachE t h b=0)(hs:zbd s=true)(hd:zcq t b=true):
  Calls prog 122 #[v,.int .i64 h,.int .i64 b,.string s] w fun e w'=>∃v2,e=.returned (.tuple #[v2,.int .i64 (fillE t h b s)])∧IsTx w' v2 (zan t h b s)∧Below w.heap.size w w'∧(v2=v∨za0 w.heap.size v2 (zan t h b s)):=by
 have U:=zab hT;obtain⟨a,c,a',c',r,d,rfl,u,Y,hR,Z,y,z⟩:=hT;have HM:=zab u;have HD:=zab Y;have HR:=zab hR;have N1:=zab Z;have N2:=zab y;have N3:=zab z;clear u Y hR Z y z;go_enter func122,ntmps122;go_wp2_with fail;refine(zcj _ t h b _ (U.o.below (zae (zaa _ _) (zaa _ _))) r1 r2).mono ?_;rintro e x ⟨rfl,A⟩;have j:w.heap.size+1<x.heap.size:=by have:=A.size;simp at this;omega
 have N:w.heap.size<x.heap.size:=by omega
 have O:=zab (zhe A);have R:=zab (zhx A);obtain⟨⟨m,x1,k,p,q,x5,x6,x7,x8,x9⟩,_⟩:=zaj O.o;obtain⟨⟨F,J,K,Q,X,M,I,E,L,S⟩,l⟩:=zaj R.o;have C:=zab (zae (zae (zaa _ _) (zaa _ _)) A);clear A;have HE:Hid (fillE t h b s=8):=by rw[Hid,fillE,if_neg (by rw[hr];simp),if_neg (by rw[hs];simp),if_pos hd]
 have i:Hid (zan t h b s=t):=by rw[Hid,zan,if_neg (by rw[HE.o];decide)]
 have hz:(s.size:Int)=32:=by simpa[zbd] using hs
 clear hs;go_wp2_with fail;refine(zgz _ t b _ (U.o.below C.o)).mono ?_;rintro e w2 ⟨rfl,B⟩;have A2:w.heap.size+1<w2.heap.size:=by have:=B.size;omega
 have A1:w.heap.size<w2.heap.size:=by omega
 have A0:=zab (zad B N O.o);have n:=zab (zad B j R.o);have D:=zab (zae C.o B);clear m x1 k p q x5 x6 x7 x8 x9 F J K Q X M I E L S l B O R C;obtain⟨⟨m,x1,k,p,q,x5,x6,x7,x8,x9⟩,_⟩:=zaj A0.o;obtain⟨⟨F,J,K,Q,X,M,I,E,L,S⟩,l⟩:=zaj n.o;go_wp2;refine bodyPost_ret (v:=.tuple #[.agg #[.int .i64 t.seq,.slice a t.info.length c,.slice a' t.data.length c',.slice r t.rev.length d,.bool t.h0.on,.int .i64 t.h0.left,.bool t.h1.on,.int .i64 t.h1.left,.bool t.h2.on,.int .i64 t.h2.left],.int .i64 8]) (by simp[results,results122,go_sem,F,J,K,Q,X,M,I,E,L,S]) rfl ⟨_,by rw[HE.o],?_⟩;refine⟨?_,?_,.inl rfl⟩
 ·rw[i.o];refine U.o.below ?_
  repeat refine Below.setCell ?_ (by simp) _
  exact D.o
 ·repeat refine Below.setCell ?_ (by simp) _
  exact D.o
theorem z3e (v:Value)(t:Tx)(h b:Int)(s:ByteArray)(w:World)(hT:IsTx w v t)(r1:t.info.length*24≤140737488355328)(r2:t.data.length*24≤140737488355328)(hr:reachE t h b=0)(hs:zbd s=true)(hd:zcq t b=false):
  Calls prog 122 #[v,.int .i64 h,.int .i64 b,.string s] w fun e w'=>∃v2,e=.returned (.tuple #[v2,.int .i64 (fillE t h b s)])∧IsTx w' v2 (zan t h b s)∧Below w.heap.size w w'∧(v2=v∨za0 w.heap.size v2 (zan t h b s)):=by
 have A0:=zce hr;have hg:=A0.1;clear A0;have Y:=(za6 t).1 hg;have B3:Up (·.1) t.info:=(zfl _ _).1 ((za5 _).1 Y.2.2.1.1).2;have A8:Up (·.1) t.data:=(zfl _ _).1 ((za5 _).1 Y.2.2.1.2.1).2;have B4:Up id t.rev:=((za5 _).1 Y.2.2.1.2.2).2;have B1:=za1 hg;clear Y;have HT:=zab hT;obtain⟨a,c,a',c',r,d,rfl,hM,hD,hR,n1,n2,n3⟩:=hT;have HM:=zab hM;have HD:=zab hD;have HR:=zab hR;have N1:=zab n1;have N2:=zab n2;have N3:=zab n3;clear hM hD hR n1 n2 n3;go_enter func122,ntmps122;go_wp2_with fail;refine(zcj _ t h b _ (HT.o.below (zae (zaa _ _) (zaa _ _))) r1 r2).mono ?_;rintro e w1 ⟨rfl,D⟩;have A7:w.heap.size+1<w1.heap.size:=by have:=D.size;simp at this;omega
 have A4:w.heap.size<w1.heap.size:=by omega
 have K1:=zab (zhe D);have K2:=zab (zhx D);obtain⟨⟨x0,x1,x2,x3,x4,x5,x6,x7,x8,x9⟩,_⟩:=zaj K1.o;obtain⟨⟨J,L,Q,U,N,S,K,O,R,M⟩,Z⟩:=zaj K2.o;have k:=zab (zae (zae (zaa _ _) (zaa _ _)) D);clear D;have HE:Hid (fillE t h b s=0):=by rw[Hid,fillE,if_neg (by rw[hr];simp),if_neg (by rw[hs];simp),if_neg (by rw[hd];simp)]
 have A6:Hid (zan t h b s={t with data:=zbj (·.1) t.data b (b,s)}):=by rw[Hid,zan,if_pos HE.o]
 have hz:(s.size:Int)=32:=by simpa[zbd] using hs
 clear hs;go_wp2_with fail;refine(zgz _ t b _ (HT.o.below k.o)).mono ?_;rintro e E ⟨rfl,F⟩;have A9:w.heap.size+1<E.heap.size:=by have:=F.size;omega
 have A3:w.heap.size<E.heap.size:=by omega
 have u:=zab (zad F A4 K1.o);have q:=zab (zad F A7 K2.o);have j:=zab (zae k.o F);clear x0 x1 x2 x3 x4 x5 x6 x7 x8 x9 J L Q U N S K O R M Z F K1 K2 k;obtain⟨⟨x0,x1,x2,x3,x4,x5,x6,x7,x8,x9⟩,_⟩:=zaj u.o;obtain⟨⟨J,L,Q,U,N,S,K,O,R,M⟩,Z⟩:=zaj q.o;go_wp2_with fail;refine(zcx _ t _ (HT.o.below j.o) (by omega) (by omega) (by omega)).mono ?_;rintro e w4 ⟨va,vd,vr,rfl,A,X⟩;obtain⟨a1,c1,rfl,_,_⟩:=SegC.of_owns A.2.1;obtain⟨a2,c2,rfl,_,_⟩:=SegC.of_owns A.2.2.1;obtain⟨a3,c3,rfl,_,_⟩:=SegI.of_owns A.2.2.2;have y:=zab A;have B5:=A.lt;have z:=zab (zae j.o X);have B2:=zab (zad X A3 u.o);have i:=zab (zad X A9 q.o);clear x0 x1 x2 x3 x4 x5 x6 x7 x8 x9 J L Q U N S K O R M Z X A j u q;have o6:=y.o.2.2.1;obtain⟨⟨z0,z1,z2,z3,z4,z5,z6,z7,z8,z9⟩,gf⟩:=zaj y.o.1;obtain⟨⟨J,L,Q,U,N,S,K,O,R,M⟩,Z⟩:=zaj i.o;go_wp2_with fail;refine(zrc (E.heap.size+1) _ t.data b s _ o6 (by omega) A8).mono ?_;clear o6;rintro e w6 ⟨v6,rfl,l,I⟩;obtain⟨n,m,rfl,_,_⟩:=SegC.of_owns l;have B6:=I.size;have B0:E.heap.size<w6.heap.size:=by omega
 have C:=zab (y.o.below I);have x:Hid (w6.ownsRow (E.heap.size+1) 84 2 (.slice n (zbj (·.1) t.data b (b,s)).length m) (zbj (·.1) t.data b (b,s)).length (cellsC (zbj (·.1) t.data b (b,s)))):=za9 l (by omega);have A1:=zab (C.o.set (t':={t with data:=zbj (·.1) t.data b (b,s)}) 2 (.slice n (zbj (·.1) t.data b (b,s)).length m) rfl C.o.2.1 x.o C.o.2.2.2);have A2:=zab (zad I (by omega) i.o);have K6:Hid ((w6.setCell ⟨E.heap.size,2,none⟩ (.slice n (zbj (·.1) t.data b (b,s)).length m)).heap[w.heap.size+1]?=_):=(Below.heap_setCell _ _ _ _ (by simp;omega)).trans A2.o;have A5:=zab ((z.o.trans (I.mono (by omega))).setCell (p:=⟨E.heap.size,2,none⟩) (by simp;omega) (.slice n (zbj (·.1) t.data b (b,s)).length m));clear z0 z1 z2 z3 z4 z5 z6 z7 z8 z9 gf J L Q U N S K O R M Z I l x y z i;obtain⟨⟨z0,z1,z2,z3,z4,z5,z6,z7,z8,z9⟩,gf⟩:=zaj C.o.1;obtain⟨⟨J,L,Q,U,N,S,K,O,R,M⟩,Z⟩:=zaj A2.o;go_wp2;refine bodyPost_ret (v:=.tuple #[.agg #[.int .i64 t.seq,(.slice a1 t.info.length c1),(.slice n (zbj (·.1) t.data b (b,s)).length m),(.slice a3 t.rev.length c3),.bool t.h0.on,.int .i64 t.h0.left,.bool t.h1.on,.int .i64 t.h1.left,.bool t.h2.on,.int .i64 t.h2.left],.int .i64 0]) (by simp[results,results122,go_sem,J,L,Q,U,N,S,K,O,R,M]) rfl ⟨_,by rw[HE.o],?_⟩;rw[A6.o];refine⟨?_,?_,.inr (A1.o.fromR (t:={t with data:=zbj (·.1) t.data b (b,s)}) (by omega))⟩
 ·refine BoxTx.is (t:={t with data:=zbj (·.1) t.data b (b,s)}) (B:=E.heap.size) ?_ (by exact N1.o) (by have:=zjx (·.1) t.data b (b,s);unfold maxLen;dsimp only at this⊢;omega) (by exact N3.o)
  repeat refine BoxTx.other ?_ (by simp;omega) _
  exact A1.o
 ·iterate 10 (refine Below.setCell ?_ (by simp;try omega) _)
  exact A5.o
theorem zxd (v:Value)(t:Tx)(h b:Int)(s:ByteArray)(w:World)(hT:IsTx w v t)(r1:t.info.length*24≤140737488355328)(r2:t.data.length*24≤140737488355328):
  Calls prog 122 #[v,.int .i64 h,.int .i64 b,.string s] w fun e w'=>∃v2,e=.returned (.tuple #[v2,.int .i64 (fillE t h b s)])∧IsTx w' v2 (zan t h b s)∧Below w.heap.size w w'∧(v2=v∨za0 w.heap.size v2 (zan t h b s)):=by
 by_cases hr:reachE t h b=0
 ·cases hs:zbd s with
  |false=>exact zxb v t h b s w hT r1 r2 hr hs
  |true=>
   cases hd:zcq t b with
   |true=>exact zxc v t h b s w hT r1 r2 hr hs hd
   |false=>exact z3e v t h b s w hT r1 r2 hr hs hd
 ·exact z3d v t h b s w hT r1 r2 hr
open Go.RowKit
theorem zxe (v:Value)(t:Tx)(h b:Int)(w:World)(hT:IsTx w v t)(r1:t.info.length*24≤140737488355328)(r2:t.data.length*24≤140737488355328)(hr:¬reachE t h b=0):
  Calls prog 123 #[v,.int .i64 h,.int .i64 b] w fun e w'=>∃v2,e=.returned (.tuple #[v2,.int .i64 (revokeE t h b)])∧IsTx w' v2 (zag t h b)∧Below w.heap.size w w'∧(v2=v∨za0 w.heap.size v2 (zag t h b)):=by
 have N:=zab hT;obtain⟨a,c,R,l,r,d,rfl,I,C,M,D,K,L⟩:=hT;have HM:=zab I;have HD:=zab C;have HR:=zab M;have N1:=zab D;have N2:=zab K;have N3:=zab L;clear I C M D K L;go_enter func123,ntmps123;go_wp2_with fail;refine(zcj _ t h b _ (N.o.below (zae (zaa _ _) (zaa _ _))) r1 r2).mono ?_;rintro e J ⟨rfl,A⟩;have A1:w.heap.size+1<J.heap.size:=by have:=A.size;simp at this;omega
 have A0:w.heap.size<J.heap.size:=by omega
 have i:=zab (zhe A);have k:=zab (zhx A);obtain⟨⟨x0,x1,x2,x3,x4,x5,x6,x7,x8,x9⟩,_⟩:=zaj i.o;obtain⟨⟨Q,U,X,j,n,Z,S,O,Y,m⟩,ff⟩:=zaj k.o;have B:=zab (zae (zae (zaa _ _) (zaa _ _)) A);clear A;have F:Hid (revokeE t h b=reachE t h b):=by rw[Hid,revokeE,if_pos hr]
 have E:Hid (zag t h b=t):=by rw[Hid,zag,if_neg (by rw[F.o];exact hr)]
 generalize reachE t h b=z at *;go_wp2;refine bodyPost_ret (v:=.tuple #[.agg #[.int .i64 t.seq,.slice a t.info.length c,.slice R t.data.length l,.slice r t.rev.length d,.bool t.h0.on,.int .i64 t.h0.left,.bool t.h1.on,.int .i64 t.h1.left,.bool t.h2.on,.int .i64 t.h2.left],.int .i64 z]) (by simp[results,results123,go_sem,Q,U,X,j,n,Z,S,O,Y,m]) rfl ⟨_,by rw[F.o],?_⟩;refine⟨?_,?_,.inl rfl⟩
 ·rw[E.o];refine N.o.below ?_
  repeat refine Below.setCell ?_ (by simp) _
  exact B.o
 ·repeat refine Below.setCell ?_ (by simp) _
  exact B.o
theorem zpb (v:Value)(t:Tx)(h b:Int)(w:World)(hT:IsTx w v t)(r1:t.info.length*24≤140737488355328)(r2:t.data.length*24≤140737488355328)(hr:reachE t h b=0)(hd:zaw t.rev b=true):
  Calls prog 123 #[v,.int .i64 h,.int .i64 b] w fun e w'=>∃v2,e=.returned (.tuple #[v2,.int .i64 (revokeE t h b)])∧IsTx w' v2 (zag t h b)∧Below w.heap.size w w'∧(v2=v∨za0 w.heap.size v2 (zag t h b)):=by
 have N:=zab hT;obtain⟨a,c,R,n,r,d,rfl,I,C,M,D,K,L⟩:=hT;have HM:=zab I;have HD:=zab C;have i:=zab M;have N1:=zab D;have N2:=zab K;have k:=zab L;clear I C M D K L;go_enter func123,ntmps123;go_wp2_with fail;refine(zcj _ t h b _ (N.o.below (zae (zaa _ _) (zaa _ _))) r1 r2).mono ?_;rintro e J ⟨rfl,A⟩;have A1:w.heap.size+1<J.heap.size:=by have:=A.size;simp at this;omega
 have A0:w.heap.size<J.heap.size:=by omega
 have j:=zab (zhe A);have m:=zab (zhx A);obtain⟨⟨x0,x1,x2,x3,x4,x5,x6,x7,x8,x9⟩,_⟩:=zaj j.o;obtain⟨⟨Q,U,X,l,q,Z,S,O,Y,p⟩,ff⟩:=zaj m.o;have B:=zab (zae (zae (zaa _ _) (zaa _ _)) A);clear A;have F:Hid (revokeE t h b=5):=by rw[Hid,revokeE,if_neg (by rw[hr];simp),if_pos hd]
 have E:Hid (zag t h b=t):=by rw[Hid,zag,if_neg (by rw[F.o];decide)]
 go_wp2_with fail;refine(zc4 r d t.rev b _ (i.o.below B.o) k.o).mono ?_;rintro e w2 ⟨rfl,rfl⟩;go_wp2;refine bodyPost_ret (v:=.tuple #[.agg #[.int .i64 t.seq,.slice a t.info.length c,.slice R t.data.length n,.slice r t.rev.length d,.bool t.h0.on,.int .i64 t.h0.left,.bool t.h1.on,.int .i64 t.h1.left,.bool t.h2.on,.int .i64 t.h2.left],.int .i64 5]) (by simp[results,results123,go_sem,Q,U,X,l,q,Z,S,O,Y,p]) rfl ⟨_,by rw[F.o],?_⟩;refine⟨?_,?_,.inl rfl⟩
 ·rw[E.o];refine N.o.below ?_
  repeat refine Below.setCell ?_ (by simp) _
  exact B.o
 ·repeat refine Below.setCell ?_ (by simp) _
  exact B.o
theorem zmy (v:Value)(t:Tx)(h b:Int)(w:World)(hT:IsTx w v t)(r1:t.info.length*24≤140737488355328)(r2:t.data.length*24≤140737488355328)(hr:reachE t h b=0)(hd:zaw t.rev b=false)(hn:¬nameE t h b=0):
  Calls prog 123 #[v,.int .i64 h,.int .i64 b] w fun e w'=>∃v2,e=.returned (.tuple #[v2,.int .i64 (revokeE t h b)])∧IsTx w' v2 (zag t h b)∧Below w.heap.size w w'∧(v2=v∨za0 w.heap.size v2 (zag t h b)):=by
 have L:=zce hr;have hg:=L.1;have hh:=L.2.1;clear L;have A6:=za1 hg;have HT:=zab hT;obtain⟨a,c,a',c',r,d,rfl,hM,hD,hR,n1,n2,n3⟩:=hT;have HM:=zab hM;have HD:=zab hD;have HR:=zab hR;have N1:=zab n1;have N2:=zab n2;have N3:=zab n3;clear hM hD hR n1 n2 n3;go_enter func123,ntmps123;go_wp2_with fail;refine(zcj _ t h b _ (HT.o.below (zae (zaa _ _) (zaa _ _))) r1 r2).mono ?_;rintro e J ⟨rfl,B⟩;have N:w.heap.size+1<J.heap.size:=by have:=B.size;simp at this;omega
 have D:w.heap.size<J.heap.size:=by omega
 have l:=zab (zhe B);have S:=zab (zhx B);obtain⟨⟨x0,x1,x2,x3,x4,x5,x6,x7,x8,x9⟩,_⟩:=zaj l.o;obtain⟨⟨O,R,i,m,X,k,Q,Z,j,U⟩,ff⟩:=zaj S.o;have F:=zab (zae (zae (zaa _ _) (zaa _ _)) B);clear B;have HE:Hid (revokeE t h b=nameE t h b):=by rw[Hid,revokeE,if_neg (by rw[hr];simp),if_neg (by rw[hd];simp)]
 have A3:Hid (zag t h b=t):=by rw[Hid,zag,if_neg (by rw[HE.o];exact hn)]
 go_wp2_with fail;refine(zc4 r d t.rev b _ (HR.o.below F.o) N3.o).mono ?_;rintro e Y ⟨rfl,rfl⟩;have y:Below J.heap.size J J:=Below.refl _ _;obtain⟨Y,M⟩:∃Y,Y=J:=⟨_,rfl⟩;rw[←M] at y N D l S F x0 x1 x2 x3 x4 x5 x6 x7 x8 x9 O R i m X k Q Z j U ff;rw[←M];clear M;have x:=l;have u:=S;have K:=F;have A5:=N;have A0:=D;clear y l S F N D;go_wp2_with fail;refine(zcx _ t _ (HT.o.below K.o) (by omega) (by omega) (by omega)).mono ?_;rintro e w4 ⟨va,vd,vr,rfl,A,E⟩;obtain⟨a1,c1,rfl,_,_⟩:=SegC.of_owns A.2.1;obtain⟨a2,c2,rfl,_,_⟩:=SegC.of_owns A.2.2.1;obtain⟨a3,c3,rfl,_,_⟩:=SegI.of_owns A.2.2.2;have BX:=zab A;have A7:=A.lt;have q:=zab (zae K.o E);have s:=zab (zad E A0 x.o);have p:=zab (zad E A5 u.o);clear x0 x1 x2 x3 x4 x5 x6 x7 x8 x9 O R i m X k Q Z j U ff E A K x u;obtain⟨⟨z0,z1,z2,z3,z4,z5,z6,z7,z8,z9⟩,gf⟩:=zaj BX.o.1;go_wp2_with fail;refine(zk8 Y.heap.size t _ _ _ h b w4 BX.o hg hh).mono ?_;rintro e w5 ⟨rfl,C,I⟩;have A4:=zab C;have A8:=C.lt;have A2:=zab ((I.block w.heap.size (by omega)).trans s.o);have A1:=zab ((I.block (w.heap.size+1) (by omega)).trans p.o);have n:=zab (q.o.trans (I.mono (by omega)));clear z0 z1 z2 z3 z4 z5 z6 z7 z8 z9 gf I C q s p BX;obtain⟨⟨x0,x1,x2,x3,x4,x5,x6,x7,x8,x9⟩,_⟩:=zaj A2.o;obtain⟨⟨O,R,i,m,X,k,Q,Z,j,U⟩,ff⟩:=zaj A1.o;clear A4;generalize nameE t h b=z at *;go_wp2;refine bodyPost_ret (v:=.tuple #[.agg #[.int .i64 t.seq,.slice a t.info.length c,.slice a' t.data.length c',.slice r t.rev.length d,.bool t.h0.on,.int .i64 t.h0.left,.bool t.h1.on,.int .i64 t.h1.left,.bool t.h2.on,.int .i64 t.h2.left],.int .i64 z]) (by simp[results,results123,go_sem,O,R,i,m,X,k,Q,Z,j,U]) rfl ⟨_,by rw[HE.o],?_⟩;refine⟨?_,?_,.inl rfl⟩
 ·rw[A3.o];refine HT.o.below ?_
  repeat refine Below.setCell ?_ (by simp) _
  exact n.o
 ·repeat refine Below.setCell ?_ (by simp) _
  exact n.o
theorem zxf (v:Value)(t:Tx)(h b:Int)(w:World)(hT:IsTx w v t)(r1:t.info.length*24≤140737488355328)(r2:t.data.length*24≤140737488355328)(hr:reachE t h b=0)(hd:zaw t.rev b=false)(hn:nameE t h b=0):
  Calls prog 123 #[v,.int .i64 h,.int .i64 b] w fun e w'=>∃v2,e=.returned (.tuple #[v2,.int .i64 (revokeE t h b)])∧IsTx w' v2 (zag t h b)∧Below w.heap.size w w'∧(v2=v∨za0 w.heap.size v2 (zag t h b)):=by
 have B5:=zce hr;have hg:=B5.1;have hh:=B5.2.1;clear B5;have A7:=(za6 t).1 hg;have D8:Up (·.1) t.info:=(zfl _ _).1 ((za5 _).1 A7.2.2.1.1).2;have E3:Up (·.1) t.data:=(zfl _ _).1 ((za5 _).1 A7.2.2.1.2.1).2;have E1:Up id t.rev:=((za5 _).1 A7.2.2.1.2.2).2;have E9:=za1 hg;clear A7;have HT:=zab hT;obtain⟨a,c,a',c',r,d,rfl,hM,hD,hR,n1,n2,n3⟩:=hT;have HM:=zab hM;have HD:=zab hD;have HR:=zab hR;have N1:=zab n1;have N2:=zab n2;have N3:=zab n3;clear hM hD hR n1 n2 n3;go_enter func123,ntmps123;go_wp2_with fail;refine(zcj _ t h b _ (HT.o.below (zae (zaa _ _) (zaa _ _))) r1 r2).mono ?_;rintro e w1 ⟨rfl,u⟩;have B7:w.heap.size+1<w1.heap.size:=by have:=u.size;simp at this;omega
 have A3:w.heap.size<w1.heap.size:=by omega
 have K1:=zab (zhe u);have K2:=zab (zhx u);obtain⟨⟨x0,x1,x2,x3,x4,x5,x6,x7,x8,x9⟩,_⟩:=zaj K1.o;obtain⟨⟨C,D,J,N,F,L,M,I,K,E⟩,X⟩:=zaj K2.o;have A4:=zab (zae (zae (zaa _ _) (zaa _ _)) u);clear u;have HE:Hid (revokeE t h b=0):=by rw[Hid,revokeE,if_neg (by rw[hr];simp),if_neg (by rw[hd];simp),hn]
 have D4:Hid (zag t h b={{{nameT t h b with info:=zax (·.1) t.info b} with data:=zax (·.1) t.data b} with rev:=zbj id t.rev b b}):=by rw[Hid,zag,if_pos HE.o];rfl
 go_wp2_with fail;refine(zc4 r d t.rev b _ (HR.o.below A4.o) N3.o).mono ?_;rintro e A ⟨rfl,rfl⟩;have C6:Below w1.heap.size w1 w1:=Below.refl _ _;obtain⟨A,B1⟩:∃A,A=w1:=⟨_,rfl⟩;rw[←B1] at C6 B7 A3 K1 K2 A4 x0 x1 x2 x3 x4 x5 x6 x7 x8 x9 C D J N F L M I K E X;rw[←B1];clear B1;have D6:=K1;have D5:=K2;have A8:=A4;have E5:=B7;have D7:=A3;clear C6 K1 K2 A4 B7 A3;go_wp2_with fail;refine(zcx _ t _ (HT.o.below A8.o) (by omega) (by omega) (by omega)).mono ?_;rintro e w4 ⟨va,vd,vr,rfl,Q,A5⟩;obtain⟨a1,c1,rfl,_,_⟩:=SegC.of_owns Q.2.1;obtain⟨a2,c2,rfl,_,_⟩:=SegC.of_owns Q.2.2.1;obtain⟨a3,c3,rfl,_,_⟩:=SegI.of_owns Q.2.2.2;have BX:=zab Q;have F3:=Q.lt;have C9:=zab (zae A8.o A5);have D1:=zab (zad A5 D7 D6.o);have C1:=zab (zad A5 E5 D5.o);clear x0 x1 x2 x3 x4 x5 x6 x7 x8 x9 C D J N F L M I K E X A5 Q A8 D6 D5;obtain⟨⟨Z,i,k,m,z,y,l,q,n,s⟩,Y⟩:=zaj BX.o.1;go_wp2_with fail;refine(zk8 A.heap.size t _ _ _ h b w4 BX.o hg hh).mono ?_;rintro e w5 ⟨rfl,A2,A6⟩;have O:=zab A2;have F5:=A2.lt;have F2:=zab ((A6.block w.heap.size (by omega)).trans D1.o);have B4:=zab ((A6.block (w.heap.size+1) (by omega)).trans C1.o);have C8:=zab (C9.o.trans (A6.mono (by omega)));clear Z i k m z y l q n s Y A6 A2 C9 D1 C1 BX;rw[zig,if_pos hn] at O;have x:=zei t h b;obtain⟨t',C5⟩:∃t',t'=nameT t h b:=⟨_,rfl⟩;rw[←C5] at O D4 x;have E0:Hid (t'.info=t.info):=x.1;have D9:Hid (t'.data=t.data):=x.2.1;have E7:Hid (t'.rev=t.rev):=x.2.2;clear C5 x;have o6:=O.o.2.1;rw[E0.o] at o6;obtain⟨⟨Z,i,k,m,z,y,l,q,n,s⟩,Y⟩:=zaj O.o.1;obtain⟨⟨C,D,J,N,F,L,M,I,K,E⟩,X⟩:=zaj B4.o;go_wp2_with fail;refine(zkf (A.heap.size+1) _ t.info b _ o6 (by omega) D8).mono ?_;clear o6;rintro e w6 ⟨v6,rfl,A9,A0⟩;obtain⟨p6,q6,rfl,_,_⟩:=SegC.of_owns A9;have F4:=A0.size;have E8:A.heap.size<w6.heap.size:=by omega
 have S:=zab (O.o.below A0);have B3:Hid (w6.ownsRow (A.heap.size+1) 84 2 (.slice p6 (zax (·.1) t.info b).length q6) (zax (·.1) t.info b).length (cellsC (zax (·.1) t.info b))):=za9 A9 (by omega);have B0:=zab (S.o.set (t':={t' with info:=zax (·.1) t.info b}) 1 (.slice p6 (zax (·.1) t.info b).length q6) rfl B3.o S.o.2.2.1 S.o.2.2.2);have D2:=zab (zad A0 (by omega) B4.o);have K6:Hid ((w6.setCell ⟨A.heap.size,1,none⟩ (.slice p6 (zax (·.1) t.info b).length q6)).heap[w.heap.size+1]?=_):=(Below.heap_setCell _ _ _ _ (by simp;omega)).trans D2.o;have D3:=zab ((C8.o.trans (A0.mono (by omega))).setCell (p:=⟨A.heap.size,1,none⟩) (by simp;omega) (.slice p6 (zax (·.1) t.info b).length q6));clear Z i k m z y l q n s Y C D J N F L M I K E X A0 A9 B3 O C8 B4;have o7:=B0.o.2.2.1;dsimp only at o7;rw[D9.o] at o7;obtain⟨⟨Z,i,k,m,z,y,l,q,n,s⟩,Y⟩:=zaj S.o.1;obtain⟨⟨C,D,J,N,F,L,M,I,K,E⟩,X⟩:=zaj D2.o;go_wp2_with fail;refine(zkf (A.heap.size+1) _ t.data b _ o7 (by omega) E3).mono ?_;clear o7;rintro e w7 ⟨v7,rfl,B9,j⟩;obtain⟨p7,q7,rfl,_,_⟩:=SegC.of_owns B9;have E4:=j.size;simp only[World.size_setCell] at E4;have F0:A.heap.size<w7.heap.size:=by omega
 have U:=zab (B0.o.below j);have B6:Hid (w7.ownsRow (A.heap.size+1) 84 2 (.slice p7 (zax (·.1) t.data b).length q7) (zax (·.1) t.data b).length (cellsC (zax (·.1) t.data b))):=za9 B9 (by simp;omega);have C0:=zab (U.o.set (t':={{t' with info:=zax (·.1) t.info b} with data:=zax (·.1) t.data b}) 2 (.slice p7 (zax (·.1) t.data b).length q7) rfl U.o.2.1 B6.o U.o.2.2.2);have C2:=zab (zad j (by simp;omega) K6.o);have K7:Hid ((w7.setCell ⟨A.heap.size,2,none⟩ (.slice p7 (zax (·.1) t.data b).length q7)).heap[w.heap.size+1]?=_):=(Below.heap_setCell _ _ _ _ (by simp;omega)).trans C2.o;have C4:=zab ((D3.o.trans (j.mono (by simp;omega))).setCell (p:=⟨A.heap.size,2,none⟩) (by simp;omega) (.slice p7 (zax (·.1) t.data b).length q7));clear Z i k m z y l q n s Y C D J N F L M I K E X j B9 B6 B0 D3 K6;have o8:=C0.o.2.2.2;dsimp only at o8;rw[E7.o] at o8;obtain⟨⟨Z,i,k,m,z,y,l,q,n,s⟩,Y⟩:=zaj U.o.1;obtain⟨⟨C,D,J,N,F,L,M,I,K,E⟩,X⟩:=zaj C2.o;go_wp2_with fail;refine(z0b (A.heap.size+1) _ t.rev b _ o8 (by omega) E1).mono ?_;clear o8;rintro e w8 ⟨v8,rfl,B8,A1⟩;obtain⟨p8,q8,rfl,_,_⟩:=SegI.of_owns B8;have E6:=A1.size;simp only[World.size_setCell] at E6;have F1:A.heap.size<w8.heap.size:=by omega
 have R:=zab (C0.o.below A1);have B2:Hid (w8.ownsRow (A.heap.size+1) 3 1 (.slice p8 (zbj id t.rev b b).length q8) (zbj id t.rev b b).length (cellsI (zbj id t.rev b b))):=za9 B8 (by simp;omega);have C7:=zab (R.o.set (t':={{{t' with info:=zax (·.1) t.info b} with data:=zax (·.1) t.data b} with rev:=zbj id t.rev b b}) 3 (.slice p8 (zbj id t.rev b b).length q8) rfl R.o.2.1 R.o.2.2.1 B2.o);have C3:=zab (zad A1 (by simp;omega) K7.o);have K8:Hid ((w8.setCell ⟨A.heap.size,3,none⟩ (.slice p8 (zbj id t.rev b b).length q8)).heap[w.heap.size+1]?=_):=(Below.heap_setCell _ _ _ _ (by simp;omega)).trans C3.o;have E2:=zab ((C4.o.trans (A1.mono (by simp;omega))).setCell (p:=⟨A.heap.size,3,none⟩) (by simp;omega) (.slice p8 (zbj id t.rev b b).length q8));clear Z i k m z y l q n s Y C D J N F L M I K E X A1 B8 B2 C0 C4 K7;obtain⟨⟨Z,i,k,m,z,y,l,q,n,s⟩,Y⟩:=zaj R.o.1;obtain⟨⟨C,D,J,N,F,L,M,I,K,E⟩,X⟩:=zaj C3.o;go_wp2;refine bodyPost_ret (v:=.tuple #[.agg #[.int .i64 t'.seq,(.slice p6 (zax (·.1) t.info b).length q6),(.slice p7 (zax (·.1) t.data b).length q7),(.slice p8 (zbj id t.rev b b).length q8),.bool t'.h0.on,.int .i64 t'.h0.left,.bool t'.h1.on,.int .i64 t'.h1.left,.bool t'.h2.on,.int .i64 t'.h2.left],.int .i64 0]) (by simp[results,results123,go_sem,C,D,J,N,F,L,M,I,K,E]) rfl ⟨_,by rw[HE.o],?_⟩;rw[D4.o];refine⟨?_,?_,.inr (C7.o.fromR (t:={{{t' with info:=zax (·.1) t.info b} with data:=zax (·.1) t.data b} with rev:=zbj id t.rev b b}) (by omega))⟩
 ·refine BoxTx.is (t:={{{t' with info:=zax (·.1) t.info b} with data:=zax (·.1) t.data b} with rev:=zbj id t.rev b b}) (B:=A.heap.size) ?_ (by have:=zii (·.1) t.info b;unfold maxLen;dsimp only at this⊢;omega) (by have:=zii (·.1) t.data b;unfold maxLen;dsimp only at this⊢;omega) (by have:=zjx id t.rev b b;unfold maxLen;dsimp only;omega)
  repeat refine BoxTx.other ?_ (by simp;omega) _
  exact C7.o
 ·iterate 10 (refine Below.setCell ?_ (by simp;try omega) _)
  exact E2.o
theorem zrj (v:Value)(t:Tx)(h b:Int)(w:World)(hT:IsTx w v t)(r1:t.info.length*24≤140737488355328)(r2:t.data.length*24≤140737488355328):
  Calls prog 123 #[v,.int .i64 h,.int .i64 b] w fun e w'=>∃v2,e=.returned (.tuple #[v2,.int .i64 (revokeE t h b)])∧IsTx w' v2 (zag t h b)∧Below w.heap.size w w'∧(v2=v∨za0 w.heap.size v2 (zag t h b)):=by
 by_cases hr:reachE t h b=0
 ·cases hd:zaw t.rev b with
  |true=>exact zpb v t h b w hT r1 r2 hr hd
  |false=>
   by_cases hn:nameE t h b=0
   ·exact zxf v t h b w hT r1 r2 hr hd hn
   ·exact zmy v t h b w hT r1 r2 hr hd hn
 ·exact zxe v t h b w hT r1 r2 hr
end Go.Proofs.YtjnpndfpajjihacGreat


namespace Go.Proofs.YtjnpndfpajjihacGreat
open Go.RowKit
theorem zhw {w:World}{B:Nat}{u0 u1 u2 u3 u4 u5 u6 u7 u8 u9:Value}{t:TypeId}(h:w.heap[B]?=some (.cells #[u0,u1,u2,u3,u4,u5,u6,u7,u8,u9] t (0,0)))(v0 v1 v2 v3 v4 v5 v6 v7 v8 v9:Value):
  ((((((((((w.setCell ⟨B,0,none⟩ v0).setCell ⟨B,1,none⟩ v1).setCell ⟨B,2,none⟩ v2).setCell ⟨B,3,none⟩ v3).setCell ⟨B,4,none⟩ v4).setCell ⟨B,5,none⟩ v5).setCell ⟨B,6,none⟩ v6).setCell ⟨B,7,none⟩ v7).setCell ⟨B,8,none⟩ v8).setCell ⟨B,9,none⟩ v9).heap[B]?=some (.cells #[v0,v1,v2,v3,v4,v5,v6,v7,v8,v9] t (0,0)):=by
 have L:(w.setCell ⟨B,0,none⟩ v0).heap[B]?=some (.cells #[v0,u1,u2,u3,u4,u5,u6,u7,u8,u9] t (0,0)):=heap_setCell_same _ B 0 _ _ v0 h;have M:((w.setCell ⟨B,0,none⟩ v0).setCell ⟨B,1,none⟩ v1).heap[B]?=some (.cells #[v0,v1,u2,u3,u4,u5,u6,u7,u8,u9] t (0,0)):=heap_setCell_same _ B 1 _ _ v1 L;have C:(((w.setCell ⟨B,0,none⟩ v0).setCell ⟨B,1,none⟩ v1).setCell ⟨B,2,none⟩ v2).heap[B]?=some (.cells #[v0,v1,v2,u3,u4,u5,u6,u7,u8,u9] t (0,0)):=heap_setCell_same _ B 2 _ _ v2 M;have A:((((w.setCell ⟨B,0,none⟩ v0).setCell ⟨B,1,none⟩ v1).setCell ⟨B,2,none⟩ v2).setCell ⟨B,3,none⟩ v3).heap[B]?=some (.cells #[v0,v1,v2,v3,u4,u5,u6,u7,u8,u9] t (0,0)):=heap_setCell_same _ B 3 _ _ v3 C;have I:(((((w.setCell ⟨B,0,none⟩ v0).setCell ⟨B,1,none⟩ v1).setCell ⟨B,2,none⟩ v2).setCell ⟨B,3,none⟩ v3).setCell ⟨B,4,none⟩ v4).heap[B]?=some (.cells #[v0,v1,v2,v3,v4,u5,u6,u7,u8,u9] t (0,0)):=heap_setCell_same _ B 4 _ _ v4 A;have D:((((((w.setCell ⟨B,0,none⟩ v0).setCell ⟨B,1,none⟩ v1).setCell ⟨B,2,none⟩ v2).setCell ⟨B,3,none⟩ v3).setCell ⟨B,4,none⟩ v4).setCell ⟨B,5,none⟩ v5).heap[B]?=some (.cells #[v0,v1,v2,v3,v4,v5,u6,u7,u8,u9] t (0,0)):=heap_setCell_same _ B 5 _ _ v5 I;have E:(((((((w.setCell ⟨B,0,none⟩ v0).setCell ⟨B,1,none⟩ v1).setCell ⟨B,2,none⟩ v2).setCell ⟨B,3,none⟩ v3).setCell ⟨B,4,none⟩ v4).setCell ⟨B,5,none⟩ v5).setCell ⟨B,6,none⟩ v6).heap[B]?=some (.cells #[v0,v1,v2,v3,v4,v5,v6,u7,u8,u9] t (0,0)):=heap_setCell_same _ B 6 _ _ v6 D;have F:((((((((w.setCell ⟨B,0,none⟩ v0).setCell ⟨B,1,none⟩ v1).setCell ⟨B,2,none⟩ v2).setCell ⟨B,3,none⟩ v3).setCell ⟨B,4,none⟩ v4).setCell ⟨B,5,none⟩ v5).setCell ⟨B,6,none⟩ v6).setCell ⟨B,7,none⟩ v7).heap[B]?=some (.cells #[v0,v1,v2,v3,v4,v5,v6,v7,u8,u9] t (0,0)):=heap_setCell_same _ B 7 _ _ v7 E;have J:(((((((((w.setCell ⟨B,0,none⟩ v0).setCell ⟨B,1,none⟩ v1).setCell ⟨B,2,none⟩ v2).setCell ⟨B,3,none⟩ v3).setCell ⟨B,4,none⟩ v4).setCell ⟨B,5,none⟩ v5).setCell ⟨B,6,none⟩ v6).setCell ⟨B,7,none⟩ v7).setCell ⟨B,8,none⟩ v8).heap[B]?=some (.cells #[v0,v1,v2,v3,v4,v5,v6,v7,v8,u9] t (0,0)):=heap_setCell_same _ B 8 _ _ v8 F
 have K:((((((((((w.setCell ⟨B,0,none⟩ v0).setCell ⟨B,1,none⟩ v1).setCell ⟨B,2,none⟩ v2).setCell ⟨B,3,none⟩ v3).setCell ⟨B,4,none⟩ v4).setCell ⟨B,5,none⟩ v5).setCell ⟨B,6,none⟩ v6).setCell ⟨B,7,none⟩ v7).setCell ⟨B,8,none⟩ v8).setCell ⟨B,9,none⟩ v9).heap[B]?=some (.cells #[v0,v1,v2,v3,v4,v5,v6,v7,v8,v9] t (0,0)):=heap_setCell_same _ B 9 _ _ v9 J;exact K
theorem Below.set10 {b:Nat}{W w:World}{B:Nat}(h:Below b W w)(hp:b≤B)(v0 v1 v2 v3 v4 v5 v6 v7 v8 v9:Value):
  Below b W ((((((((((w.setCell ⟨B,0,none⟩ v0).setCell ⟨B,1,none⟩ v1).setCell ⟨B,2,none⟩ v2).setCell ⟨B,3,none⟩ v3).setCell ⟨B,4,none⟩ v4).setCell ⟨B,5,none⟩ v5).setCell ⟨B,6,none⟩ v6).setCell ⟨B,7,none⟩ v7).setCell ⟨B,8,none⟩ v8).setCell ⟨B,9,none⟩ v9):=
 (((((((((h.setCell hp v0).setCell hp v1).setCell hp v2).setCell hp v3).setCell hp v4).setCell hp v5).setCell hp v6).setCell hp v7).setCell hp v8).setCell hp v9
end Go.Proofs.YtjnpndfpajjihacGreat


namespace Go.Proofs.YtjnpndfpajjihacGreat
open Tryz
open Go.RowKit
theorem z0r (v:Value)(t:Tx)(h:Int)(w:World)(hT:IsTx w v t)(r1:t.info.length*24≤140737488355328)(r2:t.data.length*24≤140737488355328)(hg:za8 t=false):
  Calls prog 81 #[v,.int .i64 h] w fun e w'=>∃v2,e=.returned (.tuple #[v2,.int .i64 (zc7 t h)])∧IsTx w' v2 (zb4 t h)∧Below w.heap.size w w'∧(v2=v∨za0 w.heap.size v2 (zb4 t h)):=by
 have K:=zab hT;obtain⟨a,c,O,j,r,d,rfl,U,L,k,C,I,J⟩:=hT;have N1:=zab C;have N2:=zab I;have N3:=zab J;clear U L k C I J;go_enter func81,ntmps81;go_wp2_with fail;refine(zb8 _ t _ (K.o.below (zae (zaa _ _) (zaa _ _))) r1 r2).mono ?_;rintro e F ⟨rfl,A⟩;have A1:w.heap.size+1<F.heap.size:=by have:=A.size;simp at this;omega
 have A0:w.heap.size<F.heap.size:=by omega
 have Z:=zab (zhe A);have i:=zab (zhx A);obtain⟨⟨x0,x1,x2,x3,x4,x5,x6,x7,x8,x9⟩,_⟩:=zaj Z.o;obtain⟨⟨N,R,S,b,m,Y,Q,M,X,l⟩,ff⟩:=zaj i.o;have B:=zab (zae (zae (zaa _ _) (zaa _ _)) A);clear A;have E:Hid (zc7 t h=2):=by rw[Hid,zc7,if_pos hg]
 have D:Hid (zb4 t h=t):=by rw[Hid,zb4,E.o];rfl
 go_wp2;refine bodyPost_ret (v:=.tuple #[.agg #[.int .i64 t.seq,.slice a t.info.length c,.slice O t.data.length j,.slice r t.rev.length d,.bool t.h0.on,.int .i64 t.h0.left,.bool t.h1.on,.int .i64 t.h1.left,.bool t.h2.on,.int .i64 t.h2.left],.int .i64 2]) (by simp[results,results81,go_sem,N,R,S,b,m,Y,Q,M,X,l]) rfl ⟨_,by rw[E.o],?_⟩;refine⟨?_,?_,.inl rfl⟩
 ·rw[D.o];refine K.o.below ?_
  repeat refine Below.setCell ?_ (by simp) _
  exact B.o
 ·repeat refine Below.setCell ?_ (by simp) _
  exact B.o
theorem zxx (v:Value)(t:Tx)(h:Int)(w:World)(hT:IsTx w v t)(r1:t.info.length*24≤140737488355328)(r2:t.data.length*24≤140737488355328)(hg:za8 t=true)(ho:onB t h=false):
  Calls prog 81 #[v,.int .i64 h] w fun e w'=>∃v2,e=.returned (.tuple #[v2,.int .i64 (zc7 t h)])∧IsTx w' v2 (zb4 t h)∧Below w.heap.size w w'∧(v2=v∨za0 w.heap.size v2 (zb4 t h)):=by
 have U:=zab hT;obtain⟨a,c,a',c',r,d,rfl,hM,hD,hR,Y,u,x⟩:=hT;have N1:=zab Y;have N2:=zab u;have N3:=zab x;clear hM hD hR Y u x;go_enter func81,ntmps81;go_wp2_with fail;refine(zb8 _ t _ (U.o.below (zae (zaa _ _) (zaa _ _))) r1 r2).mono ?_;rintro e q ⟨rfl,A⟩;have i:w.heap.size+1<q.heap.size:=by have:=A.size;simp at this;omega
 have N:w.heap.size<q.heap.size:=by omega
 have O:=zab (zhe A);have R:=zab (zhx A);obtain⟨⟨l,x1,j,n,p,x5,s,x7,x8,y⟩,_⟩:=zaj O.o;obtain⟨⟨F,J,K,Q,X,M,I,E,L,S⟩,k⟩:=zaj R.o;have C:=zab (zae (zae (zaa _ _) (zaa _ _)) A);clear A
 have b:Hid (zc7 t h=4):=by
  rw[Hid,zc7,if_neg (by rw[hg];simp),if_pos];by_cases e:0≤h∧h≤2
  ·rw[onB,zbg.2 e,Bool.true_and] at ho;exact .inr (.inr ho)
  ·omega
 have Z:Hid (zb4 t h=t):=by rw[Hid,zb4,b.o];rfl
 go_wp2_with fail;refine(zja _ t h _ (U.o.below C.o)).mono ?_;rintro e w2 ⟨rfl,B⟩;have A1:w.heap.size+1<w2.heap.size:=by have:=B.size;omega
 have A0:w.heap.size<w2.heap.size:=by omega
 have z:=zab (zad B N O.o);have m:=zab (zad B i R.o);have D:=zab (zae C.o B);clear l x1 j n p x5 s x7 x8 y F J K Q X M I E L S k B O R C;obtain⟨⟨l,x1,j,n,p,x5,s,x7,x8,y⟩,_⟩:=zaj z.o;obtain⟨⟨F,J,K,Q,X,M,I,E,L,S⟩,k⟩:=zaj m.o;go_wp2;refine bodyPost_ret (v:=.tuple #[.agg #[.int .i64 t.seq,.slice a t.info.length c,.slice a' t.data.length c',.slice r t.rev.length d,.bool t.h0.on,.int .i64 t.h0.left,.bool t.h1.on,.int .i64 t.h1.left,.bool t.h2.on,.int .i64 t.h2.left],.int .i64 4]) (by simp[results,results81,go_sem,F,J,K,Q,X,M,I,E,L,S]) rfl ⟨_,by rw[b.o],?_⟩;refine⟨?_,?_,.inl rfl⟩
 ·rw[Z.o];refine U.o.below ?_
  repeat refine Below.setCell ?_ (by simp) _
  exact D.o
 ·repeat refine Below.setCell ?_ (by simp) _
  exact D.o
theorem z0s (v:Value)(t:Tx)(w:World)(hT:IsTx w v t)(r1:t.info.length*24≤140737488355328)(r2:t.data.length*24≤140737488355328)(hg:za8 t=true)(ho:onB t 0=true):
  Calls prog 81 #[v,.int .i64 0] w fun e w'=>∃v2,e=.returned (.tuple #[v2,.int .i64 (zc7 t 0)])∧IsTx w' v2 (zb4 t 0)∧Below w.heap.size w w'∧(v2=v∨za0 w.heap.size v2 (zb4 t 0)):=by
 have A6:=za1 hg;have p:=zab hT;obtain⟨a,c,a',c',r,d,rfl,hM,hD,hR,n1,n2,n3⟩:=hT;have N1:=zab n1;have N2:=zab n2;have N3:=zab n3;clear hM hD hR n1 n2 n3;go_enter func81,ntmps81;go_wp2_with fail;refine(zb8 _ t _ (p.o.below (zae (zaa _ _) (zaa _ _))) r1 r2).mono ?_;rintro e w1 ⟨rfl,C⟩;have A2:w.heap.size+1<w1.heap.size:=by have:=C.size;simp at this;omega
 have x:w.heap.size<w1.heap.size:=by omega
 have z:=zab (zhe C);have l:=zab (zhx C);obtain⟨⟨s,m,h,u,i,k,j,x7,n,y⟩,_⟩:=zaj z.o;obtain⟨⟨J,M,S,Y,Q,X,K,R,U,O⟩,Z⟩:=zaj l.o;have N:=zab (zae (zae (zaa _ _) (zaa _ _)) C);clear C
 have HE:Hid (zc7 t 0=0):=by
  rw[Hid,zc7,if_neg (by rw[hg];simp),if_neg];have:(zeq t 0).on=true:=ho;rw[this];simp
 have A1:Hid (zb4 t 0={t with h0:=⟨false,0⟩}):=by rw[Hid,zb4,HE.o];rfl
 go_wp2_with fail;refine(zja _ t 0 _ (p.o.below N.o)).mono ?_;rintro e F ⟨rfl,E⟩;have A3:w.heap.size+1<F.heap.size:=by have:=E.size;omega
 have A5:w.heap.size<F.heap.size:=by omega
 have A4:=zab (zad E x z.o);have b:=zab (zad E A2 l.o);have L:=zab (zae N.o E);clear s m h u i k j x7 n y J M S Y Q X K R U O Z E z l N;obtain⟨⟨s,m,h,u,i,k,j,x7,n,y⟩,_⟩:=zaj A4.o;obtain⟨⟨J,M,S,Y,Q,X,K,R,U,O⟩,Z⟩:=zaj b.o;go_wp2_with fail;refine(zcx _ t _ (p.o.below L.o) (by omega) (by omega) (by omega)).mono ?_;rintro e w4 ⟨va,vd,vr,rfl,A,I⟩;obtain⟨a1,c1,rfl,_,_⟩:=SegC.of_owns A.2.1;obtain⟨a2,c2,rfl,_,_⟩:=SegC.of_owns A.2.2.1;obtain⟨a3,c3,rfl,_,_⟩:=SegI.of_owns A.2.2.2;have D:=zab A;have A7:=A.lt;have A0:=zab (zae L.o I);have q:=zab (zad I A3 b.o);clear s m h u i k j x7 n y J M S Y Q X K R U O Z I A L;obtain⟨⟨J,M,S,Y,Q,X,K,R,U,O⟩,Z⟩:=zaj q.o;obtain⟨⟨z0,z1,z2,z3,z4,z5,z6,z7,z8,z9⟩,gf⟩:=zaj D.o.1;have HX:Hid (BoxTx ((w4.setCell ⟨F.heap.size,4,none⟩ (.bool false)).setCell ⟨F.heap.size,5,none⟩ (.int .i64 0)) F.heap.size {t with h0:=⟨false,0⟩} (.slice a1 t.info.length c1) (.slice a2 t.data.length c2) (.slice a3 t.rev.length c3)):=(D.o.set (t':={t with h0:=⟨false,t.h0.left⟩}) 4 (.bool false) rfl D.o.2.1 D.o.2.2.1 D.o.2.2.2).set (t':={t with h0:=⟨false,0⟩}) 5 (.int .i64 0) rfl (ownsRow_setCell_below D.o.2.1 (by simp) _) (ownsRow_setCell_below D.o.2.2.1 (by simp) _) (ownsRow_setCell_below D.o.2.2.2 (by simp) _);go_wp2;refine bodyPost_ret (v:=.tuple #[.agg #[.int .i64 t.seq,.slice a1 t.info.length c1,.slice a2 t.data.length c2,.slice a3 t.rev.length c3,.bool false,.int .i64 0,.bool t.h1.on,.int .i64 t.h1.left,.bool t.h2.on,.int .i64 t.h2.left],.int .i64 0]) (by simp[results,results81,go_sem,J,M,S,Y,Q,X,K,R,U,O]) rfl ⟨_,by rw[HE.o],?_⟩;rw[A1.o];refine⟨?_,?_,.inr (HX.o.fromR (t:={t with h0:=⟨false,0⟩}) (by omega))⟩
 ·refine BoxTx.is (t:={t with h0:=⟨false,0⟩}) (B:=F.heap.size) ?_ N1.o N2.o N3.o
  repeat refine BoxTx.other ?_ (by simp;omega) _
  exact HX.o
 ·repeat refine Below.setCell ?_ (by simp;try omega) _
  exact A0.o
theorem z0t (v:Value)(t:Tx)(w:World)(hT:IsTx w v t)(r1:t.info.length*24≤140737488355328)(r2:t.data.length*24≤140737488355328)(hg:za8 t=true)(ho:onB t 1=true):
  Calls prog 81 #[v,.int .i64 1] w fun e w'=>∃v2,e=.returned (.tuple #[v2,.int .i64 (zc7 t 1)])∧IsTx w' v2 (zb4 t 1)∧Below w.heap.size w w'∧(v2=v∨za0 w.heap.size v2 (zb4 t 1)):=by
 have A6:=za1 hg;have p:=zab hT;obtain⟨a,c,a',c',r,d,rfl,hM,hD,hR,n1,n2,n3⟩:=hT;have N1:=zab n1;have N2:=zab n2;have N3:=zab n3;clear hM hD hR n1 n2 n3;go_enter func81,ntmps81;go_wp2_with fail;refine(zb8 _ t _ (p.o.below (zae (zaa _ _) (zaa _ _))) r1 r2).mono ?_;rintro e w1 ⟨rfl,C⟩;have A2:w.heap.size+1<w1.heap.size:=by have:=C.size;simp at this;omega
 have x:w.heap.size<w1.heap.size:=by omega
 have z:=zab (zhe C);have l:=zab (zhx C);obtain⟨⟨s,m,h,u,i,k,j,x7,n,y⟩,_⟩:=zaj z.o;obtain⟨⟨J,M,S,Y,Q,X,K,R,U,O⟩,Z⟩:=zaj l.o;have N:=zab (zae (zae (zaa _ _) (zaa _ _)) C);clear C
 have HE:Hid (zc7 t 1=0):=by
  rw[Hid,zc7,if_neg (by rw[hg];simp),if_neg];have:(zeq t 1).on=true:=ho;rw[this];simp
 have A1:Hid (zb4 t 1={t with h1:=⟨false,0⟩}):=by rw[Hid,zb4,HE.o];rfl
 go_wp2_with fail;refine(zja _ t 1 _ (p.o.below N.o)).mono ?_;rintro e F ⟨rfl,E⟩;have A3:w.heap.size+1<F.heap.size:=by have:=E.size;omega
 have A5:w.heap.size<F.heap.size:=by omega
 have A4:=zab (zad E x z.o);have b:=zab (zad E A2 l.o);have L:=zab (zae N.o E);clear s m h u i k j x7 n y J M S Y Q X K R U O Z E z l N;obtain⟨⟨s,m,h,u,i,k,j,x7,n,y⟩,_⟩:=zaj A4.o;obtain⟨⟨J,M,S,Y,Q,X,K,R,U,O⟩,Z⟩:=zaj b.o;go_wp2_with fail;refine(zcx _ t _ (p.o.below L.o) (by omega) (by omega) (by omega)).mono ?_;rintro e w4 ⟨va,vd,vr,rfl,A,I⟩;obtain⟨a1,c1,rfl,_,_⟩:=SegC.of_owns A.2.1;obtain⟨a2,c2,rfl,_,_⟩:=SegC.of_owns A.2.2.1;obtain⟨a3,c3,rfl,_,_⟩:=SegI.of_owns A.2.2.2;have D:=zab A;have A7:=A.lt;have A0:=zab (zae L.o I);have q:=zab (zad I A3 b.o);clear s m h u i k j x7 n y J M S Y Q X K R U O Z I A L;obtain⟨⟨J,M,S,Y,Q,X,K,R,U,O⟩,Z⟩:=zaj q.o;obtain⟨⟨z0,z1,z2,z3,z4,z5,z6,z7,z8,z9⟩,gf⟩:=zaj D.o.1;have HX:Hid (BoxTx ((w4.setCell ⟨F.heap.size,6,none⟩ (.bool false)).setCell ⟨F.heap.size,7,none⟩ (.int .i64 0)) F.heap.size {t with h1:=⟨false,0⟩} (.slice a1 t.info.length c1) (.slice a2 t.data.length c2) (.slice a3 t.rev.length c3)):=(D.o.set (t':={t with h1:=⟨false,t.h1.left⟩}) 6 (.bool false) rfl D.o.2.1 D.o.2.2.1 D.o.2.2.2).set (t':={t with h1:=⟨false,0⟩}) 7 (.int .i64 0) rfl (ownsRow_setCell_below D.o.2.1 (by simp) _) (ownsRow_setCell_below D.o.2.2.1 (by simp) _) (ownsRow_setCell_below D.o.2.2.2 (by simp) _);go_wp2;refine bodyPost_ret (v:=.tuple #[.agg #[.int .i64 t.seq,.slice a1 t.info.length c1,.slice a2 t.data.length c2,.slice a3 t.rev.length c3,.bool t.h0.on,.int .i64 t.h0.left,.bool false,.int .i64 0,.bool t.h2.on,.int .i64 t.h2.left],.int .i64 0]) (by simp[results,results81,go_sem,J,M,S,Y,Q,X,K,R,U,O]) rfl ⟨_,by rw[HE.o],?_⟩;rw[A1.o];refine⟨?_,?_,.inr (HX.o.fromR (t:={t with h1:=⟨false,0⟩}) (by omega))⟩
 ·refine BoxTx.is (t:={t with h1:=⟨false,0⟩}) (B:=F.heap.size) ?_ N1.o N2.o N3.o
  repeat refine BoxTx.other ?_ (by simp;omega) _
  exact HX.o
 ·repeat refine Below.setCell ?_ (by simp;try omega) _
  exact A0.o
theorem z0u (v:Value)(t:Tx)(w:World)(hT:IsTx w v t)(r1:t.info.length*24≤140737488355328)(r2:t.data.length*24≤140737488355328)(hg:za8 t=true)(ho:onB t 2=true):
  Calls prog 81 #[v,.int .i64 2] w fun e w'=>∃v2,e=.returned (.tuple #[v2,.int .i64 (zc7 t 2)])∧IsTx w' v2 (zb4 t 2)∧Below w.heap.size w w'∧(v2=v∨za0 w.heap.size v2 (zb4 t 2)):=by
 have A6:=za1 hg;have p:=zab hT;obtain⟨a,c,a',c',r,d,rfl,hM,hD,hR,n1,n2,n3⟩:=hT;have N1:=zab n1;have N2:=zab n2;have N3:=zab n3;clear hM hD hR n1 n2 n3;go_enter func81,ntmps81;go_wp2_with fail;refine(zb8 _ t _ (p.o.below (zae (zaa _ _) (zaa _ _))) r1 r2).mono ?_;rintro e w1 ⟨rfl,C⟩;have A2:w.heap.size+1<w1.heap.size:=by have:=C.size;simp at this;omega
 have x:w.heap.size<w1.heap.size:=by omega
 have z:=zab (zhe C);have l:=zab (zhx C);obtain⟨⟨s,m,h,u,i,k,j,x7,n,y⟩,_⟩:=zaj z.o;obtain⟨⟨J,M,S,Y,Q,X,K,R,U,O⟩,Z⟩:=zaj l.o;have N:=zab (zae (zae (zaa _ _) (zaa _ _)) C);clear C
 have HE:Hid (zc7 t 2=0):=by
  rw[Hid,zc7,if_neg (by rw[hg];simp),if_neg];have:(zeq t 2).on=true:=ho;rw[this];simp
 have A1:Hid (zb4 t 2={t with h2:=⟨false,0⟩}):=by rw[Hid,zb4,HE.o];rfl
 go_wp2_with fail;refine(zja _ t 2 _ (p.o.below N.o)).mono ?_;rintro e F ⟨rfl,E⟩;have A3:w.heap.size+1<F.heap.size:=by have:=E.size;omega
 have A5:w.heap.size<F.heap.size:=by omega
 have A4:=zab (zad E x z.o);have b:=zab (zad E A2 l.o);have L:=zab (zae N.o E);clear s m h u i k j x7 n y J M S Y Q X K R U O Z E z l N;obtain⟨⟨s,m,h,u,i,k,j,x7,n,y⟩,_⟩:=zaj A4.o;obtain⟨⟨J,M,S,Y,Q,X,K,R,U,O⟩,Z⟩:=zaj b.o;go_wp2_with fail;refine(zcx _ t _ (p.o.below L.o) (by omega) (by omega) (by omega)).mono ?_;rintro e w4 ⟨va,vd,vr,rfl,A,I⟩;obtain⟨a1,c1,rfl,_,_⟩:=SegC.of_owns A.2.1;obtain⟨a2,c2,rfl,_,_⟩:=SegC.of_owns A.2.2.1;obtain⟨a3,c3,rfl,_,_⟩:=SegI.of_owns A.2.2.2;have D:=zab A;have A7:=A.lt;have A0:=zab (zae L.o I);have q:=zab (zad I A3 b.o);clear s m h u i k j x7 n y J M S Y Q X K R U O Z I A L;obtain⟨⟨J,M,S,Y,Q,X,K,R,U,O⟩,Z⟩:=zaj q.o;obtain⟨⟨z0,z1,z2,z3,z4,z5,z6,z7,z8,z9⟩,gf⟩:=zaj D.o.1;have HX:Hid (BoxTx ((w4.setCell ⟨F.heap.size,8,none⟩ (.bool false)).setCell ⟨F.heap.size,9,none⟩ (.int .i64 0)) F.heap.size {t with h2:=⟨false,0⟩} (.slice a1 t.info.length c1) (.slice a2 t.data.length c2) (.slice a3 t.rev.length c3)):=(D.o.set (t':={t with h2:=⟨false,t.h2.left⟩}) 8 (.bool false) rfl D.o.2.1 D.o.2.2.1 D.o.2.2.2).set (t':={t with h2:=⟨false,0⟩}) 9 (.int .i64 0) rfl (ownsRow_setCell_below D.o.2.1 (by simp) _) (ownsRow_setCell_below D.o.2.2.1 (by simp) _) (ownsRow_setCell_below D.o.2.2.2 (by simp) _);go_wp2;refine bodyPost_ret (v:=.tuple #[.agg #[.int .i64 t.seq,.slice a1 t.info.length c1,.slice a2 t.data.length c2,.slice a3 t.rev.length c3,.bool t.h0.on,.int .i64 t.h0.left,.bool t.h1.on,.int .i64 t.h1.left,.bool false,.int .i64 0],.int .i64 0]) (by simp[results,results81,go_sem,J,M,S,Y,Q,X,K,R,U,O]) rfl ⟨_,by rw[HE.o],?_⟩;rw[A1.o];refine⟨?_,?_,.inr (HX.o.fromR (t:={t with h2:=⟨false,0⟩}) (by omega))⟩
 ·refine BoxTx.is (t:={t with h2:=⟨false,0⟩}) (B:=F.heap.size) ?_ N1.o N2.o N3.o
  repeat refine BoxTx.other ?_ (by simp;omega) _
  exact HX.o
 ·repeat refine Below.setCell ?_ (by simp;try omega) _
  exact A0.o
theorem zxy (v:Value)(t:Tx)(h:Int)(w:World)(hT:IsTx w v t)(r1:t.info.length*24≤140737488355328)(r2:t.data.length*24≤140737488355328):
  Calls prog 81 #[v,.int .i64 h] w fun e w'=>∃v2,e=.returned (.tuple #[v2,.int .i64 (zc7 t h)])∧IsTx w' v2 (zb4 t h)∧Below w.heap.size w w'∧(v2=v∨za0 w.heap.size v2 (zb4 t h)):=by
 cases hg:za8 t with
 |false=>exact z0r v t h w hT r1 r2 hg
 |true=>
  cases ho:onB t h with
  |false=>exact zxx v t h w hT r1 r2 hg ho
  |true=>
   have A:zao h 0 2=true:=by rw[onB] at ho;exact(Bool.and_eq_true _ _▸ho:_∧_).1
   have hr:=zbg.1 A;have B:h=0∨h=1∨h=2:=by omega
   rcases B with rfl|rfl|rfl
   ·exact z0s v t w hT r1 r2 hg ho
   ·exact z0t v t w hT r1 r2 hg ho
   ·exact z0u v t w hT r1 r2 hg ho
end Go.Proofs.YtjnpndfpajjihacGreat

