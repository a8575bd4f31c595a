/-
  
-/
import Derived.Test.YtjnpndfpajjihacGreatGrTopAnywhere31
import Derived.Test.YtjnpndfpajjihacGreatGrTopAnywhere37
import Derived.Test.YtjnpndfpajjihacGreatGrTopAnywhere16
set_option maxRecDepth 100000
set_option maxHeartbeats 40000000
namespace Go.Proofs.YtjnpndfpajjihacGreat
open Go.RowKit
theorem zu9(n:Int)(h: -9223372036854775808≤n∧n≤9223372036854775807):wrap64 n=n:=by unfold wrap64;omega
theorem zl7{t:Tx}(h:za9 t=true)(k:Int):hdB (zeu t k)=true:=by
 have:=((za7 t).1 h).2.2.2.2;unfold zeu;split
 ·exact this.1
 ·split
  ·exact this.2.1
  ·exact this.2.2
theorem zc6{t:Tx}(h:za9 t=true):zb2 t=(t.info.length:Int)+(t.rev.length:Int)+t.h0.left+t.h1.left+t.h2.left∧0≤zb2 t∧zb2 t≤96:=by
 have hs:=za3 h;have A:=((za7 t).1 h).2.2.2.2;have a0:=(zet _).1 A.1;have a1:=(zet _).1 A.2.1;have a2:=(zet _).1 A.2.2
 have e:zb2 t=(t.info.length:Int)+(t.rev.length:Int)+t.h0.left+t.h1.left+t.h2.left:=by
  unfold zb2;rw[zu9 ((t.info.length:Int)+(t.rev.length:Int)) (by omega),zu9 ((t.info.length:Int)+(t.rev.length:Int)+t.h0.left) (by omega),zu9 ((t.info.length:Int)+(t.rev.length:Int)+t.h0.left+t.h1.left) (by omega),zu9 _ (by omega)]
 rw[e];omega
theorem zci(v:Value)(t:Tx)(h b:Int)(w:World)(hT:IsTx w v t)(r1:t.info.length*24≤140737488355328)(r2:t.data.length*24≤140737488355328):
  Calls Tryz.prog 152 #[v,.int .i64 h,.int .i64 b] w fun e w'=>e=.returned (.int .i64 (reachE t h b))∧Below w.heap.size w w':=by
 have K:=zaa hT;obtain⟨a,c,a',c',r,d,rfl,M,i,Z,U,L,R⟩:=hT;clear M i Z U L R;go_enter Tryz.func152,Tryz.ntmps152;go_wp2_with fail;refine(zb8 _ t _ (K.o.below (zab _ _)) r1 r2).mono ?_;rintro e O ⟨rfl,B⟩;have A0:w.heap.size<O.heap.size:=by have:=B.size;simp at this;omega
 obtain⟨⟨m,Q,n,N,l,k,S,j,X,Y⟩,_⟩:=zaj (z4b B);have I:=zaa (zae (zab _ _) B);clear B
 cases hg:za9 t with
 |false=>
  have A:Hid (reachE t h b=2):=by rw[Hid,reachE,if_pos hg]
  go_wp2;go_ret;exact⟨by rw[A.o];rfl,I.o⟩
 |true=>
  have J:=zaa hg;go_wp2_with fail;refine(zjf _ t h _ (K.o.below I.o)).mono ?_;rintro e w2 ⟨rfl,F⟩;have D:=zaa (zae I.o F);clear F m Q n N l k S j X Y hg
  cases ho:onB t h with
  |false=>
   have A:Hid (reachE t h b=4):=by
    rw[Hid,reachE,if_neg (by rw[J.o];simp),if_pos];rw[onB]at ho;by_cases E:0≤h∧h≤2
    ·rw[zbh.2 E,Bool.true_and]at ho;exact .inr (.inr (.inl ho))
    ·omega
   go_wp2;go_ret;exact⟨by rw[A.o];rfl,D.o⟩
  |true=>
   have C:zao h 0 2=true∧(zeu t h).on=true:=by rw[onB]at ho;simpa using ho
   have E:=zbh.1 C.1
   cases hq:zao b 0 11 with
   |false=>
    have A:Hid (reachE t h b=4):=by
     rw[Hid,reachE,if_neg (by rw[J.o];simp),if_pos];by_cases hb:0≤b∧b≤11
     ·rw[zbh.2 hb]at hq;cases hq
     ·omega
    clear C E;go_wp2_with (go_at_call 59;refine(zaz _ _ _ _).mono ?_;rintro e w' ⟨rfl,rfl⟩);go_ret;exact⟨by rw[A.o];rfl,D.o⟩
   |true=>
    have hb:=zbh.1 hq
    have A:Hid (reachE t h b=0):=by
     rw[Hid,reachE,if_neg (by rw[J.o];simp),if_neg];rw[C.2];simp;omega
    clear C E hb;go_wp2_with (go_at_call 59;refine(zaz _ _ _ _).mono ?_;rintro e w' ⟨rfl,rfl⟩);go_ret;exact⟨by rw[A.o];rfl,D.o⟩
theorem zcd{t:Tx}{h b:Int}(e:reachE t h b=0):za9 t=true∧(h=0∨h=1∨h=2)∧(zeu t h).on=true∧0≤b∧b≤11:=by
 unfold reachE at e
 cases hg:za9 t with
 |false=>rw[if_pos hg]at e;cases e
 |true=>
  rw[if_neg (by rw[hg];simp)]at e;by_cases hc:h<0∨2<h∨(zeu t h).on=false∨b<0∨11<b
  ·rw[if_pos hc]at e;cases e
  ·have A:(zeu t h).on=true:=by cases hh:(zeu t h).on;exact absurd (.inr (.inr (.inl hh))) hc;rfl
   refine⟨rfl,by omega,A,by omega,by omega⟩
theorem zgg{l:List Int}(h:zbk l=true):l.Nodup:=by
 rw[za6]at h;exact List.Pairwise.imp (fun h=>by simp only[id]at h;omega) h.2
def zz5 (t:Tx):Prop:=(∀x∈blksOf t.info,x∉blksOf t.data∧x∉t.rev)∧∀x∈blksOf t.data,x∉t.rev
theorem zn3{t:Tx}(h1:zbk (blksOf t.info)=true)(h2:zbk (blksOf t.data)=true)(h3:zbk t.rev=true):(zkx t).Nodup↔zz5 t:=by
 rw[zkx,List.nodup_append,List.nodup_append];constructor
 ·rintro⟨_,⟨_,_,a⟩,b⟩;refine⟨fun x hx=>⟨fun e=>b x hx x (List.mem_append.2 (.inl e)) rfl,fun e=>b x hx x (List.mem_append.2 (.inr e)) rfl⟩,fun x hx e=>a x hx x e rfl⟩
 ·rintro⟨a,b⟩;refine⟨zgg h1,⟨zgg h2,zgg h3,fun x hx y hy e=>b x hx (e▸hy)⟩,fun x hx y hy e=>?_⟩;rcases List.mem_append.1 hy with hy|hy
  ·exact(a x hx).1 (e▸hy)
  ·exact(a x hx).2 (e▸hy)
theorem zo9{l:List (Int×ByteArray)}{b:Int}:b∈blksOf l↔(zai b l).isSome=true:=by
 rw[zlb,List.any_eq_true,blksOf,List.mem_map];constructor
 ·rintro⟨x,A,rfl⟩;exact⟨x,A,by simp⟩
 ·rintro⟨x,A,e⟩;exact⟨x,A,by simpa using e⟩
theorem zdv{l:List Int}{b:Int}:b∈l↔zaw l b=true:=by
 rw[zaw,List.any_eq_true];constructor
 ·intro h;exact⟨b,h,by simp⟩
 ·rintro⟨x,A,e⟩;have:x=b:=by simpa using e
  rw[←this];exact A
theorem zjg{l:List (Int×ByteArray)}{b y:Int}{s:ByteArray}:y∈blksOf (zbj (·.1) l b (b,s))↔y=b∨(y∈blksOf l∧y≠b):=by
 simp only[blksOf,List.mem_map];constructor
 ·rintro⟨x,C,rfl⟩;rcases zfh.1 C with rfl|⟨B,A⟩
  ·exact .inl rfl
  ·exact .inr ⟨⟨x,B,rfl⟩,A⟩
 ·rintro(rfl|⟨⟨x,B,rfl⟩,A⟩)
  ·exact⟨_,zfh.2 (.inl rfl),rfl⟩
  ·exact⟨x,zfh.2 (.inr ⟨B,A⟩),rfl⟩
theorem zhb{l:List (Int×ByteArray)}{b y:Int}:y∈blksOf (zax (·.1) l b)↔y∈blksOf l∧y≠b:=by
 simp only[blksOf,List.mem_map];constructor
 ·rintro⟨x,C,rfl⟩;have:=zd8.1 C;exact⟨⟨x,this.1,rfl⟩,this.2⟩
 ·rintro⟨⟨x,B,rfl⟩,A⟩;exact⟨x,zd8.2 ⟨B,A⟩,rfl⟩
theorem zq8{l:List (Int×ByteArray)}(h:zbk (blksOf l)=true){b:Int}(h0:0≤b)(h1:b≤11)(s:ByteArray):zbk (blksOf (zbj (·.1) l b (b,s)))=true:=by
 have A:=(za6 _).1 h;rw[za6];refine⟨fun y hy=>?_,?_⟩
 ·rcases zjg.1 hy with rfl|⟨e,_⟩
  ·exact⟨h0,h1⟩
  ·exact A.1 y e
 ·rw[blksOf,zfm]at A⊢;exact zur A.2 rfl
theorem zl8{l:List (Int×ByteArray)}(h:zbk (blksOf l)=true)(b:Int):zbk (blksOf (zax (·.1) l b))=true:=by
 have A:=(za6 _).1 h;rw[za6];refine⟨fun y hy=>A.1 y (zhb.1 hy).1,?_⟩;rw[blksOf,zfm]at A⊢;exact zsi A.2 b
theorem zwz{l:List Int}(h:zbk l=true){b:Int}(h0:0≤b)(h1:b≤11):zbk (zbj id l b b)=true:=by
 rw[za6]at h⊢;refine⟨fun y hy=>?_,zur h.2 rfl⟩;rcases zfh.1 hy with rfl|⟨e,_⟩
 ·exact⟨h0,h1⟩
 ·exact h.1 y e
theorem zth{l:List Int}(h:zbk l=true)(b:Int):zbk (zax id l b)=true:=by
 rw[za6]at h⊢;exact⟨fun y hy=>h.1 y (zd8.1 hy).1,zsi h.2 b⟩
theorem zva{l:List (Int×ByteArray)}(h:zb7 l=true)(b:Int){s:ByteArray}(hs:zbc s=true):zb7 (zbj (·.1) l b (b,s))=true:=by
 unfold zb7 at h⊢;rw[List.all_eq_true]at h⊢;intro x A;rcases zfh.1 A with rfl|⟨e,_⟩
 ·exact hs
 ·exact h x e
theorem zn4{l:List (Int×ByteArray)}(h:zb7 l=true)(b:Int):zb7 (zax (·.1) l b)=true:=by
 unfold zb7 at h⊢;rw[List.all_eq_true]at h⊢;intro x A;exact h x (zd8.1 A).1
theorem zh0{α:Type}{key:α→Int}{l:List α}(h:Up key l)(b:Int):(zax key l b).length+(if(l.any fun x=>key x==b)=true then 1 else 0)=l.length:=by
 induction l with
 |nil=>rfl
 |cons x r ih=>
  have C:=List.pairwise_cons.1 h;have D:=ih C.2;have hd:=zsj h b;have E:=zsj C.2 b;rw[E]at D;rw[hd,List.filter_cons,List.any_cons];by_cases e:key x=b
  ·have A:(r.any fun x=>key x==b)=false:=by
    rw[List.any_eq_false];intro y F;have:=C.1 y F;simp;omega
   rw[A]at D;have B:(key x==b)=true:=by simpa using e
   rw[if_neg (by simpa using e),B,A];simp at D⊢;omega
  ·have B:(key x==b)=false:=by simpa using e
   rw[if_pos (by simpa using e),B,Bool.false_or,List.length_cons,List.length_cons];omega
theorem zz6{α:Type}(key:α→Int)(l:List α)(b:Int)(x:α):(zbj key l b x).length=(zax key l b).length+1:=by
 simp[zbj,zax];omega
theorem zvb(l:List (Int×ByteArray))(h:Up (·.1) l)(b:Int)(s:ByteArray):zai b (zbj (·.1) l b (b,s))=some s:=by
 have A:=zga (zur h (b:=b) (x:=(b,s)) rfl) b;have B:(zbj (·.1) l b (b,s)).filter (fun y=>decide (y.1=b))=[(b,s)]:=z2c b (b,s) rfl;rw[B]at A
 cases e:zai b (zbj (·.1) l b (b,s)) with
 |none=>rw[e]at A;simp at A
 |some u=>rw[e]at A;simp at A;rw[A]
theorem zq9(l:List (Int×ByteArray))(b:Int):zai b (zax (·.1) l b)=none:=by
 refine zlx ?_;rw[List.any_eq_false];intro x A;have:=(zd8.1 A).2
 simpa using this
theorem zw0(l:List Int)(b:Int):zaw (zax id l b) b=false:=by
 cases e:zaw (zax id l b) b with
 |false=>rfl
 |true=>exact absurd rfl (zd8.1 (zdv.2 e)).2
theorem ze1(t:Tx)(h b:Int):(nameT t h b).seq=t.seq:=by
 unfold nameT ze6;split
 ·rfl
 ·split
  ·rfl
  ·split<;>rfl
theorem zn5{t:Tx}{h b:Int}(hg:za9 t=true)(hh:h=0∨h=1∨h=2)(hn:nameE t h b=0)(ho:(zeu t h).on=true):
  hdB (nameT t h b).h0=true∧hdB (nameT t h b).h1=true∧hdB (nameT t h b).h2=true:=by
 have A:=((za7 t).1 hg).2.2.2.2;unfold nameT;by_cases e:zcq t b=true
 ·rw[if_pos e];exact A
 ·rw[if_neg e];rw[nameE,if_neg e]at hn;have hk:=(zet _).1 (zl7 hg h);have hl:(zeu t h).left≠0:=by intro e;rw[if_pos e]at hn;cases hn
  have B:hdB ⟨(zeu t h).on,(zeu t h).left - 1⟩=true:=(zet _).2 ⟨by show 0≤(zeu t h).left - 1;omega,by show(zeu t h).left - 1≤24;omega,fun e=>by rw[ho]at e;cases e⟩;rcases hh with rfl|rfl|rfl
  ·exact⟨B,A.2.1,A.2.2⟩
  ·exact⟨A.1,B,A.2.2⟩
  ·exact⟨A.1,A.2.1,B⟩
theorem zl9(t:Tx)(h b:Int)(hh:h=0∨h=1∨h=2):(nameT t h b).h0.left+(nameT t h b).h1.left+(nameT t h b).h2.left=t.h0.left+t.h1.left+t.h2.left - (if zcq t b=true then 0 else 1):=by
 unfold nameT
 cases zcq t b with
 |true=>simp
 |false=>rcases hh with rfl|rfl|rfl<;>simp[ze6,zeu]<;>omega
theorem zjh{t:Tx}{h b:Int}{s:ByteArray}(e:changeE t h b s=0):reachE t h b=0∧zbc s=true∧(zai b t.data).isSome=false∧nameE t h b=0:=by
 unfold changeE at e;by_cases h1:reachE t h b=0
 ·rw[if_neg (by simpa using h1)]at e
  cases h2:zbc s with
  |false=>rw[if_pos h2]at e;cases e
  |true=>
   rw[if_neg (by rw[h2];simp)]at e
   cases h3:(zai b t.data).isSome with
   |true=>rw[if_pos h3]at e;cases e
   |false=>rw[if_neg (by rw[h3];simp)]at e;exact⟨h1,rfl,rfl,e⟩
 ·rw[if_pos h1]at e;exact absurd e h1
theorem zti{t:Tx}{h b:Int}{s:ByteArray}(e:fillE t h b s=0):reachE t h b=0∧zbc s=true∧zcq t b=false:=by
 unfold fillE at e;by_cases h1:reachE t h b=0
 ·rw[if_neg (by simpa using h1)]at e
  cases h2:zbc s with
  |false=>rw[if_pos h2]at e;cases e
  |true=>
   rw[if_neg (by rw[h2];simp)]at e
   cases h3:zcq t b with
   |true=>rw[if_pos h3]at e;cases e
   |false=>exact⟨h1,rfl,rfl⟩
 ·rw[if_pos h1]at e;exact absurd e h1
theorem zji{t:Tx}{h b:Int}(e:revokeE t h b=0):reachE t h b=0∧zaw t.rev b=false∧nameE t h b=0:=by
 unfold revokeE at e;by_cases h1:reachE t h b=0
 ·rw[if_neg (by simpa using h1)]at e
  cases h3:zaw t.rev b with
  |true=>rw[if_pos h3]at e;cases e
  |false=>rw[if_neg (by rw[h3];simp)]at e;exact⟨h1,rfl,e⟩
 ·rw[if_pos h1]at e;exact absurd e h1
theorem zpa{t:Tx}(h1:1≤t.seq∧t.seq≤2147483647)(h2:zb7 t.info=true)(h3:zb7 t.data=true)(h4:zbk (blksOf t.info)=true)(h5:zbk (blksOf t.data)=true)(h6:zbk t.rev=true)(h7:zz5 t)(h8:hdB t.h0=true∧hdB t.h1=true∧hdB t.h2=true):za9 t=true:=
 (za7 t).2 ⟨h1,⟨h2,h3⟩,⟨h4,h5,h6⟩,(zn3 h4 h5 h6).2 h7,h8⟩
theorem zd7{t:Tx}(h:za9 t=true):zz5 t:=by
 have:=(za7 t).1 h;exact(zn3 this.2.2.1.1 this.2.2.1.2.1 this.2.2.1.2.2).1 this.2.2.2.1
theorem zkm{t:Tx}{h b:Int}{s:ByteArray}(e:changeE t h b s=0):za9 (zev t h b s)=true:=by
 obtain⟨Q,L,hd,K⟩:=zjh e;obtain⟨D,J,O,N,M⟩:=zcd Q;have A:=(za7 t).1 D;have E:=zd7 D;refine zpa (t:=zev t h b s) ?_ (zva A.2.1.1 b L) ?_ (zq8 A.2.2.1.1 N M s) ?_ (zth A.2.2.1.2.2 b) ?_ (zn5 D J K O)
 ·show 1≤(nameT t h b).seq∧(nameT t h b).seq≤2147483647;rw[ze1];exact A.1
 ·show zb7 (nameT t h b).data=true;rw[(zel t h b).2.1];exact A.2.1.2
 ·show zbk (blksOf (nameT t h b).data)=true;rw[(zel t h b).2.1];exact A.2.2.1.2.1
 ·have B:(zev t h b s).data=t.data:=(zel t h b).2.1;have I:b∉blksOf t.data:=fun e=>by rw[zo9,hd]at e;cases e
  refine⟨fun x hx=>⟨?_,?_⟩,fun x hx=>?_⟩
  ·rw[B];rcases zjg.1 hx with rfl|⟨h1,_⟩
   ·exact I
   ·exact(E.1 x h1).1
  ·intro C;have F:=zd8.1 C;rcases zjg.1 hx with rfl|⟨h1,_⟩
   ·exact F.2 rfl
   ·exact(E.1 x h1).2 F.1
  ·rw[B]at hx;intro C;exact E.2 x hx (zd8.1 C).1
theorem zkn{t:Tx}{h b:Int}(e:revokeE t h b=0):za9 (zew t h b)=true:=by
 obtain⟨M,hd,I⟩:=zji e;obtain⟨D,F,L,K,J⟩:=zcd M;have B:=(za7 t).1 D;have E:=zd7 D;refine zpa (t:=zew t h b) ?_ (zn4 B.2.1.1 b) (zn4 B.2.1.2 b) (zl8 B.2.2.1.1 b) (zl8 B.2.2.1.2.1 b) (zwz B.2.2.1.2.2 K J) ?_ (zn5 D F I L)
 ·show 1≤(nameT t h b).seq∧(nameT t h b).seq≤2147483647;rw[ze1];exact B.1
 ·refine⟨fun x hx=>⟨?_,?_⟩,fun x hx=>?_⟩
  ·intro A;exact(E.1 x (zhb.1 hx).1).1 (zhb.1 A).1
  ·intro A;have C:=zhb.1 hx;rcases zfh.1 A with rfl|⟨h2,_⟩
   ·exact C.2 rfl
   ·exact(E.1 x C.1).2 h2
  ·intro A;have C:=zhb.1 hx;rcases zfh.1 A with rfl|⟨h2,_⟩
   ·exact C.2 rfl
   ·exact E.2 x C.1 h2
theorem zw1{t:Tx}{h b:Int}{s:ByteArray}(e:fillE t h b s=0):za9 {t with data:=zbj (·.1) t.data b (b,s)}=true:=by
 obtain⟨K,I,hd⟩:=zti e;obtain⟨E,hh,ho,J,F⟩:=zcd K;have B:=(za7 t).1 E;have D:=zd7 E;have C:(zai b t.info).isSome=false∧zaw t.rev b=false:=by rw[zcq]at hd;simpa using hd
 refine zpa (t:={t with data:=zbj (·.1) t.data b (b,s)}) B.1 B.2.1.1 (zva B.2.1.2 b I) B.2.2.1.1 (zq8 B.2.2.1.2.1 J F s) B.2.2.1.2.2 ?_ B.2.2.2.2;refine⟨fun x hx=>⟨?_,(D.1 x hx).2⟩,fun x hx=>?_⟩
 ·intro A;rcases zjg.1 A with rfl|⟨h2,_⟩
  ·rw[zo9,C.1]at hx;cases hx
  ·exact(D.1 x hx).1 h2
 ·intro A;rcases zjg.1 hx with rfl|⟨h1,_⟩
  ·rw[zdv]at A;rw[C.2]at A;cases A
  ·exact D.2 x h1 A
theorem zj3{t:Tx}{h:Int}{x:Hd}(hg:za9 t=true)(hx:hdB x=true):za9 (ze6 t h x)=true:=by
 have A:=(za7 t).1 hg;unfold ze6;split
 ·exact(za7 _).2 ⟨A.1,A.2.1,A.2.2.1,A.2.2.2.1,hx,A.2.2.2.2.2⟩
 ·split
  ·exact(za7 _).2 ⟨A.1,A.2.1,A.2.2.1,A.2.2.2.1,A.2.2.2.2.1,hx,A.2.2.2.2.2.2⟩
  ·exact(za7 _).2 ⟨A.1,A.2.1,A.2.2.1,A.2.2.2.1,A.2.2.2.2.1,A.2.2.2.2.2.1,hx⟩
theorem zpb{t:Tx}{h b:Int}{s:ByteArray}(e:changeE t h b s=0):zb2 (zev t h b s)=zb2 t:=by
 have Q:=zkm e;obtain⟨K,hs,hd,hn⟩:=zjh e;obtain⟨D,N,ho,b0,b1⟩:=zcd K;have E:=(za7 t).1 D;have J:=zd7 D;have u1:Up (·.1) t.info:=(zfm _ _).1 ((za6 _).1 E.2.2.1.1).2;have u3:Up id t.rev:=((za6 _).1 E.2.2.1.2.2).2;rw[(zc6 Q).1,(zc6 D).1];have A:=zh0 u1 b;have B:=zh0 u3 b;have F:=zz6 (·.1) t.info b (b,s);have I:=zl9 t h b N;have x1:(zev t h b s).info.length=(zax (·.1) t.info b).length+1:=F;have x3:(zev t h b s).rev.length=(zax id t.rev b).length:=rfl;have C:(zev t h b s).h0.left+(zev t h b s).h1.left+(zev t h b s).h2.left=t.h0.left+t.h1.left+t.h2.left - (if zcq t b=true then 0 else 1):=I;have M:(t.info.any fun x=>x.1==b)=(zai b t.info).isSome:=(zlb t.info b).symm;have L:(t.rev.any fun x=>id x==b)=zaw t.rev b:=rfl;rw[M]at A;rw[L]at B;have O:¬((zai b t.info).isSome=true∧zaw t.rev b=true):=fun⟨e1,e2⟩=>(J.1 b (zo9.2 e1)).2 (zdv.2 e2);unfold zcq at C
 cases c1:(zai b t.info).isSome with
 |true=>
  cases c3:zaw t.rev b with
  |true=>exact absurd ⟨c1,c3⟩ O
  |false=>rw[c1]at A;rw[c3]at B;rw[c1]at C;simp at A B C;omega
 |false=>
  cases c3:zaw t.rev b with
  |true=>rw[c1]at A;rw[c3]at B;rw[c1,c3]at C;simp at A B C;omega
  |false=>rw[c1]at A;rw[c3]at B;rw[c1,c3]at C;simp at A B C;omega
theorem zpc{t:Tx}{h b:Int}(e:revokeE t h b=0):zb2 (zew t h b)=zb2 t:=by
 have M:=zkn e;obtain⟨I,hd,hn⟩:=zji e;obtain⟨E,L,ho,b0,b1⟩:=zcd I;have D:=(za7 t).1 E;have u1:Up (·.1) t.info:=(zfm _ _).1 ((za6 _).1 D.2.2.1.1).2;have u3:Up id t.rev:=((za6 _).1 D.2.2.1.2.2).2;rw[(zc6 M).1,(zc6 E).1];have B:=zh0 u1 b;have C:=zh0 u3 b;have p3:=zz6 id t.rev b b;have F:=zl9 t h b L;have x1:(zew t h b).info.length=(zax (·.1) t.info b).length:=rfl;have x3:(zew t h b).rev.length=(zax id t.rev b).length+1:=p3;have A:(zew t h b).h0.left+(zew t h b).h1.left+(zew t h b).h2.left=t.h0.left+t.h1.left+t.h2.left - (if zcq t b=true then 0 else 1):=F;have K:(t.info.any fun x=>x.1==b)=(zai b t.info).isSome:=(zlb t.info b).symm;have J:(t.rev.any fun x=>id x==b)=zaw t.rev b:=rfl;rw[K]at B;rw[J,hd]at C;unfold zcq at A;rw[hd,Bool.or_false]at A
 cases c1:(zai b t.info).isSome with
 |true=>rw[c1]at B;rw[c1]at A;simp at B C A;omega
 |false=>rw[c1]at B;rw[c1]at A;simp at B C A;omega
def zcx (t:Tx)(k h b n free:Int)(s:ByteArray):Int:=
 if k=0 then zbe t h n free else if k=1 then changeE t h b s else if k=2 then fillE t h b s else if k=3 then revokeE t h b else zc7 t h
def zco (t:Tx)(k h b n free:Int)(s:ByteArray):Tx:=
 if k=0 then zav t h n free else if k=1 then zaf t h b s else if k=2 then zan t h b s else if k=3 then zag t h b else zb5 t h
theorem zw3{a b:Int}(h:a≤b):clampN a≤clampN b:=by unfold clampN;split<;>split<;>(try split)<;>(try split)<;>omega
theorem zz9{a b:Int}(h:a≤b):ze5 a≤ze5 b:=by
 have h1:=zw3 h;unfold ze5;generalize clampN a=x at *;generalize clampN b=y at *;have e1:(if 0<x then(1:Int) else 0)≤if 0<y then 1 else 0:=by split<;>split<;>omega
 have e2:(if 10<x then(1:Int) else 0)≤if 10<y then 1 else 0:=by split<;>split<;>omega
 have e3:(if 20<x then(1:Int) else 0)≤if 20<y then 1 else 0:=by split<;>split<;>omega
 omega
theorem zma(t:Tx)(h:Int)(x:Hd):(ze6 t h x).info=t.info∧(ze6 t h x).rev=t.rev:=by
 unfold ze6;split
 ·exact⟨rfl,rfl⟩
 ·split<;>exact⟨rfl,rfl⟩
theorem zmb{t:Tx}{h:Int}{x:Hd}(hg:za9 t=true)(hx:hdB x=true):zb2 (ze6 t h x)=zb2 t - (zeu t h).left+x.left:=by
 have e:=(zc6 (zj3 (h:=h) hg hx)).1;have A:=(zc6 hg).1;rw[e,A,(zma t h x).1,(zma t h x).2];unfold ze6 zeu;split
 ·show _+_+x.left+t.h1.left+t.h2.left=_;omega
 ·split
  ·show _+_+t.h0.left+x.left+t.h2.left=_;omega
  ·show _+_+t.h0.left+t.h1.left+x.left=_;omega
theorem z22{t:Tx}{h n free:Int}(e:zbe t h n free=0):za9 t=true∧(zeu t h).on=false∧(0≤n∧n≤12)∧zb2 t+n≤24∧ze5 (zb2 t+n)≤free:=by
 unfold zbe at e
 cases hg:za9 t with
 |false=>rw[if_pos hg]at e;cases e
 |true=>
  rw[if_neg (by rw[hg];simp)]at e;by_cases h1:h<0∨2<h
  ·rw[if_pos h1]at e;cases e
  ·rw[if_neg h1]at e
   cases ho:(zeu t h).on with
   |true=>rw[if_pos ho]at e;cases e
   |false=>
    rw[if_neg (by rw[ho];simp)]at e;by_cases h2:n<0∨12<n
    ·rw[if_pos h2]at e;cases e
    ·rw[if_neg h2]at e;by_cases h3:24<zb2 t+n∨free<ze5 (zb2 t+n)
     ·rw[if_pos h3]at e;cases e
     ·exact⟨rfl,rfl,by omega,by omega,by omega⟩
theorem ztk{t:Tx}{k h b n free:Int}{s:ByteArray}(he:¬zcx t k h b n free s=0):zco t k h b n free s=t:=by
 unfold zcx at he;unfold zco;split
 ·rename_i A;rw[if_pos A]at he;rw[zav,if_neg he]
 ·rename_i A;rw[if_neg A]at he;split
  ·rename_i A;rw[if_pos A]at he;rw[zaf,if_neg he]
  ·rename_i A;rw[if_neg A]at he;split
   ·rename_i A;rw[if_pos A]at he;rw[zan,if_neg he]
   ·rename_i A;rw[if_neg A]at he;split
    ·rename_i A;rw[if_pos A]at he;rw[zag,if_neg he]
    ·rename_i A;rw[if_neg A]at he;rw[zb5,if_neg he]
theorem zrb{t:Tx}{k h b n free:Int}{s:ByteArray}(hg:za9 t=true):
  za9 (zco t k h b n free s)=true∧(k≠0→zb2 (zco t k h b n free s)≤zb2 t)∧(zcx t k h b n free s=0→k=0→ze5 (zb2 (zco t k h b n free s))≤free):=by
 by_cases he:zcx t k h b n free s=0
 ·have I:=(zet _).1 (zl7 hg h);unfold zcx at he;unfold zco;split
  ·rename_i A;rw[if_pos A]at he;obtain⟨_,M,K,A0,J⟩:=z22 he;have B:hdB ⟨true,n⟩=true:=(zet _).2 ⟨K.1,by show n≤24;omega,fun e=>by cases e⟩;have L:(zeu t h).left=0:=I.2.2 M;have F:=zmb (h:=h) hg B;rw[L]at F;rw[zav,if_pos he];refine⟨zj3 hg B,fun e=>absurd A e,fun _ _=>?_⟩;rw[F,show zb2 t - 0+(Hd.mk true n).left=zb2 t+n from by show _ - 0+n=_;omega];exact J
  ·rename_i A;rw[if_neg A]at he;split
   ·rename_i C;rw[if_pos C]at he;rw[zaf,if_pos he];exact⟨zkm he,fun _=>by rw[zpb he];omega,fun _ e=>absurd e A⟩
   ·rename_i C;rw[if_neg C]at he;split
    ·rename_i E;rw[if_pos E]at he;rw[zan,if_pos he];refine⟨zw1 he,fun _=>?_,fun _ e=>absurd e A⟩;exact Int.le_of_eq rfl
    ·rename_i E;rw[if_neg E]at he;split
     ·rename_i D;rw[if_pos D]at he;rw[zag,if_pos he];exact⟨zkn he,fun _=>by rw[zpc he];omega,fun _ e=>absurd e A⟩
     ·rename_i D;rw[if_neg D]at he;have B:hdB ⟨false,0⟩=true:=rfl;have F:=zmb (h:=h) hg B;rw[zb5,if_pos he];refine⟨zj3 hg B,fun _=>?_,fun _ e=>absurd e A⟩;rw[F];show zb2 t - (zeu t h).left+0≤_;omega
 ·rw[ztk he];exact⟨hg,fun _=>Int.le_refl _,fun e=>absurd e he⟩
open Go.Proofs.Tryz
def zpe (base:Nat)(v:Value)(t:Tx):Prop:=
 ∃a c a' c' r d,v=.agg #[.int .i64 t.seq,.slice a t.info.length c,.slice a' t.data.length c',.slice r t.rev.length d,.bool t.h0.on,.int .i64 t.h0.left,.bool t.h1.on,.int .i64 t.h1.left,.bool t.h2.on,.int .i64 t.h2.left]∧
  (∀x off,a=some ⟨x,off,none⟩→base≤x)∧(∀x off,a'=some ⟨x,off,none⟩→base≤x)∧∀x off,r=some ⟨x,off,none⟩→base≤x
theorem BoxTx.from{w:World}{B base:Nat}{t:Tx}{va vd vr:Value}(h:BoxTx w B t va vd vr)(hb:base≤B+1):
  zpe base (.agg #[.int .i64 t.seq,va,vd,vr,.bool t.h0.on,.int .i64 t.h0.left,.bool t.h1.on,.int .i64 t.h1.left,.bool t.h2.on,.int .i64 t.h2.left]) t:=by
 obtain⟨a,c,rfl,_,h1⟩:=SegC.of_owns h.2.1;obtain⟨D,A,rfl,_,h2⟩:=SegC.of_owns h.2.2.1;obtain⟨r,d,rfl,_,C⟩:=SegI.of_owns h.2.2.2;exact⟨a,c,D,A,r,d,rfl,fun x o e=>Nat.le_trans hb (h1 x o e),fun x o e=>Nat.le_trans hb (h2 x o e),fun x o e=>Nat.le_trans hb (C x o e)⟩
def za2 (base:Nat)(v:Value)(t:Tx):Prop:=zpe base v t∧RoomTx v
theorem zpf{w:World}{base sz k n c:Nat}{e:TypeId}{a:Option Addr}{xs:List Value}(h:w.ownsRow base e sz (.slice a n c) k xs):n≤c:=by
 rcases h.2 with⟨e,_⟩|⟨g,cap,cur,e,_,_,h1,_⟩
 ·simp only[Value.slice.injEq]at e;omega
 ·simp only[Value.slice.injEq]at e;omega
theorem BoxTx.fromR{w:World}{B base:Nat}{t:Tx}{va vd vr:Value}(h:BoxTx w B t va vd vr)(hb:base≤B+1):
  za2 base (.agg #[.int .i64 t.seq,va,vd,vr,.bool t.h0.on,.int .i64 t.h0.left,.bool t.h1.on,.int .i64 t.h1.left,.bool t.h2.on,.int .i64 t.h2.left]) t:=by
 refine⟨h.from hb,?_⟩;obtain⟨_,C,D,A⟩:=h;obtain⟨a,c,rfl,_,_⟩:=SegC.of_owns C;obtain⟨a',c',rfl,_,_⟩:=SegC.of_owns D;obtain⟨r,d,rfl,_,_⟩:=SegI.of_owns A;exact⟨_,_,_,_,_,_,_,_,_,_,_,_,_,_,_,_,rfl,zpf C,zpf D,zpf A⟩
theorem BoxTx.other{w:World}{B:Nat}{t:Tx}{va vd vr:Value}(h:BoxTx w B t va vd vr){p:Addr}(hp:p.block<B)(u:Value):BoxTx (w.setCell p u) B t va vd vr:=
 ⟨(Below.heap_setCell _ _ _ _ (by omega)).trans h.1,ownsRow_setCell_below h.2.1 (by omega) _,ownsRow_setCell_below h.2.2.1 (by omega) _,ownsRow_setCell_below h.2.2.2 (by omega) _⟩
theorem zw9(v:Value)(t:Tx)(h n free:Int)(w:World)(hT:IsTx w v t)(r1:t.info.length*24≤140737488355328)(r2:t.data.length*24≤140737488355328)(hg:za9 t=false):
  Calls prog 80 #[v,.int .i64 h,.int .i64 n,.int .i64 free] w fun e w'=>∃v2,e=.returned (.tuple #[v2,.int .i64 (zbe t h n free)])∧IsTx w' v2 (zav t h n free)∧Below w.heap.size w w'∧(v2=v∨za2 w.heap.size v2 (zav t h n free)):=by
 have K:=zaa hT;obtain⟨a,c,j,X,r,d,rfl,N,i,b,J,C,I⟩:=hT;have N1:=zaa J;have N2:=zaa C;have N3:=zaa I;clear N i b J C I;go_enter func80,ntmps80;go_wp2_with fail;refine(zb8 _ t _ (K.o.below (zae (zab _ _) (zab _ _))) r1 r2).mono ?_;rintro e E ⟨rfl,A⟩;have A1:w.heap.size+1<E.heap.size:=by have:=A.size;simp at this;omega
 have A0:w.heap.size<E.heap.size:=by omega
 have L:=zaa (zhm A);have R:=zaa (zh4 A);obtain⟨⟨x0,x1,x2,x3,x4,x5,x6,x7,x8,x9⟩,_⟩:=zaj L.o;obtain⟨⟨m,l,U,O,S,Z,Y,M,Q,k⟩,ff⟩:=zaj R.o;have B:=zaa (zae (zae (zab _ _) (zab _ _)) A);clear A;have D:Hid (zbe t h n free=2):=by rw[Hid,zbe,if_pos hg]
 have F:Hid (zav t h n free=t):=by rw[Hid,zav,D.o];rfl
 go_wp2;refine bodyPost_ret (v:=.tuple #[.agg #[.int .i64 t.seq,.slice a t.info.length c,.slice j t.data.length X,.slice r t.rev.length d,.bool t.h0.on,.int .i64 t.h0.left,.bool t.h1.on,.int .i64 t.h1.left,.bool t.h2.on,.int .i64 t.h2.left],.int .i64 2]) (by simp[results,results80,go_sem,m,l,U,O,S,Z,Y,M,Q,k]) rfl ⟨_,by rw[D.o],?_⟩;refine⟨?_,?_,.inl rfl⟩
 ·rw[F.o];refine K.o.below ?_
  repeat refine Below.setCell ?_ (by simp) _
  exact B.o
 ·repeat refine Below.setCell ?_ (by simp) _
  exact B.o
theorem ztm(v:Value)(t:Tx)(h n free:Int)(w:World)(hT:IsTx w v t)(r1:t.info.length*24≤140737488355328)(r2:t.data.length*24≤140737488355328)(hg:za9 t=true)(hw:zao h 0 2=false):
  Calls prog 80 #[v,.int .i64 h,.int .i64 n,.int .i64 free] w fun e w'=>∃v2,e=.returned (.tuple #[v2,.int .i64 (zbe t h n free)])∧IsTx w' v2 (zav t h n free)∧Below w.heap.size w w'∧(v2=v∨za2 w.heap.size v2 (zav t h n free)):=by
 have L:=zaa hT;obtain⟨a,c,k,Y,r,d,rfl,O,j,i,K,D,J⟩:=hT;have N1:=zaa K;have N2:=zaa D;have N3:=zaa J;clear O j i K D J;go_enter func80,ntmps80;go_wp2_with fail;refine(zb8 _ t _ (L.o.below (zae (zab _ _) (zab _ _))) r1 r2).mono ?_;rintro e F ⟨rfl,A⟩;have A1:w.heap.size+1<F.heap.size:=by have:=A.size;simp at this;omega
 have A0:w.heap.size<F.heap.size:=by omega
 have M:=zaa (zhm A);have S:=zaa (zh4 A);obtain⟨⟨x0,x1,x2,x3,x4,x5,x6,x7,x8,x9⟩,_⟩:=zaj M.o;obtain⟨⟨p,m,X,Q,U,b,Z,N,R,l⟩,ff⟩:=zaj S.o;have C:=zaa (zae (zae (zab _ _) (zab _ _)) A);clear A
 have B:h<0∨2<h:=by
  by_cases e:0≤h∧h≤2
  ·rw[zbh.2 e]at hw;cases hw
  ·omega
 have E:Hid (zbe t h n free=4):=by rw[Hid,zbe,if_neg (by rw[hg];simp),if_pos B]
 have I:Hid (zav t h n free=t):=by rw[Hid,zav,E.o];rfl
 clear B;go_wp2_with (go_at_call 117;refine(zbn _ _).mono ?_;rintro e w' ⟨rfl,rfl⟩);refine bodyPost_ret (v:=.tuple #[.agg #[.int .i64 t.seq,.slice a t.info.length c,.slice k t.data.length Y,.slice r t.rev.length d,.bool t.h0.on,.int .i64 t.h0.left,.bool t.h1.on,.int .i64 t.h1.left,.bool t.h2.on,.int .i64 t.h2.left],.int .i64 4]) (by simp[results,results80,go_sem,p,m,X,Q,U,b,Z,N,R,l]) rfl ⟨_,by rw[E.o],?_⟩;refine⟨?_,?_,.inl rfl⟩
 ·rw[I.o];refine L.o.below ?_
  repeat refine Below.setCell ?_ (by simp) _
  exact C.o
 ·repeat refine Below.setCell ?_ (by simp) _
  exact C.o
theorem zxa(v:Value)(t:Tx)(n free:Int)(w:World)(hT:IsTx w v t)(r1:t.info.length*24≤140737488355328)(r2:t.data.length*24≤140737488355328)(hg:za9 t=true)(ho:t.h0.on=true):
  Calls prog 80 #[v,.int .i64 0,.int .i64 n,.int .i64 free] w fun e w'=>∃v2,e=.returned (.tuple #[v2,.int .i64 (zbe t 0 n free)])∧IsTx w' v2 (zav t 0 n free)∧Below w.heap.size w w'∧(v2=v∨za2 w.heap.size v2 (zav t 0 n free)):=by
 have O:=zaa ho;clear ho;have K:=zaa hT;obtain⟨a,c,j,Y,r,d,rfl,N,i,h,J,C,I⟩:=hT;have N1:=zaa J;have N2:=zaa C;have N3:=zaa I;clear N i h J C I;go_enter func80,ntmps80;go_wp2_with fail;refine(zb8 _ t _ (K.o.below (zae (zab _ _) (zab _ _))) r1 r2).mono ?_;rintro e E ⟨rfl,A⟩;have A1:w.heap.size+1<E.heap.size:=by have:=A.size;simp at this;omega
 have A0:w.heap.size<E.heap.size:=by omega
 have L:=zaa (zhm A);have S:=zaa (zh4 A);obtain⟨⟨x0,x1,x2,x3,x4,x5,x6,x7,x8,x9⟩,_⟩:=zaj L.o;obtain⟨⟨m,l,X,Q,U,b,Z,M,R,k⟩,ff⟩:=zaj S.o;have B:=zaa (zae (zae (zab _ _) (zab _ _)) A);clear A;have ho:=O.o;have D:Hid (zbe t 0 n free=5):=by rw[Hid,zbe,if_neg (by rw[hg];simp),if_neg (by omega),show zeu t 0=t.h0 from rfl,if_pos ho]
 have F:Hid (zav t 0 n free=t):=by rw[Hid,zav,D.o];rfl
 have hw:zao 0 0 2=true:=rfl;go_wp2_with (go_at_call 117;refine(zbn _ _).mono ?_;rintro e w' ⟨rfl,rfl⟩);refine bodyPost_ret (v:=.tuple #[.agg #[.int .i64 t.seq,.slice a t.info.length c,.slice j t.data.length Y,.slice r t.rev.length d,.bool t.h0.on,.int .i64 t.h0.left,.bool t.h1.on,.int .i64 t.h1.left,.bool t.h2.on,.int .i64 t.h2.left],.int .i64 5]) (by simp[results,results80,go_sem,m,l,X,Q,U,b,Z,M,R,k,ho]) rfl ⟨_,by rw[D.o],?_⟩;refine⟨?_,?_,.inl rfl⟩
 ·rw[F.o];refine K.o.below ?_
  repeat refine Below.setCell ?_ (by simp) _
  exact B.o
 ·repeat refine Below.setCell ?_ (by simp) _
  exact B.o
theorem ztn(v:Value)(t:Tx)(n free:Int)(w:World)(hT:IsTx w v t)(r1:t.info.length*24≤140737488355328)(r2:t.data.length*24≤140737488355328)(hg:za9 t=true)(ho:t.h0.on=false):
  Calls prog 80 #[v,.int .i64 0,.int .i64 n,.int .i64 free] w fun e w'=>∃v2,e=.returned (.tuple #[v2,.int .i64 (zbe t 0 n free)])∧IsTx w' v2 (zav t 0 n free)∧Below w.heap.size w w'∧(v2=v∨za2 w.heap.size v2 (zav t 0 n free)):=by
 have A3:=za3 hg;have i:=zc6 hg;have HO:=zaa ho;clear ho;have s:=zaa hT;obtain⟨a,c,a',c',r,d,rfl,hM,hD,hR,n1,n2,n3⟩:=hT;have N1:=zaa n1;have N2:=zaa n2;have N3:=zaa n3;clear hM hD hR n1 n2 n3;go_enter func80,ntmps80;go_wp2_with fail;refine(zb8 _ t _ (s.o.below (zae (zab _ _) (zab _ _))) r1 r2).mono ?_;rintro e w1 ⟨rfl,N⟩;have A8:w.heap.size+1<w1.heap.size:=by have:=N.size;simp at this;omega
 have A1:w.heap.size<w1.heap.size:=by omega
 have K1:=zaa (zhm N);have z:=zaa (zh4 N);obtain⟨⟨x0,x1,x2,x3,x4,x5,x6,x7,x8,x9⟩,_⟩:=zaj K1.o;obtain⟨⟨h,Q,Y,S,X,O,Z,R,U,b⟩,m⟩:=zaj z.o;have I:=zaa (zae (zae (zab _ _) (zab _ _)) N);clear N;have ho:=HO.o;have p:¬za9 t=false:=by rw[hg];simp
 have l:¬(zeu t 0).on=true:=by rw[show zeu t 0=t.h0 from rfl,ho];simp
 have y:Hid (IsTx w (.agg #[.int .i64 t.seq,.slice a t.info.length c,.slice a' t.data.length c',.slice r t.rev.length d,.bool false,.int .i64 t.h0.left,.bool t.h1.on,.int .i64 t.h1.left,.bool t.h2.on,.int .i64 t.h2.left]) t):=by have:=s.o;rw[ho]at this;exact this
 have hw:zao 0 0 2=true:=rfl
 cases hq:zao n 0 12 with
 |false=>
  have x:n<0∨12<n:=by
   by_cases e:0≤n∧n≤12
   ·rw[zbh.2 e]at hq;cases hq
   ·omega
  have E:Hid (zbe t 0 n free=2):=by rw[Hid,zbe,if_neg p,if_neg (by omega),if_neg l,if_pos x]
  have F:Hid (zav t 0 n free=t):=by rw[Hid,zav,E.o];rfl
  clear p l x i A3;go_wp2_with (first|(go_at_call 117;refine(zbn _ _).mono ?_;rintro e w' ⟨rfl,rfl⟩)|(go_at_call 59;refine(zaz _ _ _ _).mono ?_;rintro e w' ⟨rfl,rfl⟩));refine bodyPost_ret (v:=.tuple #[.agg #[.int .i64 t.seq,.slice a t.info.length c,.slice a' t.data.length c',.slice r t.rev.length d,.bool t.h0.on,.int .i64 t.h0.left,.bool t.h1.on,.int .i64 t.h1.left,.bool t.h2.on,.int .i64 t.h2.left],.int .i64 2]) (by simp[results,results80,go_sem,h,Q,Y,S,X,O,Z,R,U,b,ho]) rfl ⟨_,by rw[E.o],?_⟩;refine⟨?_,?_,.inl rfl⟩
  ·rw[F.o];refine s.o.below ?_
   repeat refine Below.setCell ?_ (by simp) _
   exact I.o
  ·repeat refine Below.setCell ?_ (by simp) _
   exact I.o
 |true=>
  have B1:=zbh.1 hq;have NN:¬(n<0∨12<n):=by omega
  go_wp2_with (first|(go_at_call 117;refine(zbn _ _).mono ?_;rintro e w' ⟨rfl,rfl⟩)|(go_at_call 59;refine(zaz _ _ _ _).mono ?_;rintro e w' ⟨rfl,rfl⟩));refine(zj2 _ t _ (y.o.below I.o)).mono ?_;rintro e J ⟨rfl,K⟩;have A5:w.heap.size+1<J.heap.size:=by have:=K.size;omega
  have A9:w.heap.size<J.heap.size:=by omega
  have A4:=zaa (zad K A1 K1.o);have u:=zaa (zad K A8 z.o);have L:=zaa (zae I.o K);clear x0 x1 x2 x3 x4 x5 x6 x7 x8 x9 h Q Y S X O Z R U b m K K1 z I;obtain⟨⟨x0,x1,x2,x3,x4,x5,x6,x7,x8,x9⟩,_⟩:=zaj A4.o;obtain⟨⟨h,Q,Y,S,X,O,Z,R,U,b⟩,m⟩:=zaj u.o;have A7:=i.2.1;have A6:=i.2.2;have M:Hid (zbe t 0 n free=if 24<zb2 t+n∨free<ze5 (zb2 t+n) then 6 else 0):=by rw[Hid,zbe,if_neg p,if_neg (by omega),if_neg l,if_neg NN]
  obtain⟨q,j⟩:∃q,q=zb2 t:=⟨_,rfl⟩;rw[←j]at M A7 A6;rw[←j];clear i p l NN j hq
  cases hrm:(decide (q+n≤24)&&decide (ze5 (q+n)≤free)) with
  |false=>
   have E:Hid (zbe t 0 n free=6):=by
    rw[Hid,M.o,if_pos];by_cases e:q+n≤24
    ·rw[show decide (q+n≤24)=true from by simpa using e,Bool.true_and]at hrm;simp at hrm;omega
    ·omega
   have F:Hid (zav t 0 n free=t):=by rw[Hid,zav,E.o];rfl
   have A:=zhz (q+n) free J;rw[hrm]at A;clear hrm M;go_wp2_with fail;refine A.mono ?_;rintro e w3 ⟨rfl,rfl⟩;go_wp2;refine bodyPost_ret (v:=.tuple #[.agg #[.int .i64 t.seq,.slice a t.info.length c,.slice a' t.data.length c',.slice r t.rev.length d,.bool t.h0.on,.int .i64 t.h0.left,.bool t.h1.on,.int .i64 t.h1.left,.bool t.h2.on,.int .i64 t.h2.left],.int .i64 6]) (by simp[results,results80,go_sem,h,Q,Y,S,X,O,Z,R,U,b,ho]) rfl ⟨_,by rw[E.o],?_⟩;refine⟨?_,?_,.inl rfl⟩
   ·rw[F.o];refine s.o.below ?_
    repeat refine Below.setCell ?_ (by simp) _
    exact L.o
   ·repeat refine Below.setCell ?_ (by simp) _
    exact L.o
  |true=>
   have E:Hid (zbe t 0 n free=0):=by
    rw[Hid,M.o,if_neg];simp at hrm;omega
   have F:Hid (zav t 0 n free={t with h0:=⟨true,n⟩}):=by rw[Hid,zav,E.o];rfl
   have A:=zhz (q+n) free J;rw[hrm]at A;clear hrm M;go_wp2_with fail;refine A.mono ?_;rintro e w3 ⟨rfl,rfl⟩;go_wp2_with fail;refine(zcw _ t _ (y.o.below L.o) (by omega) (by omega) (by omega)).mono ?_;rintro e w4 ⟨va,vd,vr,rfl,C,k⟩;obtain⟨a1,c1,rfl,_,_⟩:=SegC.of_owns C.2.1;obtain⟨a2,c2,rfl,_,_⟩:=SegC.of_owns C.2.2.1;obtain⟨a3,c3,rfl,_,_⟩:=SegI.of_owns C.2.2.2;have D:=zaa C;have B0:=C.lt;have A2:=zaa (zae L.o k);have A0:=zaa (zad k A5 u.o);clear x0 x1 x2 x3 x4 x5 x6 x7 x8 x9 h Q Y S X O Z R U b m k C L;obtain⟨⟨h,Q,Y,S,X,O,Z,R,U,b⟩,m⟩:=zaj A0.o;obtain⟨⟨z0,z1,z2,z3,z4,z5,z6,z7,z8,z9⟩,gf⟩:=zaj D.o.1;have HX:Hid (BoxTx ((w4.setCell ⟨J.heap.size,4,none⟩ (.bool true)).setCell ⟨J.heap.size,5,none⟩ (.int .i64 n)) J.heap.size {t with h0:=⟨true,n⟩} (.slice a1 t.info.length c1) (.slice a2 t.data.length c2) (.slice a3 t.rev.length c3)):=(D.o.set (t':={t with h0:=⟨true,t.h0.left⟩}) 4 (.bool true) rfl D.o.2.1 D.o.2.2.1 D.o.2.2.2).set (t':={t with h0:=⟨true,n⟩}) 5 (.int .i64 n) rfl (ownsRow_setCell_below D.o.2.1 (by simp) _) (ownsRow_setCell_below D.o.2.2.1 (by simp) _) (ownsRow_setCell_below D.o.2.2.2 (by simp) _);go_wp2;refine bodyPost_ret (v:=.tuple #[.agg #[.int .i64 t.seq,.slice a1 t.info.length c1,.slice a2 t.data.length c2,.slice a3 t.rev.length c3,.bool true,.int .i64 n,.bool t.h1.on,.int .i64 t.h1.left,.bool t.h2.on,.int .i64 t.h2.left],.int .i64 0]) (by simp[results,results80,go_sem,h,Q,Y,S,X,O,Z,R,U,b]) rfl ⟨_,by rw[E.o],?_⟩;rw[F.o];refine⟨?_,?_,.inr (HX.o.fromR (t:={t with h0:=⟨true,n⟩}) (by omega))⟩
   ·refine BoxTx.is (t:={t with h0:=⟨true,n⟩}) (B:=J.heap.size) ?_ N1.o N2.o N3.o
    repeat refine BoxTx.other ?_ (by simp;omega) _
    exact HX.o
   ·repeat refine Below.setCell ?_ (by simp;try omega) _
    exact A2.o
theorem zxb(v:Value)(t:Tx)(n free:Int)(w:World)(hT:IsTx w v t)(r1:t.info.length*24≤140737488355328)(r2:t.data.length*24≤140737488355328)(hg:za9 t=true)(ho:t.h1.on=true):
  Calls prog 80 #[v,.int .i64 1,.int .i64 n,.int .i64 free] w fun e w'=>∃v2,e=.returned (.tuple #[v2,.int .i64 (zbe t 1 n free)])∧IsTx w' v2 (zav t 1 n free)∧Below w.heap.size w w'∧(v2=v∨za2 w.heap.size v2 (zav t 1 n free)):=by
 have O:=zaa ho;clear ho;have K:=zaa hT;obtain⟨a,c,j,Y,r,d,rfl,N,i,h,J,C,I⟩:=hT;have N1:=zaa J;have N2:=zaa C;have N3:=zaa I;clear N i h J C I;go_enter func80,ntmps80;go_wp2_with fail;refine(zb8 _ t _ (K.o.below (zae (zab _ _) (zab _ _))) r1 r2).mono ?_;rintro e E ⟨rfl,A⟩;have A1:w.heap.size+1<E.heap.size:=by have:=A.size;simp at this;omega
 have A0:w.heap.size<E.heap.size:=by omega
 have L:=zaa (zhm A);have S:=zaa (zh4 A);obtain⟨⟨x0,x1,x2,x3,x4,x5,x6,x7,x8,x9⟩,_⟩:=zaj L.o;obtain⟨⟨m,l,X,Q,U,b,Z,M,R,k⟩,ff⟩:=zaj S.o;have B:=zaa (zae (zae (zab _ _) (zab _ _)) A);clear A;have ho:=O.o;have D:Hid (zbe t 1 n free=5):=by rw[Hid,zbe,if_neg (by rw[hg];simp),if_neg (by omega),show zeu t 1=t.h1 from rfl,if_pos ho]
 have F:Hid (zav t 1 n free=t):=by rw[Hid,zav,D.o];rfl
 have hw:zao 1 0 2=true:=rfl;go_wp2_with (go_at_call 117;refine(zbn _ _).mono ?_;rintro e w' ⟨rfl,rfl⟩);refine bodyPost_ret (v:=.tuple #[.agg #[.int .i64 t.seq,.slice a t.info.length c,.slice j t.data.length Y,.slice r t.rev.length d,.bool t.h0.on,.int .i64 t.h0.left,.bool t.h1.on,.int .i64 t.h1.left,.bool t.h2.on,.int .i64 t.h2.left],.int .i64 5]) (by simp[results,results80,go_sem,m,l,X,Q,U,b,Z,M,R,k,ho]) rfl ⟨_,by rw[D.o],?_⟩;refine⟨?_,?_,.inl rfl⟩
 ·rw[F.o];refine K.o.below ?_
  repeat refine Below.setCell ?_ (by simp) _
  exact B.o
 ·repeat refine Below.setCell ?_ (by simp) _
  exact B.o
theorem zto(v:Value)(t:Tx)(n free:Int)(w:World)(hT:IsTx w v t)(r1:t.info.length*24≤140737488355328)(r2:t.data.length*24≤140737488355328)(hg:za9 t=true)(ho:t.h1.on=false):
  Calls prog 80 #[v,.int .i64 1,.int .i64 n,.int .i64 free] w fun e w'=>∃v2,e=.returned (.tuple #[v2,.int .i64 (zbe t 1 n free)])∧IsTx w' v2 (zav t 1 n free)∧Below w.heap.size w w'∧(v2=v∨za2 w.heap.size v2 (zav t 1 n free)):=by
 have A3:=za3 hg;have i:=zc6 hg;have HO:=zaa ho;clear ho;have s:=zaa hT;obtain⟨a,c,a',c',r,d,rfl,hM,hD,hR,n1,n2,n3⟩:=hT;have N1:=zaa n1;have N2:=zaa n2;have N3:=zaa n3;clear hM hD hR n1 n2 n3;go_enter func80,ntmps80;go_wp2_with fail;refine(zb8 _ t _ (s.o.below (zae (zab _ _) (zab _ _))) r1 r2).mono ?_;rintro e w1 ⟨rfl,N⟩;have A8:w.heap.size+1<w1.heap.size:=by have:=N.size;simp at this;omega
 have A1:w.heap.size<w1.heap.size:=by omega
 have K1:=zaa (zhm N);have z:=zaa (zh4 N);obtain⟨⟨x0,x1,x2,x3,x4,x5,x6,x7,x8,x9⟩,_⟩:=zaj K1.o;obtain⟨⟨h,Q,Y,S,X,O,Z,R,U,b⟩,m⟩:=zaj z.o;have I:=zaa (zae (zae (zab _ _) (zab _ _)) N);clear N;have ho:=HO.o;have p:¬za9 t=false:=by rw[hg];simp
 have l:¬(zeu t 1).on=true:=by rw[show zeu t 1=t.h1 from rfl,ho];simp
 have y:Hid (IsTx w (.agg #[.int .i64 t.seq,.slice a t.info.length c,.slice a' t.data.length c',.slice r t.rev.length d,.bool t.h0.on,.int .i64 t.h0.left,.bool false,.int .i64 t.h1.left,.bool t.h2.on,.int .i64 t.h2.left]) t):=by have:=s.o;rw[ho]at this;exact this
 have hw:zao 1 0 2=true:=rfl
 cases hq:zao n 0 12 with
 |false=>
  have x:n<0∨12<n:=by
   by_cases e:0≤n∧n≤12
   ·rw[zbh.2 e]at hq;cases hq
   ·omega
  have E:Hid (zbe t 1 n free=2):=by rw[Hid,zbe,if_neg p,if_neg (by omega),if_neg l,if_pos x]
  have F:Hid (zav t 1 n free=t):=by rw[Hid,zav,E.o];rfl
  clear p l x i A3;go_wp2_with (first|(go_at_call 117;refine(zbn _ _).mono ?_;rintro e w' ⟨rfl,rfl⟩)|(go_at_call 59;refine(zaz _ _ _ _).mono ?_;rintro e w' ⟨rfl,rfl⟩));refine bodyPost_ret (v:=.tuple #[.agg #[.int .i64 t.seq,.slice a t.info.length c,.slice a' t.data.length c',.slice r t.rev.length d,.bool t.h0.on,.int .i64 t.h0.left,.bool t.h1.on,.int .i64 t.h1.left,.bool t.h2.on,.int .i64 t.h2.left],.int .i64 2]) (by simp[results,results80,go_sem,h,Q,Y,S,X,O,Z,R,U,b,ho]) rfl ⟨_,by rw[E.o],?_⟩;refine⟨?_,?_,.inl rfl⟩
  ·rw[F.o];refine s.o.below ?_
   repeat refine Below.setCell ?_ (by simp) _
   exact I.o
  ·repeat refine Below.setCell ?_ (by simp) _
   exact I.o
 |true=>
  have B1:=zbh.1 hq;have NN:¬(n<0∨12<n):=by omega
  go_wp2_with (first|(go_at_call 117;refine(zbn _ _).mono ?_;rintro e w' ⟨rfl,rfl⟩)|(go_at_call 59;refine(zaz _ _ _ _).mono ?_;rintro e w' ⟨rfl,rfl⟩));refine(zj2 _ t _ (y.o.below I.o)).mono ?_;rintro e J ⟨rfl,K⟩;have A5:w.heap.size+1<J.heap.size:=by have:=K.size;omega
  have A9:w.heap.size<J.heap.size:=by omega
  have A4:=zaa (zad K A1 K1.o);have u:=zaa (zad K A8 z.o);have L:=zaa (zae I.o K);clear x0 x1 x2 x3 x4 x5 x6 x7 x8 x9 h Q Y S X O Z R U b m K K1 z I;obtain⟨⟨x0,x1,x2,x3,x4,x5,x6,x7,x8,x9⟩,_⟩:=zaj A4.o;obtain⟨⟨h,Q,Y,S,X,O,Z,R,U,b⟩,m⟩:=zaj u.o;have A7:=i.2.1;have A6:=i.2.2;have M:Hid (zbe t 1 n free=if 24<zb2 t+n∨free<ze5 (zb2 t+n) then 6 else 0):=by rw[Hid,zbe,if_neg p,if_neg (by omega),if_neg l,if_neg NN]
  obtain⟨q,j⟩:∃q,q=zb2 t:=⟨_,rfl⟩;rw[←j]at M A7 A6;rw[←j];clear i p l NN j hq
  cases hrm:(decide (q+n≤24)&&decide (ze5 (q+n)≤free)) with
  |false=>
   have E:Hid (zbe t 1 n free=6):=by
    rw[Hid,M.o,if_pos];by_cases e:q+n≤24
    ·rw[show decide (q+n≤24)=true from by simpa using e,Bool.true_and]at hrm;simp at hrm;omega
    ·omega
   have F:Hid (zav t 1 n free=t):=by rw[Hid,zav,E.o];rfl
   have A:=zhz (q+n) free J;rw[hrm]at A;clear hrm M;go_wp2_with fail;refine A.mono ?_;rintro e w3 ⟨rfl,rfl⟩;go_wp2;refine bodyPost_ret (v:=.tuple #[.agg #[.int .i64 t.seq,.slice a t.info.length c,.slice a' t.data.length c',.slice r t.rev.length d,.bool t.h0.on,.int .i64 t.h0.left,.bool t.h1.on,.int .i64 t.h1.left,.bool t.h2.on,.int .i64 t.h2.left],.int .i64 6]) (by simp[results,results80,go_sem,h,Q,Y,S,X,O,Z,R,U,b,ho]) rfl ⟨_,by rw[E.o],?_⟩;refine⟨?_,?_,.inl rfl⟩
   ·rw[F.o];refine s.o.below ?_
    repeat refine Below.setCell ?_ (by simp) _
    exact L.o
   ·repeat refine Below.setCell ?_ (by simp) _
    exact L.o
  |true=>
   have E:Hid (zbe t 1 n free=0):=by
    rw[Hid,M.o,if_neg];simp at hrm;omega
   have F:Hid (zav t 1 n free={t with h1:=⟨true,n⟩}):=by rw[Hid,zav,E.o];rfl
   have A:=zhz (q+n) free J;rw[hrm]at A;clear hrm M;go_wp2_with fail;refine A.mono ?_;rintro e w3 ⟨rfl,rfl⟩;go_wp2_with fail;refine(zcw _ t _ (y.o.below L.o) (by omega) (by omega) (by omega)).mono ?_;rintro e w4 ⟨va,vd,vr,rfl,C,k⟩;obtain⟨a1,c1,rfl,_,_⟩:=SegC.of_owns C.2.1;obtain⟨a2,c2,rfl,_,_⟩:=SegC.of_owns C.2.2.1;obtain⟨a3,c3,rfl,_,_⟩:=SegI.of_owns C.2.2.2;have D:=zaa C;have B0:=C.lt;have A2:=zaa (zae L.o k);have A0:=zaa (zad k A5 u.o);clear x0 x1 x2 x3 x4 x5 x6 x7 x8 x9 h Q Y S X O Z R U b m k C L;obtain⟨⟨h,Q,Y,S,X,O,Z,R,U,b⟩,m⟩:=zaj A0.o;obtain⟨⟨z0,z1,z2,z3,z4,z5,z6,z7,z8,z9⟩,gf⟩:=zaj D.o.1;have HX:Hid (BoxTx ((w4.setCell ⟨J.heap.size,6,none⟩ (.bool true)).setCell ⟨J.heap.size,7,none⟩ (.int .i64 n)) J.heap.size {t with h1:=⟨true,n⟩} (.slice a1 t.info.length c1) (.slice a2 t.data.length c2) (.slice a3 t.rev.length c3)):=(D.o.set (t':={t with h1:=⟨true,t.h1.left⟩}) 6 (.bool true) rfl D.o.2.1 D.o.2.2.1 D.o.2.2.2).set (t':={t with h1:=⟨true,n⟩}) 7 (.int .i64 n) rfl (ownsRow_setCell_below D.o.2.1 (by simp) _) (ownsRow_setCell_below D.o.2.2.1 (by simp) _) (ownsRow_setCell_below D.o.2.2.2 (by simp) _);go_wp2;refine bodyPost_ret (v:=.tuple #[.agg #[.int .i64 t.seq,.slice a1 t.info.length c1,.slice a2 t.data.length c2,.slice a3 t.rev.length c3,.bool t.h0.on,.int .i64 t.h0.left,.bool true,.int .i64 n,.bool t.h2.on,.int .i64 t.h2.left],.int .i64 0]) (by simp[results,results80,go_sem,h,Q,Y,S,X,O,Z,R,U,b]) rfl ⟨_,by rw[E.o],?_⟩;rw[F.o];refine⟨?_,?_,.inr (HX.o.fromR (t:={t with h1:=⟨true,n⟩}) (by omega))⟩
   ·refine BoxTx.is (t:={t with h1:=⟨true,n⟩}) (B:=J.heap.size) ?_ N1.o N2.o N3.o
    repeat refine BoxTx.other ?_ (by simp;omega) _
    exact HX.o
   ·repeat refine Below.setCell ?_ (by simp;try omega) _
    exact A2.o
theorem zxc(v:Value)(t:Tx)(n free:Int)(w:World)(hT:IsTx w v t)(r1:t.info.length*24≤140737488355328)(r2:t.data.length*24≤140737488355328)(hg:za9 t=true)(ho:t.h2.on=true):
  Calls prog 80 #[v,.int .i64 2,.int .i64 n,.int .i64 free] w fun e w'=>∃v2,e=.returned (.tuple #[v2,.int .i64 (zbe t 2 n free)])∧IsTx w' v2 (zav t 2 n free)∧Below w.heap.size w w'∧(v2=v∨za2 w.heap.size v2 (zav t 2 n free)):=by
 have O:=zaa ho;clear ho;have K:=zaa hT;obtain⟨a,c,j,Y,r,d,rfl,N,i,h,J,C,I⟩:=hT;have N1:=zaa J;have N2:=zaa C;have N3:=zaa I;clear N i h J C I;go_enter func80,ntmps80;go_wp2_with fail;refine(zb8 _ t _ (K.o.below (zae (zab _ _) (zab _ _))) r1 r2).mono ?_;rintro e E ⟨rfl,A⟩;have A1:w.heap.size+1<E.heap.size:=by have:=A.size;simp at this;omega
 have A0:w.heap.size<E.heap.size:=by omega
 have L:=zaa (zhm A);have S:=zaa (zh4 A);obtain⟨⟨x0,x1,x2,x3,x4,x5,x6,x7,x8,x9⟩,_⟩:=zaj L.o;obtain⟨⟨m,l,X,Q,U,b,Z,M,R,k⟩,ff⟩:=zaj S.o;have B:=zaa (zae (zae (zab _ _) (zab _ _)) A);clear A;have ho:=O.o;have D:Hid (zbe t 2 n free=5):=by rw[Hid,zbe,if_neg (by rw[hg];simp),if_neg (by omega),show zeu t 2=t.h2 from rfl,if_pos ho]
 have F:Hid (zav t 2 n free=t):=by rw[Hid,zav,D.o];rfl
 have hw:zao 2 0 2=true:=rfl;go_wp2_with (go_at_call 117;refine(zbn _ _).mono ?_;rintro e w' ⟨rfl,rfl⟩);refine bodyPost_ret (v:=.tuple #[.agg #[.int .i64 t.seq,.slice a t.info.length c,.slice j t.data.length Y,.slice r t.rev.length d,.bool t.h0.on,.int .i64 t.h0.left,.bool t.h1.on,.int .i64 t.h1.left,.bool t.h2.on,.int .i64 t.h2.left],.int .i64 5]) (by simp[results,results80,go_sem,m,l,X,Q,U,b,Z,M,R,k,ho]) rfl ⟨_,by rw[D.o],?_⟩;refine⟨?_,?_,.inl rfl⟩
 ·rw[F.o];refine K.o.below ?_
  repeat refine Below.setCell ?_ (by simp) _
  exact B.o
 ·repeat refine Below.setCell ?_ (by simp) _
  exact B.o
theorem ztp(v:Value)(t:Tx)(n free:Int)(w:World)(hT:IsTx w v t)(r1:t.info.length*24≤140737488355328)(r2:t.data.length*24≤140737488355328)(hg:za9 t=true)(ho:t.h2.on=false):
  Calls prog 80 #[v,.int .i64 2,.int .i64 n,.int .i64 free] w fun e w'=>∃v2,e=.returned (.tuple #[v2,.int .i64 (zbe t 2 n free)])∧IsTx w' v2 (zav t 2 n free)∧Below w.heap.size w w'∧(v2=v∨za2 w.heap.size v2 (zav t 2 n free)):=by
 have A3:=za3 hg;have i:=zc6 hg;have HO:=zaa ho;clear ho;have s:=zaa hT;obtain⟨a,c,a',c',r,d,rfl,hM,hD,hR,n1,n2,n3⟩:=hT;have N1:=zaa n1;have N2:=zaa n2;have N3:=zaa n3;clear hM hD hR n1 n2 n3;go_enter func80,ntmps80;go_wp2_with fail;refine(zb8 _ t _ (s.o.below (zae (zab _ _) (zab _ _))) r1 r2).mono ?_;rintro e w1 ⟨rfl,N⟩;have A8:w.heap.size+1<w1.heap.size:=by have:=N.size;simp at this;omega
 have A1:w.heap.size<w1.heap.size:=by omega
 have K1:=zaa (zhm N);have z:=zaa (zh4 N);obtain⟨⟨x0,x1,x2,x3,x4,x5,x6,x7,x8,x9⟩,_⟩:=zaj K1.o;obtain⟨⟨h,Q,Y,S,X,O,Z,R,U,b⟩,m⟩:=zaj z.o;have I:=zaa (zae (zae (zab _ _) (zab _ _)) N);clear N;have ho:=HO.o;have p:¬za9 t=false:=by rw[hg];simp
 have l:¬(zeu t 2).on=true:=by rw[show zeu t 2=t.h2 from rfl,ho];simp
 have y:Hid (IsTx w (.agg #[.int .i64 t.seq,.slice a t.info.length c,.slice a' t.data.length c',.slice r t.rev.length d,.bool t.h0.on,.int .i64 t.h0.left,.bool t.h1.on,.int .i64 t.h1.left,.bool false,.int .i64 t.h2.left]) t):=by have:=s.o;rw[ho]at this;exact this
 have hw:zao 2 0 2=true:=rfl
 cases hq:zao n 0 12 with
 |false=>
  have x:n<0∨12<n:=by
   by_cases e:0≤n∧n≤12
   ·rw[zbh.2 e]at hq;cases hq
   ·omega
  have E:Hid (zbe t 2 n free=2):=by rw[Hid,zbe,if_neg p,if_neg (by omega),if_neg l,if_pos x]
  have F:Hid (zav t 2 n free=t):=by rw[Hid,zav,E.o];rfl
  clear p l x i A3;go_wp2_with (first|(go_at_call 117;refine(zbn _ _).mono ?_;rintro e w' ⟨rfl,rfl⟩)|(go_at_call 59;refine(zaz _ _ _ _).mono ?_;rintro e w' ⟨rfl,rfl⟩));refine bodyPost_ret (v:=.tuple #[.agg #[.int .i64 t.seq,.slice a t.info.length c,.slice a' t.data.length c',.slice r t.rev.length d,.bool t.h0.on,.int .i64 t.h0.left,.bool t.h1.on,.int .i64 t.h1.left,.bool t.h2.on,.int .i64 t.h2.left],.int .i64 2]) (by simp[results,results80,go_sem,h,Q,Y,S,X,O,Z,R,U,b,ho]) rfl ⟨_,by rw[E.o],?_⟩;refine⟨?_,?_,.inl rfl⟩
  ·rw[F.o];refine s.o.below ?_
   repeat refine Below.setCell ?_ (by simp) _
   exact I.o
  ·repeat refine Below.setCell ?_ (by simp) _
   exact I.o
 |true=>
  have B1:=zbh.1 hq;have NN:¬(n<0∨12<n):=by omega
  go_wp2_with (first|(go_at_call 117;refine(zbn _ _).mono ?_;rintro e w' ⟨rfl,rfl⟩)|(go_at_call 59;refine(zaz _ _ _ _).mono ?_;rintro e w' ⟨rfl,rfl⟩));refine(zj2 _ t _ (y.o.below I.o)).mono ?_;rintro e J ⟨rfl,K⟩;have A5:w.heap.size+1<J.heap.size:=by have:=K.size;omega
  have A9:w.heap.size<J.heap.size:=by omega
  have A4:=zaa (zad K A1 K1.o);have u:=zaa (zad K A8 z.o);have L:=zaa (zae I.o K);clear x0 x1 x2 x3 x4 x5 x6 x7 x8 x9 h Q Y S X O Z R U b m K K1 z I;obtain⟨⟨x0,x1,x2,x3,x4,x5,x6,x7,x8,x9⟩,_⟩:=zaj A4.o;obtain⟨⟨h,Q,Y,S,X,O,Z,R,U,b⟩,m⟩:=zaj u.o;have A7:=i.2.1;have A6:=i.2.2;have M:Hid (zbe t 2 n free=if 24<zb2 t+n∨free<ze5 (zb2 t+n) then 6 else 0):=by rw[Hid,zbe,if_neg p,if_neg (by omega),if_neg l,if_neg NN]
  obtain⟨q,j⟩:∃q,q=zb2 t:=⟨_,rfl⟩;rw[←j]at M A7 A6;rw[←j];clear i p l NN j hq
  cases hrm:(decide (q+n≤24)&&decide (ze5 (q+n)≤free)) with
  |false=>
   have E:Hid (zbe t 2 n free=6):=by
    rw[Hid,M.o,if_pos];by_cases e:q+n≤24
    ·rw[show decide (q+n≤24)=true from by simpa using e,Bool.true_and]at hrm;simp at hrm;omega
    ·omega
   have F:Hid (zav t 2 n free=t):=by rw[Hid,zav,E.o];rfl
   have A:=zhz (q+n) free J;rw[hrm]at A;clear hrm M;go_wp2_with fail;refine A.mono ?_;rintro e w3 ⟨rfl,rfl⟩;go_wp2;refine bodyPost_ret (v:=.tuple #[.agg #[.int .i64 t.seq,.slice a t.info.length c,.slice a' t.data.length c',.slice r t.rev.length d,.bool t.h0.on,.int .i64 t.h0.left,.bool t.h1.on,.int .i64 t.h1.left,.bool t.h2.on,.int .i64 t.h2.left],.int .i64 6]) (by simp[results,results80,go_sem,h,Q,Y,S,X,O,Z,R,U,b,ho]) rfl ⟨_,by rw[E.o],?_⟩;refine⟨?_,?_,.inl rfl⟩
   ·rw[F.o];refine s.o.below ?_
    repeat refine Below.setCell ?_ (by simp) _
    exact L.o
   ·repeat refine Below.setCell ?_ (by simp) _
    exact L.o
  |true=>
   have E:Hid (zbe t 2 n free=0):=by
    rw[Hid,M.o,if_neg];simp at hrm;omega
   have F:Hid (zav t 2 n free={t with h2:=⟨true,n⟩}):=by rw[Hid,zav,E.o];rfl
   have A:=zhz (q+n) free J;rw[hrm]at A;clear hrm M;go_wp2_with fail;refine A.mono ?_;rintro e w3 ⟨rfl,rfl⟩;go_wp2_with fail;refine(zcw _ t _ (y.o.below L.o) (by omega) (by omega) (by omega)).mono ?_;rintro e w4 ⟨va,vd,vr,rfl,C,k⟩;obtain⟨a1,c1,rfl,_,_⟩:=SegC.of_owns C.2.1;obtain⟨a2,c2,rfl,_,_⟩:=SegC.of_owns C.2.2.1;obtain⟨a3,c3,rfl,_,_⟩:=SegI.of_owns C.2.2.2;have D:=zaa C;have B0:=C.lt;have A2:=zaa (zae L.o k);have A0:=zaa (zad k A5 u.o);clear x0 x1 x2 x3 x4 x5 x6 x7 x8 x9 h Q Y S X O Z R U b m k C L;obtain⟨⟨h,Q,Y,S,X,O,Z,R,U,b⟩,m⟩:=zaj A0.o;obtain⟨⟨z0,z1,z2,z3,z4,z5,z6,z7,z8,z9⟩,gf⟩:=zaj D.o.1;have HX:Hid (BoxTx ((w4.setCell ⟨J.heap.size,8,none⟩ (.bool true)).setCell ⟨J.heap.size,9,none⟩ (.int .i64 n)) J.heap.size {t with h2:=⟨true,n⟩} (.slice a1 t.info.length c1) (.slice a2 t.data.length c2) (.slice a3 t.rev.length c3)):=(D.o.set (t':={t with h2:=⟨true,t.h2.left⟩}) 8 (.bool true) rfl D.o.2.1 D.o.2.2.1 D.o.2.2.2).set (t':={t with h2:=⟨true,n⟩}) 9 (.int .i64 n) rfl (ownsRow_setCell_below D.o.2.1 (by simp) _) (ownsRow_setCell_below D.o.2.2.1 (by simp) _) (ownsRow_setCell_below D.o.2.2.2 (by simp) _);go_wp2;refine bodyPost_ret (v:=.tuple #[.agg #[.int .i64 t.seq,.slice a1 t.info.length c1,.slice a2 t.data.length c2,.slice a3 t.rev.length c3,.bool t.h0.on,.int .i64 t.h0.left,.bool t.h1.on,.int .i64 t.h1.left,.bool true,.int .i64 n],.int .i64 0]) (by simp[results,results80,go_sem,h,Q,Y,S,X,O,Z,R,U,b]) rfl ⟨_,by rw[E.o],?_⟩;rw[F.o];refine⟨?_,?_,.inr (HX.o.fromR (t:={t with h2:=⟨true,n⟩}) (by omega))⟩
   ·refine BoxTx.is (t:={t with h2:=⟨true,n⟩}) (B:=J.heap.size) ?_ N1.o N2.o N3.o
    repeat refine BoxTx.other ?_ (by simp;omega) _
    exact HX.o
   ·repeat refine Below.setCell ?_ (by simp;try omega) _
    exact A2.o
theorem ztq(v:Value)(t:Tx)(h n free:Int)(w:World)(hT:IsTx w v t)(r1:t.info.length*24≤140737488355328)(r2:t.data.length*24≤140737488355328):
  Calls prog 80 #[v,.int .i64 h,.int .i64 n,.int .i64 free] w fun e w'=>∃v2,e=.returned (.tuple #[v2,.int .i64 (zbe t h n free)])∧IsTx w' v2 (zav t h n free)∧Below w.heap.size w w'∧(v2=v∨za2 w.heap.size v2 (zav t h n free)):=by
 cases hg:za9 t with
 |false=>exact zw9 v t h n free w hT r1 r2 hg
 |true=>
  cases hw:zao h 0 2 with
  |false=>exact ztm v t h n free w hT r1 r2 hg hw
  |true=>
   have hr:=zbh.1 hw;have A:h=0∨h=1∨h=2:=by omega
   rcases A with rfl|rfl|rfl
   ·cases ho:t.h0.on with
    |true=>exact zxa v t n free w hT r1 r2 hg ho
    |false=>exact ztn v t n free w hT r1 r2 hg ho
   ·cases ho:t.h1.on with
    |true=>exact zxb v t n free w hT r1 r2 hg ho
    |false=>exact zto v t n free w hT r1 r2 hg ho
   ·cases ho:t.h2.on with
    |true=>exact zxc v t n free w hT r1 r2 hg ho
    |false=>exact ztp v t n free w hT r1 r2 hg ho
def zin (t:Tx)(h b:Int):Tx:=if nameE t h b=0 then nameT t h b else t
theorem z54(B:Nat)(t:Tx)(va vd vr:Value)(b:Int)(w:World)(hbx:BoxTx w B t va vd vr)(r1:t.info.length≤1000)(r2:t.data.length≤1000)(r3:t.rev.length≤1000)(hl:0≤t.h0.left∧t.h0.left≤24):
  Calls prog 154 #[.pointer (some ⟨B,0,none⟩),.int .i64 0,.int .i64 b] w fun e w'=>e=.returned (.int .i64 (nameE t 0 b))∧BoxTx w' B (zin t 0 b) va vd vr∧Below B w w':=by
 have Z:=zaa (hbx.is (by unfold maxLen;omega) (by unfold maxLen;omega) (by unfold maxLen;omega));obtain⟨a1,c1,rfl,_,_⟩:=SegC.of_owns hbx.2.1;obtain⟨a2,c2,rfl,_,_⟩:=SegC.of_owns hbx.2.2.1;obtain⟨a3,c3,rfl,_,_⟩:=SegI.of_owns hbx.2.2.2;have K:=zaa hbx;have A0:=hbx.lt;clear hbx r1 r2 r3;obtain⟨⟨M,O,S,X,I,J,N,R,U,L⟩,Q⟩:=zaj K.o.1;go_enter func154,ntmps154;go_wp2_with fail;refine(zg3 _ t b _ Z.o).mono ?_;rintro e Y ⟨rfl,E⟩;have A:=zaa (K.o.below E);have D:Hid (Below B w Y):=E.mono (by omega);clear M O S X I J N R U L Q E;obtain⟨⟨M,O,S,X,I,J,N,R,U,L⟩,Q⟩:=zaj A.o.1
 cases hn:zcq t b with
 |true=>
  have C:Hid (nameE t 0 b=0):=by rw[Hid,nameE,if_pos hn]
  have F:Hid (nameT t 0 b=t):=by rw[Hid,nameT,if_pos hn]
  go_wp2;go_ret;exact⟨by rw[C.o];rfl,by rw[zin,if_pos C.o,F.o];exact A.o,D.o⟩
 |false=>
  by_cases h0:t.h0.left=0
  ·have C:Hid (nameE t 0 b=7):=by rw[Hid,nameE,if_neg (by rw[hn];simp),if_pos (show(zeu t 0).left=0 from h0)]
   have H0:=zaa h0;clear hn;go_wp2;go_ret;exact⟨by rw[C.o];rfl,by rw[zin,if_neg (by rw[C.o];decide)];exact A.o,D.o⟩
  ·have C:Hid (nameE t 0 b=0):=by rw[Hid,nameE,if_neg (by rw[hn];simp),if_neg (show¬(zeu t 0).left=0 from h0)]
   have F:Hid (nameT t 0 b={t with h0:=⟨t.h0.on,t.h0.left - 1⟩}):=by rw[Hid,nameT,if_neg (by rw[hn];simp)];rfl
   go_wp2;go_ret;refine⟨by rw[C.o];rfl,?_,D.o.setCell (by simp) _⟩;rw[zin,if_pos C.o,F.o];exact A.o.set (t':={t with h0:=⟨t.h0.on,t.h0.left - 1⟩}) 5 (.int .i64 (t.h0.left - 1)) rfl A.o.2.1 A.o.2.2.1 A.o.2.2.2
theorem z55(B:Nat)(t:Tx)(va vd vr:Value)(b:Int)(w:World)(hbx:BoxTx w B t va vd vr)(r1:t.info.length≤1000)(r2:t.data.length≤1000)(r3:t.rev.length≤1000)(hl:0≤t.h1.left∧t.h1.left≤24):
  Calls prog 154 #[.pointer (some ⟨B,0,none⟩),.int .i64 1,.int .i64 b] w fun e w'=>e=.returned (.int .i64 (nameE t 1 b))∧BoxTx w' B (zin t 1 b) va vd vr∧Below B w w':=by
 have Z:=zaa (hbx.is (by unfold maxLen;omega) (by unfold maxLen;omega) (by unfold maxLen;omega));obtain⟨a1,c1,rfl,_,_⟩:=SegC.of_owns hbx.2.1;obtain⟨a2,c2,rfl,_,_⟩:=SegC.of_owns hbx.2.2.1;obtain⟨a3,c3,rfl,_,_⟩:=SegI.of_owns hbx.2.2.2;have K:=zaa hbx;have A0:=hbx.lt;clear hbx r1 r2 r3;obtain⟨⟨M,O,S,X,I,J,N,R,U,L⟩,Q⟩:=zaj K.o.1;go_enter func154,ntmps154;go_wp2_with fail;refine(zg3 _ t b _ Z.o).mono ?_;rintro e Y ⟨rfl,E⟩;have A:=zaa (K.o.below E);have D:Hid (Below B w Y):=E.mono (by omega);clear M O S X I J N R U L Q E;obtain⟨⟨M,O,S,X,I,J,N,R,U,L⟩,Q⟩:=zaj A.o.1
 cases hn:zcq t b with
 |true=>
  have C:Hid (nameE t 1 b=0):=by rw[Hid,nameE,if_pos hn]
  have F:Hid (nameT t 1 b=t):=by rw[Hid,nameT,if_pos hn]
  go_wp2;go_ret;exact⟨by rw[C.o];rfl,by rw[zin,if_pos C.o,F.o];exact A.o,D.o⟩
 |false=>
  by_cases h0:t.h1.left=0
  ·have C:Hid (nameE t 1 b=7):=by rw[Hid,nameE,if_neg (by rw[hn];simp),if_pos (show(zeu t 1).left=0 from h0)]
   have H0:=zaa h0;clear hn;go_wp2;go_ret;exact⟨by rw[C.o];rfl,by rw[zin,if_neg (by rw[C.o];decide)];exact A.o,D.o⟩
  ·have C:Hid (nameE t 1 b=0):=by rw[Hid,nameE,if_neg (by rw[hn];simp),if_neg (show¬(zeu t 1).left=0 from h0)]
   have F:Hid (nameT t 1 b={t with h1:=⟨t.h1.on,t.h1.left - 1⟩}):=by rw[Hid,nameT,if_neg (by rw[hn];simp)];rfl
   go_wp2;go_ret;refine⟨by rw[C.o];rfl,?_,D.o.setCell (by simp) _⟩;rw[zin,if_pos C.o,F.o];exact A.o.set (t':={t with h1:=⟨t.h1.on,t.h1.left - 1⟩}) 7 (.int .i64 (t.h1.left - 1)) rfl A.o.2.1 A.o.2.2.1 A.o.2.2.2
theorem z56(B:Nat)(t:Tx)(va vd vr:Value)(b:Int)(w:World)(hbx:BoxTx w B t va vd vr)(r1:t.info.length≤1000)(r2:t.data.length≤1000)(r3:t.rev.length≤1000)(hl:0≤t.h2.left∧t.h2.left≤24):
  Calls prog 154 #[.pointer (some ⟨B,0,none⟩),.int .i64 2,.int .i64 b] w fun e w'=>e=.returned (.int .i64 (nameE t 2 b))∧BoxTx w' B (zin t 2 b) va vd vr∧Below B w w':=by
 have Z:=zaa (hbx.is (by unfold maxLen;omega) (by unfold maxLen;omega) (by unfold maxLen;omega));obtain⟨a1,c1,rfl,_,_⟩:=SegC.of_owns hbx.2.1;obtain⟨a2,c2,rfl,_,_⟩:=SegC.of_owns hbx.2.2.1;obtain⟨a3,c3,rfl,_,_⟩:=SegI.of_owns hbx.2.2.2;have K:=zaa hbx;have A0:=hbx.lt;clear hbx r1 r2 r3;obtain⟨⟨M,O,S,X,I,J,N,R,U,L⟩,Q⟩:=zaj K.o.1;go_enter func154,ntmps154;go_wp2_with fail;refine(zg3 _ t b _ Z.o).mono ?_;rintro e Y ⟨rfl,E⟩;have A:=zaa (K.o.below E);have D:Hid (Below B w Y):=E.mono (by omega);clear M O S X I J N R U L Q E;obtain⟨⟨M,O,S,X,I,J,N,R,U,L⟩,Q⟩:=zaj A.o.1
 cases hn:zcq t b with
 |true=>
  have C:Hid (nameE t 2 b=0):=by rw[Hid,nameE,if_pos hn]
  have F:Hid (nameT t 2 b=t):=by rw[Hid,nameT,if_pos hn]
  go_wp2;go_ret;exact⟨by rw[C.o];rfl,by rw[zin,if_pos C.o,F.o];exact A.o,D.o⟩
 |false=>
  by_cases h0:t.h2.left=0
  ·have C:Hid (nameE t 2 b=7):=by rw[Hid,nameE,if_neg (by rw[hn];simp),if_pos (show(zeu t 2).left=0 from h0)]
   have H0:=zaa h0;clear hn;go_wp2;go_ret;exact⟨by rw[C.o];rfl,by rw[zin,if_neg (by rw[C.o];decide)];exact A.o,D.o⟩
  ·have C:Hid (nameE t 2 b=0):=by rw[Hid,nameE,if_neg (by rw[hn];simp),if_neg (show¬(zeu t 2).left=0 from h0)]
   have F:Hid (nameT t 2 b={t with h2:=⟨t.h2.on,t.h2.left - 1⟩}):=by rw[Hid,nameT,if_neg (by rw[hn];simp)];rfl
   go_wp2;go_ret;refine⟨by rw[C.o];rfl,?_,D.o.setCell (by simp) _⟩;rw[zin,if_pos C.o,F.o];exact A.o.set (t':={t with h2:=⟨t.h2.on,t.h2.left - 1⟩}) 9 (.int .i64 (t.h2.left - 1)) rfl A.o.2.1 A.o.2.2.1 A.o.2.2.2
theorem zlg(B:Nat)(t:Tx)(va vd vr:Value)(h b:Int)(w:World)(hbx:BoxTx w B t va vd vr)(hg:za9 t=true)(hh:h=0∨h=1∨h=2):
  Calls prog 154 #[.pointer (some ⟨B,0,none⟩),.int .i64 h,.int .i64 b] w fun e w'=>e=.returned (.int .i64 (nameE t h b))∧BoxTx w' B (zin t h b) va vd vr∧Below B w w':=by
 have hs:=za3 hg;rcases hh with rfl|rfl|rfl
 ·have:=(zet _).1 (zl7 hg 0);exact z54 B t va vd vr b w hbx (by omega) (by omega) (by omega) ⟨this.1,this.2.1⟩
 ·have:=(zet _).1 (zl7 hg 1);exact z55 B t va vd vr b w hbx (by omega) (by omega) (by omega) ⟨this.1,this.2.1⟩
 ·have:=(zet _).1 (zl7 hg 2);exact z56 B t va vd vr b w hbx (by omega) (by omega) (by omega) ⟨this.1,this.2.1⟩
theorem zj6{α:Type}(key:α→Int)(l:List α)(b:Int)(x:α):(zbj key l b x).length≤2*l.length+1:=by
 have h1:=List.length_filter_le (fun y=>decide (key y<b)) l;have h2:=List.length_filter_le (fun y=>decide (b<key y)) l;simp[zbj];omega
theorem ziq{α:Type}(key:α→Int)(l:List α)(b:Int):(zax key l b).length≤2*l.length:=by
 have h1:=List.length_filter_le (fun y=>decide (key y<b)) l;have h2:=List.length_filter_le (fun y=>decide (b<key y)) l;simp[zax];omega
theorem zxd(v:Value)(t:Tx)(h b:Int)(s:ByteArray)(w:World)(hT:IsTx w v t)(r1:t.info.length*24≤140737488355328)(r2:t.data.length*24≤140737488355328)(hr:¬reachE t h b=0):
  Calls prog 121 #[v,.int .i64 h,.int .i64 b,.string s] w fun e w'=>∃v2,e=.returned (.tuple #[v2,.int .i64 (changeE t h b s)])∧IsTx w' v2 (zaf t h b s)∧Below w.heap.size w w'∧(v2=v∨za2 w.heap.size v2 (zaf t h b s)):=by
 have L:=zaa hT;obtain⟨a,c,k,Z,r,d,rfl,D,N,M,K,C,J⟩:=hT;have HM:=zaa D;have HD:=zaa N;have HR:=zaa M;have N1:=zaa K;have N2:=zaa C;have N3:=zaa J;clear D N M K C J;go_enter func121,ntmps121;go_wp2_with fail;refine(zci _ t h b _ (L.o.below (zae (zab _ _) (zab _ _))) r1 r2).mono ?_;rintro e F ⟨rfl,A⟩;have A1:w.heap.size+1<F.heap.size:=by have:=A.size;simp at this;omega
 have A0:w.heap.size<F.heap.size:=by omega
 have O:=zaa (zhm A);have U:=zaa (zh4 A);obtain⟨⟨x0,x1,x2,x3,x4,x5,x6,x7,x8,x9⟩,_⟩:=zaj O.o;obtain⟨⟨n,m,Y,R,X,j,i,Q,S,l⟩,ff⟩:=zaj U.o;have B:=zaa (zae (zae (zab _ _) (zab _ _)) A);clear A;have E:Hid (changeE t h b s=reachE t h b):=by rw[Hid,changeE,if_pos hr]
 have I:Hid (zaf t h b s=t):=by rw[Hid,zaf,if_neg (by rw[E.o];exact hr)]
 generalize reachE t h b=z at *;go_wp2;refine bodyPost_ret (v:=.tuple #[.agg #[.int .i64 t.seq,.slice a t.info.length c,.slice k t.data.length Z,.slice r t.rev.length d,.bool t.h0.on,.int .i64 t.h0.left,.bool t.h1.on,.int .i64 t.h1.left,.bool t.h2.on,.int .i64 t.h2.left],.int .i64 z]) (by simp[results,results121,go_sem,n,m,Y,R,X,j,i,Q,S,l]) rfl ⟨_,by rw[E.o],?_⟩;refine⟨?_,?_,.inl rfl⟩
 ·rw[I.o];refine L.o.below ?_
  repeat refine Below.setCell ?_ (by simp) _
  exact B.o
 ·repeat refine Below.setCell ?_ (by simp) _
  exact B.o
theorem zrm(v:Value)(t:Tx)(h b:Int)(s:ByteArray)(w:World)(hT:IsTx w v t)(r1:t.info.length*24≤140737488355328)(r2:t.data.length*24≤140737488355328)(hr:reachE t h b=0)(hs:zbc s=false):
  Calls prog 121 #[v,.int .i64 h,.int .i64 b,.string s] w fun e w'=>∃v2,e=.returned (.tuple #[v2,.int .i64 (changeE t h b s)])∧IsTx w' v2 (zaf t h b s)∧Below w.heap.size w w'∧(v2=v∨za2 w.heap.size v2 (zaf t h b s)):=by
 have L:=zaa hT;obtain⟨a,c,k,Z,r,d,rfl,D,N,M,K,C,J⟩:=hT;have HM:=zaa D;have HD:=zaa N;have HR:=zaa M;have N1:=zaa K;have N2:=zaa C;have N3:=zaa J;clear D N M K C J;go_enter func121,ntmps121;go_wp2_with fail;refine(zci _ t h b _ (L.o.below (zae (zab _ _) (zab _ _))) r1 r2).mono ?_;rintro e F ⟨rfl,A⟩;have A1:w.heap.size+1<F.heap.size:=by have:=A.size;simp at this;omega
 have A0:w.heap.size<F.heap.size:=by omega
 have O:=zaa (zhm A);have U:=zaa (zh4 A);obtain⟨⟨x0,x1,x2,x3,x4,x5,x6,x7,x8,x9⟩,_⟩:=zaj O.o;obtain⟨⟨n,m,Y,R,X,j,i,Q,S,l⟩,ff⟩:=zaj U.o;have B:=zaa (zae (zae (zab _ _) (zab _ _)) A);clear A;have E:Hid (changeE t h b s=1):=by rw[Hid,changeE,if_neg (by rw[hr];simp),if_pos hs]
 have I:Hid (zaf t h b s=t):=by rw[Hid,zaf,if_neg (by rw[E.o];decide)]
 have hz:¬(s.size:Int)=32:=by simpa[zbc] using hs
 clear hs;go_wp2;refine bodyPost_ret (v:=.tuple #[.agg #[.int .i64 t.seq,.slice a t.info.length c,.slice k t.data.length Z,.slice r t.rev.length d,.bool t.h0.on,.int .i64 t.h0.left,.bool t.h1.on,.int .i64 t.h1.left,.bool t.h2.on,.int .i64 t.h2.left],.int .i64 1]) (by simp[results,results121,go_sem,n,m,Y,R,X,j,i,Q,S,l]) rfl ⟨_,by rw[E.o],?_⟩;refine⟨?_,?_,.inl rfl⟩
 ·rw[I.o];refine L.o.below ?_
  repeat refine Below.setCell ?_ (by simp) _
  exact B.o
 ·repeat refine Below.setCell ?_ (by simp) _
  exact B.o
theorem zrn(v:Value)(t:Tx)(h b:Int)(s:ByteArray)(w:World)(hT:IsTx w v t)(r1:t.info.length*24≤140737488355328)(r2:t.data.length*24≤140737488355328)(hr:reachE t h b=0)(hs:zbc s=true)(hd:(zai b t.data).isSome=true):
  Calls prog 121 #[v,.int .i64 h,.int .i64 b,.string s] w fun e w'=>∃v2,e=.returned (.tuple #[v2,.int .i64 (changeE t h b s)])∧IsTx w' v2 (zaf t h b s)∧Below w.heap.size w w'∧(v2=v∨za2 w.heap.size v2 (zaf t h b s)):=by
 have x:=zaa hT;obtain⟨a,c,a',p,r,d,rfl,Y,hD,hR,u,X,n⟩:=hT;have HM:=zaa Y;have HD:=zaa hD;have HR:=zaa hR;have N1:=zaa u;have N2:=zaa X;have N3:=zaa n;clear Y hD hR u X n;go_enter func121,ntmps121;go_wp2_with fail;refine(zci _ t h b _ (x.o.below (zae (zab _ _) (zab _ _))) r1 r2).mono ?_;rintro e k ⟨rfl,B⟩;have A0:w.heap.size+1<k.heap.size:=by have:=B.size;simp at this;omega
 have N:w.heap.size<k.heap.size:=by omega
 have E:=zaa (zhm B);have K:=zaa (zh4 B);obtain⟨⟨x0,m,x2,i,x4,x5,q,x7,y,z⟩,_⟩:=zaj E.o;obtain⟨⟨U,S,M,I,L,Q,O,F,J,R⟩,ff⟩:=zaj K.o;have C:=zaa (zae (zae (zab _ _) (zab _ _)) B);clear B;have j:Hid (changeE t h b s=8):=by rw[Hid,changeE,if_neg (by rw[hr];simp),if_neg (by rw[hs];simp),if_pos hd]
 have l:Hid (zaf t h b s=t):=by rw[Hid,zaf,if_neg (by rw[j.o];decide)]
 have hz:(s.size:Int)=32:=by simpa[zbc] using hs
 clear hs;go_wp2_with fail;refine(zi9 a' p t.data b _ (HD.o.below C.o) N2.o).mono ?_;rintro e w2 ⟨rfl,A⟩;have A3:w.heap.size+1<w2.heap.size:=by have:=A.size;omega
 have A2:w.heap.size<w2.heap.size:=by omega
 have A1:=zaa (zad A N E.o);have Z:=zaa (zad A A0 K.o);have D:=zaa (zae C.o A);clear x0 m x2 i x4 x5 q x7 y z U S M I L Q O F J R ff A E K C;obtain⟨⟨x0,m,x2,i,x4,x5,q,x7,y,z⟩,_⟩:=zaj A1.o;obtain⟨⟨U,S,M,I,L,Q,O,F,J,R⟩,ff⟩:=zaj Z.o;go_wp2;refine bodyPost_ret (v:=.tuple #[.agg #[.int .i64 t.seq,.slice a t.info.length c,.slice a' t.data.length p,.slice r t.rev.length d,.bool t.h0.on,.int .i64 t.h0.left,.bool t.h1.on,.int .i64 t.h1.left,.bool t.h2.on,.int .i64 t.h2.left],.int .i64 8]) (by simp[results,results121,go_sem,U,S,M,I,L,Q,O,F,J,R]) rfl ⟨_,by rw[j.o],?_⟩;refine⟨?_,?_,.inl rfl⟩
 ·rw[l.o];refine x.o.below ?_
  repeat refine Below.setCell ?_ (by simp) _
  exact D.o
 ·repeat refine Below.setCell ?_ (by simp) _
  exact D.o
theorem zm5(v:Value)(t:Tx)(h b:Int)(s:ByteArray)(w:World)(hT:IsTx w v t)(r1:t.info.length*24≤140737488355328)(r2:t.data.length*24≤140737488355328)(hr:reachE t h b=0)(hs:zbc s=true)(hd:(zai b t.data).isSome=false)(hn:¬nameE t h b=0):
  Calls prog 121 #[v,.int .i64 h,.int .i64 b,.string s] w fun e w'=>∃v2,e=.returned (.tuple #[v2,.int .i64 (changeE t h b s)])∧IsTx w' v2 (zaf t h b s)∧Below w.heap.size w w'∧(v2=v∨za2 w.heap.size v2 (zaf t h b s)):=by
 have J:=zcd hr;have hg:=J.1;have hh:=J.2.1;clear J;have B4:=za3 hg;have HT:=zaa hT;obtain⟨a,c,a',c',r,d,rfl,hM,hD,hR,n1,n2,n3⟩:=hT;have HM:=zaa hM;have HD:=zaa hD;have HR:=zaa hR;have N1:=zaa n1;have N2:=zaa n2;have N3:=zaa n3;clear hM hD hR n1 n2 n3;go_enter func121,ntmps121;go_wp2_with fail;refine(zci _ t h b _ (HT.o.below (zae (zab _ _) (zab _ _))) r1 r2).mono ?_;rintro e w1 ⟨rfl,C⟩;have B1:w.heap.size+1<w1.heap.size:=by have:=C.size;simp at this;omega
 have A4:w.heap.size<w1.heap.size:=by omega
 have K1:=zaa (zhm C);have K2:=zaa (zh4 C);obtain⟨⟨y,j,x2,p,x,u,k,m,q,l⟩,_⟩:=zaj K1.o;obtain⟨⟨i,O,X,R,U,K,Y,Q,S,Z⟩,n⟩:=zaj K2.o;have L:=zaa (zae (zae (zab _ _) (zab _ _)) C);clear C;have HE:Hid (changeE t h b s=nameE t h b):=by rw[Hid,changeE,if_neg (by rw[hr];simp),if_neg (by rw[hs];simp),if_neg (by rw[hd];simp)]
 have A6:Hid (zaf t h b s=t):=by rw[Hid,zaf,if_neg (by rw[HE.o];exact hn)]
 have hz:(s.size:Int)=32:=by simpa[zbc] using hs
 clear hs;go_wp2_with fail;refine(zi9 a' c' t.data b _ (HD.o.below L.o) N2.o).mono ?_;rintro e w2 ⟨rfl,B⟩;have A8:w.heap.size+1<w2.heap.size:=by have:=B.size;omega
 have A5:w.heap.size<w2.heap.size:=by omega
 have M:=zaa (zad B A4 K1.o);have I:=zaa (zad B B1 K2.o);have N:=zaa (zae L.o B);clear y j x2 p x u k m q l i O X R U K Y Q S Z n B K1 K2 L;obtain⟨⟨y,j,x2,p,x,u,k,m,q,l⟩,_⟩:=zaj M.o;obtain⟨⟨i,O,X,R,U,K,Y,Q,S,Z⟩,n⟩:=zaj I.o;go_wp2_with fail;refine(zcw _ t _ (HT.o.below N.o) (by omega) (by omega) (by omega)).mono ?_;rintro e w4 ⟨va,vd,vr,rfl,A,E⟩;obtain⟨a1,c1,rfl,_,_⟩:=SegC.of_owns A.2.1;obtain⟨a2,c2,rfl,_,_⟩:=SegC.of_owns A.2.2.1;obtain⟨a3,c3,rfl,_,_⟩:=SegI.of_owns A.2.2.2;have BX:=zaa A;have B3:=A.lt;have A1:=zaa (zae N.o E);have A0:=zaa (zad E A5 M.o);have A2:=zaa (zad E A8 I.o);clear y j x2 p x u k m q l i O X R U K Y Q S Z n E A N M I;obtain⟨⟨z0,z1,z2,z3,z4,z5,z6,z7,z8,z9⟩,gf⟩:=zaj BX.o.1;go_wp2_with fail;refine(zlg w2.heap.size t _ _ _ h b w4 BX.o hg hh).mono ?_;rintro e w5 ⟨rfl,D,F⟩;have A7:=zaa D;have B2:=D.lt;have A9:=zaa ((F.block w.heap.size (by omega)).trans A0.o);have B0:=zaa ((F.block (w.heap.size+1) (by omega)).trans A2.o);have A3:=zaa (A1.o.trans (F.mono (by omega)));clear z0 z1 z2 z3 z4 z5 z6 z7 z8 z9 gf F D A1 A0 A2 BX;obtain⟨⟨y,j,x2,p,x,u,k,m,q,l⟩,_⟩:=zaj A9.o;obtain⟨⟨i,O,X,R,U,K,Y,Q,S,Z⟩,n⟩:=zaj B0.o;clear A7;generalize nameE t h b=z at *;go_wp2;refine bodyPost_ret (v:=.tuple #[.agg #[.int .i64 t.seq,.slice a t.info.length c,.slice a' t.data.length c',.slice r t.rev.length d,.bool t.h0.on,.int .i64 t.h0.left,.bool t.h1.on,.int .i64 t.h1.left,.bool t.h2.on,.int .i64 t.h2.left],.int .i64 z]) (by simp[results,results121,go_sem,i,O,X,R,U,K,Y,Q,S,Z]) rfl ⟨_,by rw[HE.o],?_⟩;refine⟨?_,?_,.inl rfl⟩
 ·rw[A6.o];refine HT.o.below ?_
  repeat refine Below.setCell ?_ (by simp) _
  exact A3.o
 ·repeat refine Below.setCell ?_ (by simp) _
  exact A3.o
theorem zxe(v:Value)(t:Tx)(h b:Int)(s:ByteArray)(w:World)(hT:IsTx w v t)(r1:t.info.length*24≤140737488355328)(r2:t.data.length*24≤140737488355328)(hr:reachE t h b=0)(hs:zbc s=true)(hd:(zai b t.data).isSome=false)(hn:nameE t h b=0):
  Calls prog 121 #[v,.int .i64 h,.int .i64 b,.string s] w fun e w'=>∃v2,e=.returned (.tuple #[v2,.int .i64 (changeE t h b s)])∧IsTx w' v2 (zaf t h b s)∧Below w.heap.size w w'∧(v2=v∨za2 w.heap.size v2 (zaf t h b s)):=by
 have A1:=zcd hr;have hg:=A1.1;have hh:=A1.2.1;clear A1;have l:=(za7 t).1 hg;have C8:Up (·.1) t.info:=(zfm _ _).1 ((za6 _).1 l.2.2.1.1).2;have D8:Up (·.1) t.data:=(zfm _ _).1 ((za6 _).1 l.2.2.1.2.1).2;have C9:Up id t.rev:=((za6 _).1 l.2.2.1.2.2).2;have D7:=za3 hg;clear l;have HT:=zaa hT;obtain⟨a,c,a',c',r,d,rfl,hM,hD,hR,n1,n2,n3⟩:=hT;have HM:=zaa hM;have HD:=zaa hD;have HR:=zaa hR;have N1:=zaa n1;have N2:=zaa n2;have N3:=zaa n3;clear hM hD hR n1 n2 n3;go_enter func121,ntmps121;go_wp2_with fail;refine(zci _ t h b _ (HT.o.below (zae (zab _ _) (zab _ _))) r1 r2).mono ?_;rintro e w1 ⟨rfl,i⟩;have D2:w.heap.size+1<w1.heap.size:=by have:=i.size;simp at this;omega
 have C1:w.heap.size<w1.heap.size:=by omega
 have K1:=zaa (zhm i);have K2:=zaa (zh4 i);obtain⟨⟨x0,x1,x2,x3,x4,x5,x6,x7,x8,x9⟩,_⟩:=zaj K1.o;obtain⟨⟨R,I,N,K,M,E,O,J,L,Q⟩,Y⟩:=zaj K2.o;have A2:=zaa (zae (zae (zab _ _) (zab _ _)) i);clear i;have HE:Hid (changeE t h b s=0):=by rw[Hid,changeE,if_neg (by rw[hr];simp),if_neg (by rw[hs];simp),if_neg (by rw[hd];simp),hn]
 have B2:Hid (zaf t h b s={{nameT t h b with info:=zbj (·.1) t.info b (b,s)} with rev:=zax id t.rev b}):=by rw[Hid,zaf,if_pos HE.o];rfl
 have hz:(s.size:Int)=32:=by simpa[zbc] using hs
 clear hs;go_wp2_with fail;refine(zi9 a' c' t.data b _ (HD.o.below A2.o) N2.o).mono ?_;rintro e A ⟨rfl,X⟩;have C7:w.heap.size+1<A.heap.size:=by have:=X.size;omega
 have C2:w.heap.size<A.heap.size:=by omega
 have A3:=zaa (zad X C1 K1.o);have A0:=zaa (zad X D2 K2.o);have A4:=zaa (zae A2.o X);clear x0 x1 x2 x3 x4 x5 x6 x7 x8 x9 R I N K M E O J L Q Y X K1 K2 A2;obtain⟨⟨x0,x1,x2,x3,x4,x5,x6,x7,x8,x9⟩,_⟩:=zaj A3.o;obtain⟨⟨R,I,N,K,M,E,O,J,L,Q⟩,Y⟩:=zaj A0.o;go_wp2_with fail;refine(zcw _ t _ (HT.o.below A4.o) (by omega) (by omega) (by omega)).mono ?_;rintro e w4 ⟨va,vd,vr,rfl,D,m⟩;obtain⟨a1,c1,rfl,_,_⟩:=SegC.of_owns D.2.1;obtain⟨a2,c2,rfl,_,_⟩:=SegC.of_owns D.2.2.1;obtain⟨a3,c3,rfl,_,_⟩:=SegI.of_owns D.2.2.2;have BX:=zaa D;have D4:=D.lt;have B4:=zaa (zae A4.o m);have B3:=zaa (zad m C2 A3.o);have B8:=zaa (zad m C7 A0.o);clear x0 x1 x2 x3 x4 x5 x6 x7 x8 x9 R I N K M E O J L Q Y m D A4 A3 A0;obtain⟨⟨z0,z1,x,z3,z,z5,z6,u,y,q⟩,gf⟩:=zaj BX.o.1;go_wp2_with fail;refine(zlg A.heap.size t _ _ _ h b w4 BX.o hg hh).mono ?_;rintro e w5 ⟨rfl,k,n⟩;have C:=zaa k;have D3:=k.lt;have D9:=zaa ((n.block w.heap.size (by omega)).trans B3.o);have A9:=zaa ((n.block (w.heap.size+1) (by omega)).trans B8.o);have B9:=zaa (B4.o.trans (n.mono (by omega)));clear z0 z1 x z3 z z5 z6 u y q gf n k B4 B3 B8 BX;rw[zin,if_pos hn]at C;have U:=zel t h b;obtain⟨t',B5⟩:∃t',t'=nameT t h b:=⟨_,rfl⟩;rw[←B5]at C B2 U;have C3:Hid (t'.info=t.info):=U.1;have C5:Hid (t'.data=t.data):=U.2.1;have D1:Hid (t'.rev=t.rev):=U.2.2;clear B5 U;have o6:=C.o.2.1;rw[C3.o]at o6;obtain⟨⟨z0,z1,x,z3,z,z5,z6,u,y,q⟩,gf⟩:=zaj C.o.1;obtain⟨⟨R,I,N,K,M,E,O,J,L,Q⟩,Y⟩:=zaj A9.o;go_wp2_with fail;refine(zri (A.heap.size+1) _ t.info b s _ o6 (by omega) C8).mono ?_;clear o6;rintro e w6 ⟨v6,rfl,A6,Z⟩;obtain⟨p6,q6,rfl,_,_⟩:=SegC.of_owns A6;have D6:=Z.size;have D5:A.heap.size<w6.heap.size:=by omega
 have F:=zaa (C.o.below Z);have B0:Hid (w6.ownsRow (A.heap.size+1) 84 2 (.slice p6 (zbj (·.1) t.info b (b,s)).length q6) (zbj (·.1) t.info b (b,s)).length (cellsC (zbj (·.1) t.info b (b,s)))):=zba A6 (by omega);have A7:=zaa (F.o.set (t':={t' with info:=zbj (·.1) t.info b (b,s)}) 1 (.slice p6 (zbj (·.1) t.info b (b,s)).length q6) rfl B0.o F.o.2.2.1 F.o.2.2.2);have B7:=zaa (zad Z (by omega) A9.o);have K6:Hid ((w6.setCell ⟨A.heap.size,1,none⟩ (.slice p6 (zbj (·.1) t.info b (b,s)).length q6)).heap[w.heap.size+1]?=_):=(Below.heap_setCell _ _ _ _ (by simp;omega)).trans B7.o;have B1:=zaa ((B9.o.trans (Z.mono (by omega))).setCell (p:=⟨A.heap.size,1,none⟩) (by simp;omega) (.slice p6 (zbj (·.1) t.info b (b,s)).length q6));clear z0 z1 x z3 z z5 z6 u y q gf R I N K M E O J L Q Y Z A6 B0 C B9 A9;have o7:=A7.o.2.2.2;dsimp only at o7;rw[D1.o]at o7;obtain⟨⟨z0,z1,x,z3,z,z5,z6,u,y,q⟩,gf⟩:=zaj F.o.1;obtain⟨⟨R,I,N,K,M,E,O,J,L,Q⟩,Y⟩:=zaj B7.o;go_wp2_with fail;refine(zrl (A.heap.size+1) _ t.rev b _ o7 (by omega) C9).mono ?_;clear o7;rintro e w7 ⟨v7,rfl,A5,j⟩;obtain⟨p7,q7,rfl,_,_⟩:=SegI.of_owns A5;have C6:=j.size;simp only[World.size_setCell]at C6;have E0:A.heap.size<w7.heap.size:=by omega
 have S:=zaa (A7.o.below j);have A8:Hid (w7.ownsRow (A.heap.size+1) 3 1 (.slice p7 (zax id t.rev b).length q7) (zax id t.rev b).length (cellsI (zax id t.rev b))):=zba A5 (by simp;omega);have C0:=zaa (S.o.set (t':={{t' with info:=zbj (·.1) t.info b (b,s)} with rev:=zax id t.rev b}) 3 (.slice p7 (zax id t.rev b).length q7) rfl S.o.2.1 S.o.2.2.1 A8.o);have B6:=zaa (zad j (by simp;omega) K6.o);have K7:Hid ((w7.setCell ⟨A.heap.size,3,none⟩ (.slice p7 (zax id t.rev b).length q7)).heap[w.heap.size+1]?=_):=(Below.heap_setCell _ _ _ _ (by simp;omega)).trans B6.o;have C4:=zaa ((B1.o.trans (j.mono (by simp;omega))).setCell (p:=⟨A.heap.size,3,none⟩) (by simp;omega) (.slice p7 (zax id t.rev b).length q7));clear z0 z1 x z3 z z5 z6 u y q gf R I N K M E O J L Q Y j A5 A8 A7 B1 K6;obtain⟨⟨z0,z1,x,z3,z,z5,z6,u,y,q⟩,gf⟩:=zaj S.o.1;obtain⟨⟨R,I,N,K,M,E,O,J,L,Q⟩,Y⟩:=zaj B6.o;go_wp2;refine bodyPost_ret (v:=.tuple #[.agg #[.int .i64 t'.seq,(.slice p6 (zbj (·.1) t.info b (b,s)).length q6),(.slice a2 t.data.length c2),(.slice p7 (zax id t.rev b).length q7),.bool t'.h0.on,.int .i64 t'.h0.left,.bool t'.h1.on,.int .i64 t'.h1.left,.bool t'.h2.on,.int .i64 t'.h2.left],.int .i64 0]) (by simp[results,results121,go_sem,R,I,N,K,M,E,O,J,L,Q]) rfl ⟨_,by rw[HE.o],?_⟩;rw[B2.o];refine⟨?_,?_,.inr (C0.o.fromR (t:={{t' with info:=zbj (·.1) t.info b (b,s)} with rev:=zax id t.rev b}) (by omega))⟩
 ·refine BoxTx.is (t:={{t' with info:=zbj (·.1) t.info b (b,s)} with rev:=zax id t.rev b}) (B:=A.heap.size) ?_ (by have:=zj6 (·.1) t.info b (b,s);unfold maxLen;dsimp only at this⊢;omega) (by have:=C5.o;unfold maxLen;dsimp only;rw[this];omega) (by have:=ziq id t.rev b;unfold maxLen;dsimp only;omega)
  repeat refine BoxTx.other ?_ (by simp;omega) _
  exact C0.o
 ·iterate 10 (refine Below.setCell ?_ (by simp;try omega) _)
  exact C4.o
theorem zro(v:Value)(t:Tx)(h b:Int)(s:ByteArray)(w:World)(hT:IsTx w v t)(r1:t.info.length*24≤140737488355328)(r2:t.data.length*24≤140737488355328):
  Calls prog 121 #[v,.int .i64 h,.int .i64 b,.string s] w fun e w'=>∃v2,e=.returned (.tuple #[v2,.int .i64 (changeE t h b s)])∧IsTx w' v2 (zaf t h b s)∧Below w.heap.size w w'∧(v2=v∨za2 w.heap.size v2 (zaf t h b s)):=by
 by_cases hr:reachE t h b=0
 ·cases hs:zbc s with
  |false=>exact zrm v t h b s w hT r1 r2 hr hs
  |true=>
   cases hd:(zai b t.data).isSome with
   |true=>exact zrn v t h b s w hT r1 r2 hr hs hd
   |false=>
    by_cases hn:nameE t h b=0
    ·exact zxe v t h b s w hT r1 r2 hr hs hd hn
    ·exact zm5 v t h b s w hT r1 r2 hr hs hd hn
 ·exact zxd v t h b s w hT r1 r2 hr
theorem z3l(v:Value)(t:Tx)(h b:Int)(s:ByteArray)(w:World)(hT:IsTx w v t)(r1:t.info.length*24≤140737488355328)(r2:t.data.length*24≤140737488355328)(hr:¬reachE t h b=0):
  Calls prog 122 #[v,.int .i64 h,.int .i64 b,.string s] w fun e w'=>∃v2,e=.returned (.tuple #[v2,.int .i64 (fillE t h b s)])∧IsTx w' v2 (zan t h b s)∧Below w.heap.size w w'∧(v2=v∨za2 w.heap.size v2 (zan t h b s)):=by
 have L:=zaa hT;obtain⟨a,c,k,Z,r,d,rfl,D,N,M,K,C,J⟩:=hT;have HM:=zaa D;have HD:=zaa N;have HR:=zaa M;have N1:=zaa K;have N2:=zaa C;have N3:=zaa J;clear D N M K C J;go_enter func122,ntmps122;go_wp2_with fail;refine(zci _ t h b _ (L.o.below (zae (zab _ _) (zab _ _))) r1 r2).mono ?_;rintro e F ⟨rfl,A⟩;have A1:w.heap.size+1<F.heap.size:=by have:=A.size;simp at this;omega
 have A0:w.heap.size<F.heap.size:=by omega
 have O:=zaa (zhm A);have U:=zaa (zh4 A);obtain⟨⟨x0,x1,x2,x3,x4,x5,x6,x7,x8,x9⟩,_⟩:=zaj O.o;obtain⟨⟨n,m,Y,R,X,j,i,Q,S,l⟩,ff⟩:=zaj U.o;have B:=zaa (zae (zae (zab _ _) (zab _ _)) A);clear A;have E:Hid (fillE t h b s=reachE t h b):=by rw[Hid,fillE,if_pos hr]
 have I:Hid (zan t h b s=t):=by rw[Hid,zan,if_neg (by rw[E.o];exact hr)]
 generalize reachE t h b=z at *;go_wp2;refine bodyPost_ret (v:=.tuple #[.agg #[.int .i64 t.seq,.slice a t.info.length c,.slice k t.data.length Z,.slice r t.rev.length d,.bool t.h0.on,.int .i64 t.h0.left,.bool t.h1.on,.int .i64 t.h1.left,.bool t.h2.on,.int .i64 t.h2.left],.int .i64 z]) (by simp[results,results122,go_sem,n,m,Y,R,X,j,i,Q,S,l]) rfl ⟨_,by rw[E.o],?_⟩;refine⟨?_,?_,.inl rfl⟩
 ·rw[I.o];refine L.o.below ?_
  repeat refine Below.setCell ?_ (by simp) _
  exact B.o
 ·repeat refine Below.setCell ?_ (by simp) _
  exact B.o
theorem zxf(v:Value)(t:Tx)(h b:Int)(s:ByteArray)(w:World)(hT:IsTx w v t)(r1:t.info.length*24≤140737488355328)(r2:t.data.length*24≤140737488355328)(hr:reachE t h b=0)(hs:zbc s=false):
  Calls prog 122 #[v,.int .i64 h,.int .i64 b,.string s] w fun e w'=>∃v2,e=.returned (.tuple #[v2,.int .i64 (fillE t h b s)])∧IsTx w' v2 (zan t h b s)∧Below w.heap.size w w'∧(v2=v∨za2 w.heap.size v2 (zan t h b s)):=by
 have L:=zaa hT;obtain⟨a,c,k,Z,r,d,rfl,D,N,M,K,C,J⟩:=hT;have HM:=zaa D;have HD:=zaa N;have HR:=zaa M;have N1:=zaa K;have N2:=zaa C;have N3:=zaa J;clear D N M K C J;go_enter func122,ntmps122;go_wp2_with fail;refine(zci _ t h b _ (L.o.below (zae (zab _ _) (zab _ _))) r1 r2).mono ?_;rintro e F ⟨rfl,A⟩;have A1:w.heap.size+1<F.heap.size:=by have:=A.size;simp at this;omega
 have A0:w.heap.size<F.heap.size:=by omega
 have O:=zaa (zhm A);have U:=zaa (zh4 A);obtain⟨⟨x0,x1,x2,x3,x4,x5,x6,x7,x8,x9⟩,_⟩:=zaj O.o;obtain⟨⟨n,m,Y,R,X,j,i,Q,S,l⟩,ff⟩:=zaj U.o;have B:=zaa (zae (zae (zab _ _) (zab _ _)) A);clear A;have E:Hid (fillE t h b s=1):=by rw[Hid,fillE,if_neg (by rw[hr];simp),if_pos hs]
 have I:Hid (zan t h b s=t):=by rw[Hid,zan,if_neg (by rw[E.o];decide)]
 have hz:¬(s.size:Int)=32:=by simpa[zbc] using hs
 clear hs;go_wp2;refine bodyPost_ret (v:=.tuple #[.agg #[.int .i64 t.seq,.slice a t.info.length c,.slice k t.data.length Z,.slice r t.rev.length d,.bool t.h0.on,.int .i64 t.h0.left,.bool t.h1.on,.int .i64 t.h1.left,.bool t.h2.on,.int .i64 t.h2.left],.int .i64 1]) (by simp[results,results122,go_sem,n,m,Y,R,X,j,i,Q,S,l]) rfl ⟨_,by rw[E.o],?_⟩;refine⟨?_,?_,.inl rfl⟩
 ·rw[I.o];refine L.o.below ?_
  repeat refine Below.setCell ?_ (by simp) _
  exact B.o
 ·repeat refine Below.setCell ?_ (by simp) _
  exact B.o
theorem zxg(v:Value)(t:Tx)(h b:Int)(s:ByteArray)(w:World)(hT:IsTx w v t)(r1:t.info.length*24≤140737488355328)(r2:t.data.length*24≤140737488355328)(hr:reachE t h b=0)(hs:zbc s=true)(hd:zcq t b=true):
  Calls prog 122 #[v,.int .i64 h,.int .i64 b,.string s] w fun e w'=>∃v2,e=.returned (.tuple #[v2,.int .i64 (fillE t h b s)])∧IsTx w' v2 (zan t h b s)∧Below w.heap.size w w'∧(v2=v∨za2 w.heap.size v2 (zan t h b s)):=by
 have O:=zaa hT;obtain⟨a,c,a',c',r,d,rfl,Z,hD,hR,u,Y,p⟩:=hT;have HM:=zaa Z;have HD:=zaa hD;have HR:=zaa hR;have N1:=zaa u;have N2:=zaa Y;have N3:=zaa p;clear Z hD hR u Y p;go_enter func122,ntmps122;go_wp2_with fail;refine(zci _ t h b _ (O.o.below (zae (zab _ _) (zab _ _))) r1 r2).mono ?_;rintro e l ⟨rfl,B⟩;have z:w.heap.size+1<l.heap.size:=by have:=B.size;simp at this;omega
 have N:w.heap.size<l.heap.size:=by omega
 have E:=zaa (zhm B);have K:=zaa (zh4 B);obtain⟨⟨x0,n,x2,j,x4,x5,q,x7,x,y⟩,_⟩:=zaj E.o;obtain⟨⟨X,U,M,I,L,R,Q,F,J,S⟩,ff⟩:=zaj K.o;have C:=zaa (zae (zae (zab _ _) (zab _ _)) B);clear B;have k:Hid (fillE t h b s=8):=by rw[Hid,fillE,if_neg (by rw[hr];simp),if_neg (by rw[hs];simp),if_pos hd]
 have m:Hid (zan t h b s=t):=by rw[Hid,zan,if_neg (by rw[k.o];decide)]
 have hz:(s.size:Int)=32:=by simpa[zbc] using hs
 clear hs;go_wp2_with fail;refine(zg3 _ t b _ (O.o.below C.o)).mono ?_;rintro e w2 ⟨rfl,A⟩;have A2:w.heap.size+1<w2.heap.size:=by have:=A.size;omega
 have A1:w.heap.size<w2.heap.size:=by omega
 have A0:=zaa (zad A N E.o);have i:=zaa (zad A z K.o);have D:=zaa (zae C.o A);clear x0 n x2 j x4 x5 q x7 x y X U M I L R Q F J S ff A E K C;obtain⟨⟨x0,n,x2,j,x4,x5,q,x7,x,y⟩,_⟩:=zaj A0.o;obtain⟨⟨X,U,M,I,L,R,Q,F,J,S⟩,ff⟩:=zaj i.o;go_wp2;refine bodyPost_ret (v:=.tuple #[.agg #[.int .i64 t.seq,.slice a t.info.length c,.slice a' t.data.length c',.slice r t.rev.length d,.bool t.h0.on,.int .i64 t.h0.left,.bool t.h1.on,.int .i64 t.h1.left,.bool t.h2.on,.int .i64 t.h2.left],.int .i64 8]) (by simp[results,results122,go_sem,X,U,M,I,L,R,Q,F,J,S]) rfl ⟨_,by rw[k.o],?_⟩;refine⟨?_,?_,.inl rfl⟩
 ·rw[m.o];refine O.o.below ?_
  repeat refine Below.setCell ?_ (by simp) _
  exact D.o
 ·repeat refine Below.setCell ?_ (by simp) _
  exact D.o
theorem z3m(v:Value)(t:Tx)(h b:Int)(s:ByteArray)(w:World)(hT:IsTx w v t)(r1:t.info.length*24≤140737488355328)(r2:t.data.length*24≤140737488355328)(hr:reachE t h b=0)(hs:zbc s=true)(hd:zcq t b=false):
  Calls prog 122 #[v,.int .i64 h,.int .i64 b,.string s] w fun e w'=>∃v2,e=.returned (.tuple #[v2,.int .i64 (fillE t h b s)])∧IsTx w' v2 (zan t h b s)∧Below w.heap.size w w'∧(v2=v∨za2 w.heap.size v2 (zan t h b s)):=by
 have A0:=zcd hr;have hg:=A0.1;clear A0;have X:=(za7 t).1 hg;have B5:Up (·.1) t.info:=(zfm _ _).1 ((za6 _).1 X.2.2.1.1).2;have A8:Up (·.1) t.data:=(zfm _ _).1 ((za6 _).1 X.2.2.1.2.1).2;have B6:Up id t.rev:=((za6 _).1 X.2.2.1.2.2).2;have B4:=za3 hg;clear X;have HT:=zaa hT;obtain⟨a,c,a',c',r,d,rfl,hM,hD,hR,n1,n2,n3⟩:=hT;have HM:=zaa hM;have HD:=zaa hD;have HR:=zaa hR;have N1:=zaa n1;have N2:=zaa n2;have N3:=zaa n3;clear hM hD hR n1 n2 n3;go_enter func122,ntmps122;go_wp2_with fail;refine(zci _ t h b _ (HT.o.below (zae (zab _ _) (zab _ _))) r1 r2).mono ?_;rintro e w1 ⟨rfl,I⟩;have A9:w.heap.size+1<w1.heap.size:=by have:=I.size;simp at this;omega
 have A3:w.heap.size<w1.heap.size:=by omega
 have K1:=zaa (zhm I);have K2:=zaa (zh4 I);obtain⟨⟨x0,x1,x2,x3,x4,x5,x6,x7,x8,x9⟩,_⟩:=zaj K1.o;obtain⟨⟨U,K,Q,M,O,J,R,L,N,S⟩,Z⟩:=zaj K2.o;have j:=zaa (zae (zae (zab _ _) (zab _ _)) I);clear I;have HE:Hid (fillE t h b s=0):=by rw[Hid,fillE,if_neg (by rw[hr];simp),if_neg (by rw[hs];simp),if_neg (by rw[hd];simp)]
 have A6:Hid (zan t h b s={t with data:=zbj (·.1) t.data b (b,s)}):=by rw[Hid,zan,if_pos HE.o]
 have hz:(s.size:Int)=32:=by simpa[zbc] using hs
 clear hs;go_wp2_with fail;refine(zg3 _ t b _ (HT.o.below j.o)).mono ?_;rintro e D ⟨rfl,E⟩;have A7:w.heap.size+1<D.heap.size:=by have:=E.size;omega
 have A4:w.heap.size<D.heap.size:=by omega
 have k:=zaa (zad E A3 K1.o);have i:=zaa (zad E A9 K2.o);have l:=zaa (zae j.o E);clear x0 x1 x2 x3 x4 x5 x6 x7 x8 x9 U K Q M O J R L N S Z E K1 K2 j;obtain⟨⟨x0,x1,x2,x3,x4,x5,x6,x7,x8,x9⟩,_⟩:=zaj k.o;obtain⟨⟨U,K,Q,M,O,J,R,L,N,S⟩,Z⟩:=zaj i.o;go_wp2_with fail;refine(zcw _ t _ (HT.o.below l.o) (by omega) (by omega) (by omega)).mono ?_;rintro e w4 ⟨va,vd,vr,rfl,A,Y⟩;obtain⟨a1,c1,rfl,_,_⟩:=SegC.of_owns A.2.1;obtain⟨a2,c2,rfl,_,_⟩:=SegC.of_owns A.2.2.1;obtain⟨a3,c3,rfl,_,_⟩:=SegI.of_owns A.2.2.2;have y:=zaa A;have B0:=A.lt;have z:=zaa (zae l.o Y);have B2:=zaa (zad Y A4 k.o);have u:=zaa (zad Y A7 i.o);clear x0 x1 x2 x3 x4 x5 x6 x7 x8 x9 U K Q M O J R L N S Z Y A l k i;have o6:=y.o.2.2.1;obtain⟨⟨z0,z1,z2,z3,z4,z5,z6,z7,z8,z9⟩,gf⟩:=zaj y.o.1;obtain⟨⟨U,K,Q,M,O,J,R,L,N,S⟩,Z⟩:=zaj u.o;go_wp2_with fail;refine(zri (D.heap.size+1) _ t.data b s _ o6 (by omega) A8).mono ?_;clear o6;rintro e w6 ⟨v6,rfl,n,F⟩;obtain⟨q,m,rfl,_,_⟩:=SegC.of_owns n;have B3:=F.size;have B1:D.heap.size<w6.heap.size:=by omega
 have C:=zaa (y.o.below F);have x:Hid (w6.ownsRow (D.heap.size+1) 84 2 (.slice q (zbj (·.1) t.data b (b,s)).length m) (zbj (·.1) t.data b (b,s)).length (cellsC (zbj (·.1) t.data b (b,s)))):=zba n (by omega);have A2:=zaa (C.o.set (t':={t with data:=zbj (·.1) t.data b (b,s)}) 2 (.slice q (zbj (·.1) t.data b (b,s)).length m) rfl C.o.2.1 x.o C.o.2.2.2);have A1:=zaa (zad F (by omega) u.o);have K6:Hid ((w6.setCell ⟨D.heap.size,2,none⟩ (.slice q (zbj (·.1) t.data b (b,s)).length m)).heap[w.heap.size+1]?=_):=(Below.heap_setCell _ _ _ _ (by simp;omega)).trans A1.o;have A5:=zaa ((z.o.trans (F.mono (by omega))).setCell (p:=⟨D.heap.size,2,none⟩) (by simp;omega) (.slice q (zbj (·.1) t.data b (b,s)).length m));clear z0 z1 z2 z3 z4 z5 z6 z7 z8 z9 gf U K Q M O J R L N S Z F n x y z u;obtain⟨⟨z0,z1,z2,z3,z4,z5,z6,z7,z8,z9⟩,gf⟩:=zaj C.o.1;obtain⟨⟨U,K,Q,M,O,J,R,L,N,S⟩,Z⟩:=zaj A1.o;go_wp2;refine bodyPost_ret (v:=.tuple #[.agg #[.int .i64 t.seq,(.slice a1 t.info.length c1),(.slice q (zbj (·.1) t.data b (b,s)).length m),(.slice a3 t.rev.length c3),.bool t.h0.on,.int .i64 t.h0.left,.bool t.h1.on,.int .i64 t.h1.left,.bool t.h2.on,.int .i64 t.h2.left],.int .i64 0]) (by simp[results,results122,go_sem,U,K,Q,M,O,J,R,L,N,S]) rfl ⟨_,by rw[HE.o],?_⟩;rw[A6.o];refine⟨?_,?_,.inr (A2.o.fromR (t:={t with data:=zbj (·.1) t.data b (b,s)}) (by omega))⟩
 ·refine BoxTx.is (t:={t with data:=zbj (·.1) t.data b (b,s)}) (B:=D.heap.size) ?_ (by exact N1.o) (by have:=zj6 (·.1) t.data b (b,s);unfold maxLen;dsimp only at this⊢;omega) (by exact N3.o)
  repeat refine BoxTx.other ?_ (by simp;omega) _
  exact A2.o
 ·iterate 10 (refine Below.setCell ?_ (by simp;try omega) _)
  exact A5.o
theorem zxh(v:Value)(t:Tx)(h b:Int)(s:ByteArray)(w:World)(hT:IsTx w v t)(r1:t.info.length*24≤140737488355328)(r2:t.data.length*24≤140737488355328):
  Calls prog 122 #[v,.int .i64 h,.int .i64 b,.string s] w fun e w'=>∃v2,e=.returned (.tuple #[v2,.int .i64 (fillE t h b s)])∧IsTx w' v2 (zan t h b s)∧Below w.heap.size w w'∧(v2=v∨za2 w.heap.size v2 (zan t h b s)):=by
 by_cases hr:reachE t h b=0
 ·cases hs:zbc s with
  |false=>exact zxf v t h b s w hT r1 r2 hr hs
  |true=>
   cases hd:zcq t b with
   |true=>exact zxg v t h b s w hT r1 r2 hr hs hd
   |false=>exact z3m v t h b s w hT r1 r2 hr hs hd
 ·exact z3l v t h b s w hT r1 r2 hr
theorem zxi(v:Value)(t:Tx)(h b:Int)(w:World)(hT:IsTx w v t)(r1:t.info.length*24≤140737488355328)(r2:t.data.length*24≤140737488355328)(hr:¬reachE t h b=0):
  Calls prog 123 #[v,.int .i64 h,.int .i64 b] w fun e w'=>∃v2,e=.returned (.tuple #[v2,.int .i64 (revokeE t h b)])∧IsTx w' v2 (zag t h b)∧Below w.heap.size w w'∧(v2=v∨za2 w.heap.size v2 (zag t h b)):=by
 have L:=zaa hT;obtain⟨a,c,k,Z,r,d,rfl,D,N,M,K,C,J⟩:=hT;have HM:=zaa D;have HD:=zaa N;have HR:=zaa M;have N1:=zaa K;have N2:=zaa C;have N3:=zaa J;clear D N M K C J;go_enter func123,ntmps123;go_wp2_with fail;refine(zci _ t h b _ (L.o.below (zae (zab _ _) (zab _ _))) r1 r2).mono ?_;rintro e F ⟨rfl,A⟩;have A1:w.heap.size+1<F.heap.size:=by have:=A.size;simp at this;omega
 have A0:w.heap.size<F.heap.size:=by omega
 have O:=zaa (zhm A);have U:=zaa (zh4 A);obtain⟨⟨x0,x1,x2,x3,x4,x5,x6,x7,x8,x9⟩,_⟩:=zaj O.o;obtain⟨⟨n,m,Y,R,X,j,i,Q,S,l⟩,ff⟩:=zaj U.o;have B:=zaa (zae (zae (zab _ _) (zab _ _)) A);clear A;have E:Hid (revokeE t h b=reachE t h b):=by rw[Hid,revokeE,if_pos hr]
 have I:Hid (zag t h b=t):=by rw[Hid,zag,if_neg (by rw[E.o];exact hr)]
 generalize reachE t h b=z at *;go_wp2;refine bodyPost_ret (v:=.tuple #[.agg #[.int .i64 t.seq,.slice a t.info.length c,.slice k t.data.length Z,.slice r t.rev.length d,.bool t.h0.on,.int .i64 t.h0.left,.bool t.h1.on,.int .i64 t.h1.left,.bool t.h2.on,.int .i64 t.h2.left],.int .i64 z]) (by simp[results,results123,go_sem,n,m,Y,R,X,j,i,Q,S,l]) rfl ⟨_,by rw[E.o],?_⟩;refine⟨?_,?_,.inl rfl⟩
 ·rw[I.o];refine L.o.below ?_
  repeat refine Below.setCell ?_ (by simp) _
  exact B.o
 ·repeat refine Below.setCell ?_ (by simp) _
  exact B.o
theorem zpg(v:Value)(t:Tx)(h b:Int)(w:World)(hT:IsTx w v t)(r1:t.info.length*24≤140737488355328)(r2:t.data.length*24≤140737488355328)(hr:reachE t h b=0)(hd:zaw t.rev b=true):
  Calls prog 123 #[v,.int .i64 h,.int .i64 b] w fun e w'=>∃v2,e=.returned (.tuple #[v2,.int .i64 (revokeE t h b)])∧IsTx w' v2 (zag t h b)∧Below w.heap.size w w'∧(v2=v∨za2 w.heap.size v2 (zag t h b)):=by
 have L:=zaa hT;obtain⟨a,c,m,i,r,d,rfl,D,N,M,K,C,J⟩:=hT;have HM:=zaa D;have HD:=zaa N;have R:=zaa M;have N1:=zaa K;have N2:=zaa C;have l:=zaa J;clear D N M K C J;go_enter func123,ntmps123;go_wp2_with fail;refine(zci _ t h b _ (L.o.below (zae (zab _ _) (zab _ _))) r1 r2).mono ?_;rintro e F ⟨rfl,A⟩;have A1:w.heap.size+1<F.heap.size:=by have:=A.size;simp at this;omega
 have A0:w.heap.size<F.heap.size:=by omega
 have O:=zaa (zhm A);have X:=zaa (zh4 A);obtain⟨⟨x0,x1,x2,x3,x4,x5,x6,x7,x8,x9⟩,_⟩:=zaj O.o;obtain⟨⟨q,p,Z,S,Y,k,j,Q,U,n⟩,ff⟩:=zaj X.o;have B:=zaa (zae (zae (zab _ _) (zab _ _)) A);clear A;have E:Hid (revokeE t h b=5):=by rw[Hid,revokeE,if_neg (by rw[hr];simp),if_pos hd]
 have I:Hid (zag t h b=t):=by rw[Hid,zag,if_neg (by rw[E.o];decide)]
 go_wp2_with fail;refine(zc4 r d t.rev b _ (R.o.below B.o) l.o).mono ?_;rintro e w2 ⟨rfl,rfl⟩;go_wp2;refine bodyPost_ret (v:=.tuple #[.agg #[.int .i64 t.seq,.slice a t.info.length c,.slice m t.data.length i,.slice r t.rev.length d,.bool t.h0.on,.int .i64 t.h0.left,.bool t.h1.on,.int .i64 t.h1.left,.bool t.h2.on,.int .i64 t.h2.left],.int .i64 5]) (by simp[results,results123,go_sem,q,p,Z,S,Y,k,j,Q,U,n]) rfl ⟨_,by rw[E.o],?_⟩;refine⟨?_,?_,.inl rfl⟩
 ·rw[I.o];refine L.o.below ?_
  repeat refine Below.setCell ?_ (by simp) _
  exact B.o
 ·repeat refine Below.setCell ?_ (by simp) _
  exact B.o
theorem zm6(v:Value)(t:Tx)(h b:Int)(w:World)(hT:IsTx w v t)(r1:t.info.length*24≤140737488355328)(r2:t.data.length*24≤140737488355328)(hr:reachE t h b=0)(hd:zaw t.rev b=false)(hn:¬nameE t h b=0):
  Calls prog 123 #[v,.int .i64 h,.int .i64 b] w fun e w'=>∃v2,e=.returned (.tuple #[v2,.int .i64 (revokeE t h b)])∧IsTx w' v2 (zag t h b)∧Below w.heap.size w w'∧(v2=v∨za2 w.heap.size v2 (zag t h b)):=by
 have K:=zcd hr;have hg:=K.1;have hh:=K.2.1;clear K;have A8:=za3 hg;have HT:=zaa hT;obtain⟨a,c,a',c',r,d,rfl,hM,hD,hR,n1,n2,n3⟩:=hT;have HM:=zaa hM;have HD:=zaa hD;have HR:=zaa hR;have N1:=zaa n1;have N2:=zaa n2;have N3:=zaa n3;clear hM hD hR n1 n2 n3;go_enter func123,ntmps123;go_wp2_with fail;refine(zci _ t h b _ (HT.o.below (zae (zab _ _) (zab _ _))) r1 r2).mono ?_;rintro e J ⟨rfl,B⟩;have N:w.heap.size+1<J.heap.size:=by have:=B.size;simp at this;omega
 have D:w.heap.size<J.heap.size:=by omega
 have U:=zaa (zhm B);have O:=zaa (zh4 B);obtain⟨⟨x0,x1,x2,x3,x4,x5,x6,x7,x8,x9⟩,_⟩:=zaj U.o;obtain⟨⟨m,S,j,Y,i,Q,k,X,Z,l⟩,ff⟩:=zaj O.o;have E:=zaa (zae (zae (zab _ _) (zab _ _)) B);clear B;have HE:Hid (revokeE t h b=nameE t h b):=by rw[Hid,revokeE,if_neg (by rw[hr];simp),if_neg (by rw[hd];simp)]
 have A1:Hid (zag t h b=t):=by rw[Hid,zag,if_neg (by rw[HE.o];exact hn)]
 go_wp2_with fail;refine(zc4 r d t.rev b _ (HR.o.below E.o) N3.o).mono ?_;rintro e R ⟨rfl,rfl⟩;have u:Below J.heap.size J J:=Below.refl _ _;obtain⟨R,M⟩:∃R,R=J:=⟨_,rfl⟩;rw[←M]at u N D U O E x0 x1 x2 x3 x4 x5 x6 x7 x8 x9 m S j Y i Q k X Z l ff;rw[←M];clear M;have s:=U;have n:=O;have L:=E;have A3:=N;have A0:=D;clear u U O E N D;go_wp2_with fail;refine(zcw _ t _ (HT.o.below L.o) (by omega) (by omega) (by omega)).mono ?_;rintro e w4 ⟨va,vd,vr,rfl,A,F⟩;obtain⟨a1,c1,rfl,_,_⟩:=SegC.of_owns A.2.1;obtain⟨a2,c2,rfl,_,_⟩:=SegC.of_owns A.2.2.1;obtain⟨a3,c3,rfl,_,_⟩:=SegI.of_owns A.2.2.2;have BX:=zaa A;have A7:=A.lt;have q:=zaa (zae L.o F);have p:=zaa (zad F A0 s.o);have x:=zaa (zad F A3 n.o);clear x0 x1 x2 x3 x4 x5 x6 x7 x8 x9 m S j Y i Q k X Z l ff F A L s n;obtain⟨⟨z0,z1,z2,z3,z4,z5,z6,z7,z8,z9⟩,gf⟩:=zaj BX.o.1;go_wp2_with fail;refine(zlg R.heap.size t _ _ _ h b w4 BX.o hg hh).mono ?_;rintro e w5 ⟨rfl,C,I⟩;have A2:=zaa C;have A6:=C.lt;have A4:=zaa ((I.block w.heap.size (by omega)).trans p.o);have A5:=zaa ((I.block (w.heap.size+1) (by omega)).trans x.o);have y:=zaa (q.o.trans (I.mono (by omega)));clear z0 z1 z2 z3 z4 z5 z6 z7 z8 z9 gf I C q p x BX;obtain⟨⟨x0,x1,x2,x3,x4,x5,x6,x7,x8,x9⟩,_⟩:=zaj A4.o;obtain⟨⟨m,S,j,Y,i,Q,k,X,Z,l⟩,ff⟩:=zaj A5.o;clear A2;generalize nameE t h b=z at *;go_wp2;refine bodyPost_ret (v:=.tuple #[.agg #[.int .i64 t.seq,.slice a t.info.length c,.slice a' t.data.length c',.slice r t.rev.length d,.bool t.h0.on,.int .i64 t.h0.left,.bool t.h1.on,.int .i64 t.h1.left,.bool t.h2.on,.int .i64 t.h2.left],.int .i64 z]) (by simp[results,results123,go_sem,m,S,j,Y,i,Q,k,X,Z,l]) rfl ⟨_,by rw[HE.o],?_⟩;refine⟨?_,?_,.inl rfl⟩
 ·rw[A1.o];refine HT.o.below ?_
  repeat refine Below.setCell ?_ (by simp) _
  exact y.o
 ·repeat refine Below.setCell ?_ (by simp) _
  exact y.o
theorem zxj(v:Value)(t:Tx)(h b:Int)(w:World)(hT:IsTx w v t)(r1:t.info.length*24≤140737488355328)(r2:t.data.length*24≤140737488355328)(hr:reachE t h b=0)(hd:zaw t.rev b=false)(hn:nameE t h b=0):
  Calls prog 123 #[v,.int .i64 h,.int .i64 b] w fun e w'=>∃v2,e=.returned (.tuple #[v2,.int .i64 (revokeE t h b)])∧IsTx w' v2 (zag t h b)∧Below w.heap.size w w'∧(v2=v∨za2 w.heap.size v2 (zag t h b)):=by
 have B0:=zcd hr;have hg:=B0.1;have hh:=B0.2.1;clear B0;have A3:=(za7 t).1 hg;have E4:Up (·.1) t.info:=(zfm _ _).1 ((za6 _).1 A3.2.2.1.1).2;have D8:Up (·.1) t.data:=(zfm _ _).1 ((za6 _).1 A3.2.2.1.2.1).2;have E5:Up id t.rev:=((za6 _).1 A3.2.2.1.2.2).2;have F1:=za3 hg;clear A3;have HT:=zaa hT;obtain⟨a,c,a',c',r,d,rfl,hM,hD,hR,n1,n2,n3⟩:=hT;have HM:=zaa hM;have HD:=zaa hD;have HR:=zaa hR;have N1:=zaa n1;have N2:=zaa n2;have N3:=zaa n3;clear hM hD hR n1 n2 n3;go_enter func123,ntmps123;go_wp2_with fail;refine(zci _ t h b _ (HT.o.below (zae (zab _ _) (zab _ _))) r1 r2).mono ?_;rintro e w1 ⟨rfl,A0⟩;have B8:w.heap.size+1<w1.heap.size:=by have:=A0.size;simp at this;omega
 have A2:w.heap.size<w1.heap.size:=by omega
 have K1:=zaa (zhm A0);have K2:=zaa (zh4 A0);obtain⟨⟨x0,x1,x2,x3,x4,x5,x6,x7,x8,x9⟩,_⟩:=zaj K1.o;obtain⟨⟨N,D,I,M,F,C,J,L,E,K⟩,S⟩:=zaj K2.o;have A4:=zaa (zae (zae (zab _ _) (zab _ _)) A0);clear A0;have HE:Hid (revokeE t h b=0):=by rw[Hid,revokeE,if_neg (by rw[hr];simp),if_neg (by rw[hd];simp),hn]
 have C0:Hid (zag t h b={{{nameT t h b with info:=zax (·.1) t.info b} with data:=zax (·.1) t.data b} with rev:=zbj id t.rev b b}):=by rw[Hid,zag,if_pos HE.o];rfl
 go_wp2_with fail;refine(zc4 r d t.rev b _ (HR.o.below A4.o) N3.o).mono ?_;rintro e A ⟨rfl,rfl⟩;have D3:Below w1.heap.size w1 w1:=Below.refl _ _;obtain⟨A,B1⟩:∃A,A=w1:=⟨_,rfl⟩;rw[←B1]at D3 B8 A2 K1 K2 A4 x0 x1 x2 x3 x4 x5 x6 x7 x8 x9 N D I M F C J L E K S;rw[←B1];clear B1;have C2:=K1;have C8:=K2;have A7:=A4;have E3:=B8;have D6:=A2;clear D3 K1 K2 A4 B8 A2;go_wp2_with fail;refine(zcw _ t _ (HT.o.below A7.o) (by omega) (by omega) (by omega)).mono ?_;rintro e w4 ⟨va,vd,vr,rfl,Q,A5⟩;obtain⟨a1,c1,rfl,_,_⟩:=SegC.of_owns Q.2.1;obtain⟨a2,c2,rfl,_,_⟩:=SegC.of_owns Q.2.2.1;obtain⟨a3,c3,rfl,_,_⟩:=SegI.of_owns Q.2.2.2;have BX:=zaa Q;have E7:=Q.lt;have D1:=zaa (zae A7.o A5);have C1:=zaa (zad A5 D6 C2.o);have D4:=zaa (zad A5 E3 C8.o);clear x0 x1 x2 x3 x4 x5 x6 x7 x8 x9 N D I M F C J L E K S A5 Q A7 C2 C8;obtain⟨⟨x,y,i,z3,s,u,k,n,q,Z⟩,z⟩:=zaj BX.o.1;go_wp2_with fail;refine(zlg A.heap.size t _ _ _ h b w4 BX.o hg hh).mono ?_;rintro e w5 ⟨rfl,A1,A6⟩;have O:=zaa A1;have F4:=A1.lt;have F2:=zaa ((A6.block w.heap.size (by omega)).trans C1.o);have B7:=zaa ((A6.block (w.heap.size+1) (by omega)).trans D4.o);have C7:=zaa (D1.o.trans (A6.mono (by omega)));clear x y i z3 s u k n q Z z A6 A1 D1 C1 D4 BX;rw[zin,if_pos hn]at O;have Y:=zel t h b;obtain⟨t',C3⟩:∃t',t'=nameT t h b:=⟨_,rfl⟩;rw[←C3]at O C0 Y;have E0:Hid (t'.info=t.info):=Y.1;have D7:Hid (t'.data=t.data):=Y.2.1;have D9:Hid (t'.rev=t.rev):=Y.2.2;clear C3 Y;have o6:=O.o.2.1;rw[E0.o]at o6;obtain⟨⟨x,y,i,z3,s,u,k,n,q,Z⟩,z⟩:=zaj O.o.1;obtain⟨⟨N,D,I,M,F,C,J,L,E,K⟩,S⟩:=zaj B7.o;go_wp2_with fail;refine(zkp (A.heap.size+1) _ t.info b _ o6 (by omega) E4).mono ?_;clear o6;rintro e w6 ⟨v6,rfl,B3,j⟩;obtain⟨p6,q6,rfl,_,_⟩:=SegC.of_owns B3;have E9:=j.size;have E8:A.heap.size<w6.heap.size:=by omega
 have R:=zaa (O.o.below j);have B9:Hid (w6.ownsRow (A.heap.size+1) 84 2 (.slice p6 (zax (·.1) t.info b).length q6) (zax (·.1) t.info b).length (cellsC (zax (·.1) t.info b))):=zba B3 (by omega);have B5:=zaa (R.o.set (t':={t' with info:=zax (·.1) t.info b}) 1 (.slice p6 (zax (·.1) t.info b).length q6) rfl B9.o R.o.2.2.1 R.o.2.2.2);have C6:=zaa (zad j (by omega) B7.o);have K6:Hid ((w6.setCell ⟨A.heap.size,1,none⟩ (.slice p6 (zax (·.1) t.info b).length q6)).heap[w.heap.size+1]?=_):=(Below.heap_setCell _ _ _ _ (by simp;omega)).trans C6.o;have C9:=zaa ((C7.o.trans (j.mono (by omega))).setCell (p:=⟨A.heap.size,1,none⟩) (by simp;omega) (.slice p6 (zax (·.1) t.info b).length q6));clear x y i z3 s u k n q Z z N D I M F C J L E K S j B3 B9 O C7 B7;have o7:=B5.o.2.2.1;dsimp only at o7;rw[D7.o]at o7;obtain⟨⟨x,y,i,z3,s,u,k,n,q,Z⟩,z⟩:=zaj R.o.1;obtain⟨⟨N,D,I,M,F,C,J,L,E,K⟩,S⟩:=zaj C6.o;go_wp2_with fail;refine(zkp (A.heap.size+1) _ t.data b _ o7 (by omega) D8).mono ?_;clear o7;rintro e w7 ⟨v7,rfl,A8,l⟩;obtain⟨p7,q7,rfl,_,_⟩:=SegC.of_owns A8;have E2:=l.size;simp only[World.size_setCell]at E2;have F3:A.heap.size<w7.heap.size:=by omega
 have U:=zaa (B5.o.below l);have B6:Hid (w7.ownsRow (A.heap.size+1) 84 2 (.slice p7 (zax (·.1) t.data b).length q7) (zax (·.1) t.data b).length (cellsC (zax (·.1) t.data b))):=zba A8 (by simp;omega);have A9:=zaa (U.o.set (t':={{t' with info:=zax (·.1) t.info b} with data:=zax (·.1) t.data b}) 2 (.slice p7 (zax (·.1) t.data b).length q7) rfl U.o.2.1 B6.o U.o.2.2.2);have C5:=zaa (zad l (by simp;omega) K6.o);have K7:Hid ((w7.setCell ⟨A.heap.size,2,none⟩ (.slice p7 (zax (·.1) t.data b).length q7)).heap[w.heap.size+1]?=_):=(Below.heap_setCell _ _ _ _ (by simp;omega)).trans C5.o;have D2:=zaa ((C9.o.trans (l.mono (by simp;omega))).setCell (p:=⟨A.heap.size,2,none⟩) (by simp;omega) (.slice p7 (zax (·.1) t.data b).length q7));clear x y i z3 s u k n q Z z N D I M F C J L E K S l A8 B6 B5 C9 K6;have o8:=A9.o.2.2.2;dsimp only at o8;rw[D9.o]at o8;obtain⟨⟨x,y,i,z3,s,u,k,n,q,Z⟩,z⟩:=zaj U.o.1;obtain⟨⟨N,D,I,M,F,C,J,L,E,K⟩,S⟩:=zaj C5.o;go_wp2_with fail;refine(z0g (A.heap.size+1) _ t.rev b _ o8 (by omega) E5).mono ?_;clear o8;rintro e w8 ⟨v8,rfl,B2,m⟩;obtain⟨p8,q8,rfl,_,_⟩:=SegI.of_owns B2;have E1:=m.size;simp only[World.size_setCell]at E1;have F0:A.heap.size<w8.heap.size:=by omega
 have X:=zaa (A9.o.below m);have B4:Hid (w8.ownsRow (A.heap.size+1) 3 1 (.slice p8 (zbj id t.rev b b).length q8) (zbj id t.rev b b).length (cellsI (zbj id t.rev b b))):=zba B2 (by simp;omega);have D5:=zaa (X.o.set (t':={{{t' with info:=zax (·.1) t.info b} with data:=zax (·.1) t.data b} with rev:=zbj id t.rev b b}) 3 (.slice p8 (zbj id t.rev b b).length q8) rfl X.o.2.1 X.o.2.2.1 B4.o);have C4:=zaa (zad m (by simp;omega) K7.o);have K8:Hid ((w8.setCell ⟨A.heap.size,3,none⟩ (.slice p8 (zbj id t.rev b b).length q8)).heap[w.heap.size+1]?=_):=(Below.heap_setCell _ _ _ _ (by simp;omega)).trans C4.o;have E6:=zaa ((D2.o.trans (m.mono (by simp;omega))).setCell (p:=⟨A.heap.size,3,none⟩) (by simp;omega) (.slice p8 (zbj id t.rev b b).length q8));clear x y i z3 s u k n q Z z N D I M F C J L E K S m B2 B4 A9 D2 K7;obtain⟨⟨x,y,i,z3,s,u,k,n,q,Z⟩,z⟩:=zaj X.o.1;obtain⟨⟨N,D,I,M,F,C,J,L,E,K⟩,S⟩:=zaj C4.o;go_wp2;refine bodyPost_ret (v:=.tuple #[.agg #[.int .i64 t'.seq,(.slice p6 (zax (·.1) t.info b).length q6),(.slice p7 (zax (·.1) t.data b).length q7),(.slice p8 (zbj id t.rev b b).length q8),.bool t'.h0.on,.int .i64 t'.h0.left,.bool t'.h1.on,.int .i64 t'.h1.left,.bool t'.h2.on,.int .i64 t'.h2.left],.int .i64 0]) (by simp[results,results123,go_sem,N,D,I,M,F,C,J,L,E,K]) rfl ⟨_,by rw[HE.o],?_⟩;rw[C0.o];refine⟨?_,?_,.inr (D5.o.fromR (t:={{{t' with info:=zax (·.1) t.info b} with data:=zax (·.1) t.data b} with rev:=zbj id t.rev b b}) (by omega))⟩
 ·refine BoxTx.is (t:={{{t' with info:=zax (·.1) t.info b} with data:=zax (·.1) t.data b} with rev:=zbj id t.rev b b}) (B:=A.heap.size) ?_ (by have:=ziq (·.1) t.info b;unfold maxLen;dsimp only at this⊢;omega) (by have:=ziq (·.1) t.data b;unfold maxLen;dsimp only at this⊢;omega) (by have:=zj6 id t.rev b b;unfold maxLen;dsimp only;omega)
  repeat refine BoxTx.other ?_ (by simp;omega) _
  exact D5.o
 ·iterate 10 (refine Below.setCell ?_ (by simp;try omega) _)
  exact E6.o
theorem zrp(v:Value)(t:Tx)(h b:Int)(w:World)(hT:IsTx w v t)(r1:t.info.length*24≤140737488355328)(r2:t.data.length*24≤140737488355328):
  Calls prog 123 #[v,.int .i64 h,.int .i64 b] w fun e w'=>∃v2,e=.returned (.tuple #[v2,.int .i64 (revokeE t h b)])∧IsTx w' v2 (zag t h b)∧Below w.heap.size w w'∧(v2=v∨za2 w.heap.size v2 (zag t h b)):=by
 by_cases hr:reachE t h b=0
 ·cases hd:zaw t.rev b with
  |true=>exact zpg v t h b w hT r1 r2 hr hd
  |false=>
   by_cases hn:nameE t h b=0
   ·exact zxj v t h b w hT r1 r2 hr hd hn
   ·exact zm6 v t h b w hT r1 r2 hr hd hn
 ·exact zxi v t h b w hT r1 r2 hr
theorem zh3{w:World}{B:Nat}{u0 u1 u2 u3 u4 u5 u6 u7 u8 u9:Value}{t:TypeId}(h:w.heap[B]?=some (.cells #[u0,u1,u2,u3,u4,u5,u6,u7,u8,u9] t (0,0)))(v0 v1 v2 v3 v4 v5 v6 v7 v8 v9:Value):
  ((((((((((w.setCell ⟨B,0,none⟩ v0).setCell ⟨B,1,none⟩ v1).setCell ⟨B,2,none⟩ v2).setCell ⟨B,3,none⟩ v3).setCell ⟨B,4,none⟩ v4).setCell ⟨B,5,none⟩ v5).setCell ⟨B,6,none⟩ v6).setCell ⟨B,7,none⟩ v7).setCell ⟨B,8,none⟩ v8).setCell ⟨B,9,none⟩ v9).heap[B]?=some (.cells #[v0,v1,v2,v3,v4,v5,v6,v7,v8,v9] t (0,0)):=by
 have K:(w.setCell ⟨B,0,none⟩ v0).heap[B]?=some (.cells #[v0,u1,u2,u3,u4,u5,u6,u7,u8,u9] t (0,0)):=heap_setCell_same _ B 0 _ _ v0 h;have E:((w.setCell ⟨B,0,none⟩ v0).setCell ⟨B,1,none⟩ v1).heap[B]?=some (.cells #[v0,v1,u2,u3,u4,u5,u6,u7,u8,u9] t (0,0)):=heap_setCell_same _ B 1 _ _ v1 K;have C:(((w.setCell ⟨B,0,none⟩ v0).setCell ⟨B,1,none⟩ v1).setCell ⟨B,2,none⟩ v2).heap[B]?=some (.cells #[v0,v1,v2,u3,u4,u5,u6,u7,u8,u9] t (0,0)):=heap_setCell_same _ B 2 _ _ v2 E;have L:((((w.setCell ⟨B,0,none⟩ v0).setCell ⟨B,1,none⟩ v1).setCell ⟨B,2,none⟩ v2).setCell ⟨B,3,none⟩ v3).heap[B]?=some (.cells #[v0,v1,v2,v3,u4,u5,u6,u7,u8,u9] t (0,0)):=heap_setCell_same _ B 3 _ _ v3 C;have D:(((((w.setCell ⟨B,0,none⟩ v0).setCell ⟨B,1,none⟩ v1).setCell ⟨B,2,none⟩ v2).setCell ⟨B,3,none⟩ v3).setCell ⟨B,4,none⟩ v4).heap[B]?=some (.cells #[v0,v1,v2,v3,v4,u5,u6,u7,u8,u9] t (0,0)):=heap_setCell_same _ B 4 _ _ v4 L;have M:((((((w.setCell ⟨B,0,none⟩ v0).setCell ⟨B,1,none⟩ v1).setCell ⟨B,2,none⟩ v2).setCell ⟨B,3,none⟩ v3).setCell ⟨B,4,none⟩ v4).setCell ⟨B,5,none⟩ v5).heap[B]?=some (.cells #[v0,v1,v2,v3,v4,v5,u6,u7,u8,u9] t (0,0)):=heap_setCell_same _ B 5 _ _ v5 D;have A:(((((((w.setCell ⟨B,0,none⟩ v0).setCell ⟨B,1,none⟩ v1).setCell ⟨B,2,none⟩ v2).setCell ⟨B,3,none⟩ v3).setCell ⟨B,4,none⟩ v4).setCell ⟨B,5,none⟩ v5).setCell ⟨B,6,none⟩ v6).heap[B]?=some (.cells #[v0,v1,v2,v3,v4,v5,v6,u7,u8,u9] t (0,0)):=heap_setCell_same _ B 6 _ _ v6 M;have F:((((((((w.setCell ⟨B,0,none⟩ v0).setCell ⟨B,1,none⟩ v1).setCell ⟨B,2,none⟩ v2).setCell ⟨B,3,none⟩ v3).setCell ⟨B,4,none⟩ v4).setCell ⟨B,5,none⟩ v5).setCell ⟨B,6,none⟩ v6).setCell ⟨B,7,none⟩ v7).heap[B]?=some (.cells #[v0,v1,v2,v3,v4,v5,v6,v7,u8,u9] t (0,0)):=heap_setCell_same _ B 7 _ _ v7 A;have J:(((((((((w.setCell ⟨B,0,none⟩ v0).setCell ⟨B,1,none⟩ v1).setCell ⟨B,2,none⟩ v2).setCell ⟨B,3,none⟩ v3).setCell ⟨B,4,none⟩ v4).setCell ⟨B,5,none⟩ v5).setCell ⟨B,6,none⟩ v6).setCell ⟨B,7,none⟩ v7).setCell ⟨B,8,none⟩ v8).heap[B]?=some (.cells #[v0,v1,v2,v3,v4,v5,v6,v7,v8,u9] t (0,0)):=heap_setCell_same _ B 8 _ _ v8 F
 have I:((((((((((w.setCell ⟨B,0,none⟩ v0).setCell ⟨B,1,none⟩ v1).setCell ⟨B,2,none⟩ v2).setCell ⟨B,3,none⟩ v3).setCell ⟨B,4,none⟩ v4).setCell ⟨B,5,none⟩ v5).setCell ⟨B,6,none⟩ v6).setCell ⟨B,7,none⟩ v7).setCell ⟨B,8,none⟩ v8).setCell ⟨B,9,none⟩ v9).heap[B]?=some (.cells #[v0,v1,v2,v3,v4,v5,v6,v7,v8,v9] t (0,0)):=heap_setCell_same _ B 9 _ _ v9 J;exact I
theorem Below.set10{b:Nat}{W w:World}{B:Nat}(h:Below b W w)(hp:b≤B)(v0 v1 v2 v3 v4 v5 v6 v7 v8 v9:Value):
  Below b W ((((((((((w.setCell ⟨B,0,none⟩ v0).setCell ⟨B,1,none⟩ v1).setCell ⟨B,2,none⟩ v2).setCell ⟨B,3,none⟩ v3).setCell ⟨B,4,none⟩ v4).setCell ⟨B,5,none⟩ v5).setCell ⟨B,6,none⟩ v6).setCell ⟨B,7,none⟩ v7).setCell ⟨B,8,none⟩ v8).setCell ⟨B,9,none⟩ v9):=
 (((((((((h.setCell hp v0).setCell hp v1).setCell hp v2).setCell hp v3).setCell hp v4).setCell hp v5).setCell hp v6).setCell hp v7).setCell hp v8).setCell hp v9
open Go.Proofs.Tryz
theorem z0w(v:Value)(t:Tx)(h:Int)(w:World)(hT:IsTx w v t)(r1:t.info.length*24≤140737488355328)(r2:t.data.length*24≤140737488355328)(hg:za9 t=false):
  Calls prog 81 #[v,.int .i64 h] w fun e w'=>∃v2,e=.returned (.tuple #[v2,.int .i64 (zc7 t h)])∧IsTx w' v2 (zb5 t h)∧Below w.heap.size w w'∧(v2=v∨za2 w.heap.size v2 (zb5 t h)):=by
 have K:=zaa hT;obtain⟨a,c,j,X,r,d,rfl,N,i,b,J,C,I⟩:=hT;have N1:=zaa J;have N2:=zaa C;have N3:=zaa I;clear N i b J C I;go_enter func81,ntmps81;go_wp2_with fail;refine(zb8 _ t _ (K.o.below (zae (zab _ _) (zab _ _))) r1 r2).mono ?_;rintro e E ⟨rfl,A⟩;have A1:w.heap.size+1<E.heap.size:=by have:=A.size;simp at this;omega
 have A0:w.heap.size<E.heap.size:=by omega
 have L:=zaa (zhm A);have R:=zaa (zh4 A);obtain⟨⟨x0,x1,x2,x3,x4,x5,x6,x7,x8,x9⟩,_⟩:=zaj L.o;obtain⟨⟨m,l,U,O,S,Z,Y,M,Q,k⟩,ff⟩:=zaj R.o;have B:=zaa (zae (zae (zab _ _) (zab _ _)) A);clear A;have D:Hid (zc7 t h=2):=by rw[Hid,zc7,if_pos hg]
 have F:Hid (zb5 t h=t):=by rw[Hid,zb5,D.o];rfl
 go_wp2;refine bodyPost_ret (v:=.tuple #[.agg #[.int .i64 t.seq,.slice a t.info.length c,.slice j t.data.length X,.slice r t.rev.length d,.bool t.h0.on,.int .i64 t.h0.left,.bool t.h1.on,.int .i64 t.h1.left,.bool t.h2.on,.int .i64 t.h2.left],.int .i64 2]) (by simp[results,results81,go_sem,m,l,U,O,S,Z,Y,M,Q,k]) rfl ⟨_,by rw[D.o],?_⟩;refine⟨?_,?_,.inl rfl⟩
 ·rw[F.o];refine K.o.below ?_
  repeat refine Below.setCell ?_ (by simp) _
  exact B.o
 ·repeat refine Below.setCell ?_ (by simp) _
  exact B.o
theorem zx1(v:Value)(t:Tx)(h:Int)(w:World)(hT:IsTx w v t)(r1:t.info.length*24≤140737488355328)(r2:t.data.length*24≤140737488355328)(hg:za9 t=true)(ho:onB t h=false):
  Calls prog 81 #[v,.int .i64 h] w fun e w'=>∃v2,e=.returned (.tuple #[v2,.int .i64 (zc7 t h)])∧IsTx w' v2 (zb5 t h)∧Below w.heap.size w w'∧(v2=v∨za2 w.heap.size v2 (zb5 t h)):=by
 have O:=zaa hT;obtain⟨a,c,a',c',r,d,rfl,hM,hD,hR,p,Y,m⟩:=hT;have N1:=zaa p;have N2:=zaa Y;have N3:=zaa m;clear hM hD hR p Y m;go_enter func81,ntmps81;go_wp2_with fail;refine(zb8 _ t _ (O.o.below (zae (zab _ _) (zab _ _))) r1 r2).mono ?_;rintro e j ⟨rfl,B⟩;have u:w.heap.size+1<j.heap.size:=by have:=B.size;simp at this;omega
 have N:w.heap.size<j.heap.size:=by omega
 have E:=zaa (zhm B);have K:=zaa (zh4 B);obtain⟨⟨x0,l,x2,b,x4,x5,n,z,q,s⟩,_⟩:=zaj E.o;obtain⟨⟨X,U,M,I,L,R,Q,F,J,S⟩,ff⟩:=zaj K.o;have C:=zaa (zae (zae (zab _ _) (zab _ _)) B);clear B
 have i:Hid (zc7 t h=4):=by
  rw[Hid,zc7,if_neg (by rw[hg];simp),if_pos];by_cases e:0≤h∧h≤2
  ·rw[onB,zbh.2 e,Bool.true_and]at ho;exact .inr (.inr ho)
  ·omega
 have k:Hid (zb5 t h=t):=by rw[Hid,zb5,i.o];rfl
 go_wp2_with fail;refine(zjf _ t h _ (O.o.below C.o)).mono ?_;rintro e y ⟨rfl,A⟩;have A1:w.heap.size+1<y.heap.size:=by have:=A.size;omega
 have A0:w.heap.size<y.heap.size:=by omega
 have x:=zaa (zad A N E.o);have Z:=zaa (zad A u K.o);have D:=zaa (zae C.o A);clear x0 l x2 b x4 x5 n z q s X U M I L R Q F J S ff A E K C;obtain⟨⟨x0,l,x2,b,x4,x5,n,z,q,s⟩,_⟩:=zaj x.o;obtain⟨⟨X,U,M,I,L,R,Q,F,J,S⟩,ff⟩:=zaj Z.o;go_wp2;refine bodyPost_ret (v:=.tuple #[.agg #[.int .i64 t.seq,.slice a t.info.length c,.slice a' t.data.length c',.slice r t.rev.length d,.bool t.h0.on,.int .i64 t.h0.left,.bool t.h1.on,.int .i64 t.h1.left,.bool t.h2.on,.int .i64 t.h2.left],.int .i64 4]) (by simp[results,results81,go_sem,X,U,M,I,L,R,Q,F,J,S]) rfl ⟨_,by rw[i.o],?_⟩;refine⟨?_,?_,.inl rfl⟩
 ·rw[k.o];refine O.o.below ?_
  repeat refine Below.setCell ?_ (by simp) _
  exact D.o
 ·repeat refine Below.setCell ?_ (by simp) _
  exact D.o
theorem z0x(v:Value)(t:Tx)(w:World)(hT:IsTx w v t)(r1:t.info.length*24≤140737488355328)(r2:t.data.length*24≤140737488355328)(hg:za9 t=true)(ho:onB t 0=true):
  Calls prog 81 #[v,.int .i64 0] w fun e w'=>∃v2,e=.returned (.tuple #[v2,.int .i64 (zc7 t 0)])∧IsTx w' v2 (zb5 t 0)∧Below w.heap.size w w'∧(v2=v∨za2 w.heap.size v2 (zb5 t 0)):=by
 have A7:=za3 hg;have s:=zaa hT;obtain⟨a,c,a',c',r,d,rfl,hM,hD,hR,n1,n2,n3⟩:=hT;have N1:=zaa n1;have N2:=zaa n2;have N3:=zaa n3;clear hM hD hR n1 n2 n3;go_enter func81,ntmps81;go_wp2_with fail;refine(zb8 _ t _ (s.o.below (zae (zab _ _) (zab _ _))) r1 r2).mono ?_;rintro e w1 ⟨rfl,E⟩;have A4:w.heap.size+1<w1.heap.size:=by have:=E.size;simp at this;omega
 have q:w.heap.size<w1.heap.size:=by omega
 have n:=zaa (zhm E);have h:=zaa (zh4 E);obtain⟨⟨z,i,x2,p,y,x,k,m,u,l⟩,_⟩:=zaj n.o;obtain⟨⟨Y,L,S,O,R,I,U,M,Q,X⟩,Z⟩:=zaj h.o;have J:=zaa (zae (zae (zab _ _) (zab _ _)) E);clear E
 have HE:Hid (zc7 t 0=0):=by
  rw[Hid,zc7,if_neg (by rw[hg];simp),if_neg];have:(zeu t 0).on=true:=ho;rw[this];simp
 have A0:Hid (zb5 t 0={t with h0:=⟨false,0⟩}):=by rw[Hid,zb5,HE.o];rfl
 go_wp2_with fail;refine(zjf _ t 0 _ (s.o.below J.o)).mono ?_;rintro e F ⟨rfl,D⟩;have A3:w.heap.size+1<F.heap.size:=by have:=D.size;omega
 have A5:w.heap.size<F.heap.size:=by omega
 have A2:=zaa (zad D q n.o);have b:=zaa (zad D A4 h.o);have K:=zaa (zae J.o D);clear z i x2 p y x k m u l Y L S O R I U M Q X Z D n h J;obtain⟨⟨z,i,x2,p,y,x,k,m,u,l⟩,_⟩:=zaj A2.o;obtain⟨⟨Y,L,S,O,R,I,U,M,Q,X⟩,Z⟩:=zaj b.o;go_wp2_with fail;refine(zcw _ t _ (s.o.below K.o) (by omega) (by omega) (by omega)).mono ?_;rintro e w4 ⟨va,vd,vr,rfl,A,N⟩;obtain⟨a1,c1,rfl,_,_⟩:=SegC.of_owns A.2.1;obtain⟨a2,c2,rfl,_,_⟩:=SegC.of_owns A.2.2.1;obtain⟨a3,c3,rfl,_,_⟩:=SegI.of_owns A.2.2.2;have C:=zaa A;have A6:=A.lt;have A1:=zaa (zae K.o N);have j:=zaa (zad N A3 b.o);clear z i x2 p y x k m u l Y L S O R I U M Q X Z N A K;obtain⟨⟨Y,L,S,O,R,I,U,M,Q,X⟩,Z⟩:=zaj j.o;obtain⟨⟨z0,z1,z2,z3,z4,z5,z6,z7,z8,z9⟩,gf⟩:=zaj C.o.1;have HX:Hid (BoxTx ((w4.setCell ⟨F.heap.size,4,none⟩ (.bool false)).setCell ⟨F.heap.size,5,none⟩ (.int .i64 0)) F.heap.size {t with h0:=⟨false,0⟩} (.slice a1 t.info.length c1) (.slice a2 t.data.length c2) (.slice a3 t.rev.length c3)):=(C.o.set (t':={t with h0:=⟨false,t.h0.left⟩}) 4 (.bool false) rfl C.o.2.1 C.o.2.2.1 C.o.2.2.2).set (t':={t with h0:=⟨false,0⟩}) 5 (.int .i64 0) rfl (ownsRow_setCell_below C.o.2.1 (by simp) _) (ownsRow_setCell_below C.o.2.2.1 (by simp) _) (ownsRow_setCell_below C.o.2.2.2 (by simp) _);go_wp2;refine bodyPost_ret (v:=.tuple #[.agg #[.int .i64 t.seq,.slice a1 t.info.length c1,.slice a2 t.data.length c2,.slice a3 t.rev.length c3,.bool false,.int .i64 0,.bool t.h1.on,.int .i64 t.h1.left,.bool t.h2.on,.int .i64 t.h2.left],.int .i64 0]) (by simp[results,results81,go_sem,Y,L,S,O,R,I,U,M,Q,X]) rfl ⟨_,by rw[HE.o],?_⟩;rw[A0.o];refine⟨?_,?_,.inr (HX.o.fromR (t:={t with h0:=⟨false,0⟩}) (by omega))⟩
 ·refine BoxTx.is (t:={t with h0:=⟨false,0⟩}) (B:=F.heap.size) ?_ N1.o N2.o N3.o
  repeat refine BoxTx.other ?_ (by simp;omega) _
  exact HX.o
 ·repeat refine Below.setCell ?_ (by simp;try omega) _
  exact A1.o
theorem z0y(v:Value)(t:Tx)(w:World)(hT:IsTx w v t)(r1:t.info.length*24≤140737488355328)(r2:t.data.length*24≤140737488355328)(hg:za9 t=true)(ho:onB t 1=true):
  Calls prog 81 #[v,.int .i64 1] w fun e w'=>∃v2,e=.returned (.tuple #[v2,.int .i64 (zc7 t 1)])∧IsTx w' v2 (zb5 t 1)∧Below w.heap.size w w'∧(v2=v∨za2 w.heap.size v2 (zb5 t 1)):=by
 have A7:=za3 hg;have s:=zaa hT;obtain⟨a,c,a',c',r,d,rfl,hM,hD,hR,n1,n2,n3⟩:=hT;have N1:=zaa n1;have N2:=zaa n2;have N3:=zaa n3;clear hM hD hR n1 n2 n3;go_enter func81,ntmps81;go_wp2_with fail;refine(zb8 _ t _ (s.o.below (zae (zab _ _) (zab _ _))) r1 r2).mono ?_;rintro e w1 ⟨rfl,E⟩;have A4:w.heap.size+1<w1.heap.size:=by have:=E.size;simp at this;omega
 have q:w.heap.size<w1.heap.size:=by omega
 have n:=zaa (zhm E);have h:=zaa (zh4 E);obtain⟨⟨z,i,x2,p,y,x,k,m,u,l⟩,_⟩:=zaj n.o;obtain⟨⟨Y,L,S,O,R,I,U,M,Q,X⟩,Z⟩:=zaj h.o;have J:=zaa (zae (zae (zab _ _) (zab _ _)) E);clear E
 have HE:Hid (zc7 t 1=0):=by
  rw[Hid,zc7,if_neg (by rw[hg];simp),if_neg];have:(zeu t 1).on=true:=ho;rw[this];simp
 have A0:Hid (zb5 t 1={t with h1:=⟨false,0⟩}):=by rw[Hid,zb5,HE.o];rfl
 go_wp2_with fail;refine(zjf _ t 1 _ (s.o.below J.o)).mono ?_;rintro e F ⟨rfl,D⟩;have A3:w.heap.size+1<F.heap.size:=by have:=D.size;omega
 have A5:w.heap.size<F.heap.size:=by omega
 have A2:=zaa (zad D q n.o);have b:=zaa (zad D A4 h.o);have K:=zaa (zae J.o D);clear z i x2 p y x k m u l Y L S O R I U M Q X Z D n h J;obtain⟨⟨z,i,x2,p,y,x,k,m,u,l⟩,_⟩:=zaj A2.o;obtain⟨⟨Y,L,S,O,R,I,U,M,Q,X⟩,Z⟩:=zaj b.o;go_wp2_with fail;refine(zcw _ t _ (s.o.below K.o) (by omega) (by omega) (by omega)).mono ?_;rintro e w4 ⟨va,vd,vr,rfl,A,N⟩;obtain⟨a1,c1,rfl,_,_⟩:=SegC.of_owns A.2.1;obtain⟨a2,c2,rfl,_,_⟩:=SegC.of_owns A.2.2.1;obtain⟨a3,c3,rfl,_,_⟩:=SegI.of_owns A.2.2.2;have C:=zaa A;have A6:=A.lt;have A1:=zaa (zae K.o N);have j:=zaa (zad N A3 b.o);clear z i x2 p y x k m u l Y L S O R I U M Q X Z N A K;obtain⟨⟨Y,L,S,O,R,I,U,M,Q,X⟩,Z⟩:=zaj j.o;obtain⟨⟨z0,z1,z2,z3,z4,z5,z6,z7,z8,z9⟩,gf⟩:=zaj C.o.1;have HX:Hid (BoxTx ((w4.setCell ⟨F.heap.size,6,none⟩ (.bool false)).setCell ⟨F.heap.size,7,none⟩ (.int .i64 0)) F.heap.size {t with h1:=⟨false,0⟩} (.slice a1 t.info.length c1) (.slice a2 t.data.length c2) (.slice a3 t.rev.length c3)):=(C.o.set (t':={t with h1:=⟨false,t.h1.left⟩}) 6 (.bool false) rfl C.o.2.1 C.o.2.2.1 C.o.2.2.2).set (t':={t with h1:=⟨false,0⟩}) 7 (.int .i64 0) rfl (ownsRow_setCell_below C.o.2.1 (by simp) _) (ownsRow_setCell_below C.o.2.2.1 (by simp) _) (ownsRow_setCell_below C.o.2.2.2 (by simp) _);go_wp2;refine bodyPost_ret (v:=.tuple #[.agg #[.int .i64 t.seq,.slice a1 t.info.length c1,.slice a2 t.data.length c2,.slice a3 t.rev.length c3,.bool t.h0.on,.int .i64 t.h0.left,.bool false,.int .i64 0,.bool t.h2.on,.int .i64 t.h2.left],.int .i64 0]) (by simp[results,results81,go_sem,Y,L,S,O,R,I,U,M,Q,X]) rfl ⟨_,by rw[HE.o],?_⟩;rw[A0.o];refine⟨?_,?_,.inr (HX.o.fromR (t:={t with h1:=⟨false,0⟩}) (by omega))⟩
 ·refine BoxTx.is (t:={t with h1:=⟨false,0⟩}) (B:=F.heap.size) ?_ N1.o N2.o N3.o
  repeat refine BoxTx.other ?_ (by simp;omega) _
  exact HX.o
 ·repeat refine Below.setCell ?_ (by simp;try omega) _
  exact A1.o
theorem z0z(v:Value)(t:Tx)(w:World)(hT:IsTx w v t)(r1:t.info.length*24≤140737488355328)(r2:t.data.length*24≤140737488355328)(hg:za9 t=true)(ho:onB t 2=true):
  Calls prog 81 #[v,.int .i64 2] w fun e w'=>∃v2,e=.returned (.tuple #[v2,.int .i64 (zc7 t 2)])∧IsTx w' v2 (zb5 t 2)∧Below w.heap.size w w'∧(v2=v∨za2 w.heap.size v2 (zb5 t 2)):=by
 have A7:=za3 hg;have s:=zaa hT;obtain⟨a,c,a',c',r,d,rfl,hM,hD,hR,n1,n2,n3⟩:=hT;have N1:=zaa n1;have N2:=zaa n2;have N3:=zaa n3;clear hM hD hR n1 n2 n3;go_enter func81,ntmps81;go_wp2_with fail;refine(zb8 _ t _ (s.o.below (zae (zab _ _) (zab _ _))) r1 r2).mono ?_;rintro e w1 ⟨rfl,E⟩;have A4:w.heap.size+1<w1.heap.size:=by have:=E.size;simp at this;omega
 have q:w.heap.size<w1.heap.size:=by omega
 have n:=zaa (zhm E);have h:=zaa (zh4 E);obtain⟨⟨z,i,x2,p,y,x,k,m,u,l⟩,_⟩:=zaj n.o;obtain⟨⟨Y,L,S,O,R,I,U,M,Q,X⟩,Z⟩:=zaj h.o;have J:=zaa (zae (zae (zab _ _) (zab _ _)) E);clear E
 have HE:Hid (zc7 t 2=0):=by
  rw[Hid,zc7,if_neg (by rw[hg];simp),if_neg];have:(zeu t 2).on=true:=ho;rw[this];simp
 have A0:Hid (zb5 t 2={t with h2:=⟨false,0⟩}):=by rw[Hid,zb5,HE.o];rfl
 go_wp2_with fail;refine(zjf _ t 2 _ (s.o.below J.o)).mono ?_;rintro e F ⟨rfl,D⟩;have A3:w.heap.size+1<F.heap.size:=by have:=D.size;omega
 have A5:w.heap.size<F.heap.size:=by omega
 have A2:=zaa (zad D q n.o);have b:=zaa (zad D A4 h.o);have K:=zaa (zae J.o D);clear z i x2 p y x k m u l Y L S O R I U M Q X Z D n h J;obtain⟨⟨z,i,x2,p,y,x,k,m,u,l⟩,_⟩:=zaj A2.o;obtain⟨⟨Y,L,S,O,R,I,U,M,Q,X⟩,Z⟩:=zaj b.o;go_wp2_with fail;refine(zcw _ t _ (s.o.below K.o) (by omega) (by omega) (by omega)).mono ?_;rintro e w4 ⟨va,vd,vr,rfl,A,N⟩;obtain⟨a1,c1,rfl,_,_⟩:=SegC.of_owns A.2.1;obtain⟨a2,c2,rfl,_,_⟩:=SegC.of_owns A.2.2.1;obtain⟨a3,c3,rfl,_,_⟩:=SegI.of_owns A.2.2.2;have C:=zaa A;have A6:=A.lt;have A1:=zaa (zae K.o N);have j:=zaa (zad N A3 b.o);clear z i x2 p y x k m u l Y L S O R I U M Q X Z N A K;obtain⟨⟨Y,L,S,O,R,I,U,M,Q,X⟩,Z⟩:=zaj j.o;obtain⟨⟨z0,z1,z2,z3,z4,z5,z6,z7,z8,z9⟩,gf⟩:=zaj C.o.1;have HX:Hid (BoxTx ((w4.setCell ⟨F.heap.size,8,none⟩ (.bool false)).setCell ⟨F.heap.size,9,none⟩ (.int .i64 0)) F.heap.size {t with h2:=⟨false,0⟩} (.slice a1 t.info.length c1) (.slice a2 t.data.length c2) (.slice a3 t.rev.length c3)):=(C.o.set (t':={t with h2:=⟨false,t.h2.left⟩}) 8 (.bool false) rfl C.o.2.1 C.o.2.2.1 C.o.2.2.2).set (t':={t with h2:=⟨false,0⟩}) 9 (.int .i64 0) rfl (ownsRow_setCell_below C.o.2.1 (by simp) _) (ownsRow_setCell_below C.o.2.2.1 (by simp) _) (ownsRow_setCell_below C.o.2.2.2 (by simp) _);go_wp2;refine bodyPost_ret (v:=.tuple #[.agg #[.int .i64 t.seq,.slice a1 t.info.length c1,.slice a2 t.data.length c2,.slice a3 t.rev.length c3,.bool t.h0.on,.int .i64 t.h0.left,.bool t.h1.on,.int .i64 t.h1.left,.bool false,.int .i64 0],.int .i64 0]) (by simp[results,results81,go_sem,Y,L,S,O,R,I,U,M,Q,X]) rfl ⟨_,by rw[HE.o],?_⟩;rw[A0.o];refine⟨?_,?_,.inr (HX.o.fromR (t:={t with h2:=⟨false,0⟩}) (by omega))⟩
 ·refine BoxTx.is (t:={t with h2:=⟨false,0⟩}) (B:=F.heap.size) ?_ N1.o N2.o N3.o
  repeat refine BoxTx.other ?_ (by simp;omega) _
  exact HX.o
 ·repeat refine Below.setCell ?_ (by simp;try omega) _
  exact A1.o
theorem zx2(v:Value)(t:Tx)(h:Int)(w:World)(hT:IsTx w v t)(r1:t.info.length*24≤140737488355328)(r2:t.data.length*24≤140737488355328):
  Calls prog 81 #[v,.int .i64 h] w fun e w'=>∃v2,e=.returned (.tuple #[v2,.int .i64 (zc7 t h)])∧IsTx w' v2 (zb5 t h)∧Below w.heap.size w w'∧(v2=v∨za2 w.heap.size v2 (zb5 t h)):=by
 cases hg:za9 t with
 |false=>exact z0w v t h w hT r1 r2 hg
 |true=>
  cases ho:onB t h with
  |false=>exact zx1 v t h w hT r1 r2 hg ho
  |true=>
   have B:zao h 0 2=true:=by rw[onB]at ho;exact(Bool.and_eq_true _ _▸ho:_∧_).1
   have hr:=zbh.1 B;have A:h=0∨h=1∨h=2:=by omega
   rcases A with rfl|rfl|rfl
   ·exact z0x v t w hT r1 r2 hg ho
   ·exact z0y v t w hT r1 r2 hg ho
   ·exact z0z v t w hT r1 r2 hg ho
