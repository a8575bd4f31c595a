/-
  
-/
import Derived.Test.YtjnpndfpajjihacGreatGrTopSettles30
import Derived.Test.YtjnpndfpajjihacGreatGrTopSettles36
import Derived.Test.YtjnpndfpajjihacGreatGrTopSettles15
set_option maxRecDepth 100000
set_option maxHeartbeats 40000000
namespace Go.Proofs.YtjnpndfpajjihacGreat
open Go.RowKit
theorem zu7(n:Int)(h: -9223372036854775808≤n∧n≤9223372036854775807):wrap64 n=n:=by unfold wrap64;omega
theorem zlz{t:Tx}(h:za9 t=true)(k:Int):hdB (zel t k)=true:=by
 have:=((za3 t).1 h).2.2.2.2;unfold zel;split
 ·exact this.1
 ·split
  ·exact this.2.1
  ·exact this.2.2
theorem zcv{t:Tx}(h:za9 t=true):zb0 t=(t.info.length:Int)+(t.rev.length:Int)+t.h0.left+t.h1.left+t.h2.left∧0≤zb0 t∧zb0 t≤96:=by
 have hs:=zaw h;have A:=((za3 t).1 h).2.2.2.2;have a0:=(zdt _).1 A.1;have a1:=(zdt _).1 A.2.1;have a2:=(zdt _).1 A.2.2
 have e:zb0 t=(t.info.length:Int)+(t.rev.length:Int)+t.h0.left+t.h1.left+t.h2.left:=by
  unfold zb0;rw[zu7 ((t.info.length:Int)+(t.rev.length:Int)) (by omega),zu7 ((t.info.length:Int)+(t.rev.length:Int)+t.h0.left) (by omega),zu7 ((t.info.length:Int)+(t.rev.length:Int)+t.h0.left+t.h1.left) (by omega),zu7 _ (by omega)]
 rw[e];omega
theorem zch(v:Value)(t:Tx)(h b:Int)(w:World)(hT:IsTx w v t)(r1:t.info.length*24≤140737488355328)(r2:t.data.length*24≤140737488355328):
  Calls Tryz.prog 152 #[v,.int .i64 h,.int .i64 b] w fun e w'=>e=.returned (.int .i64 (reachE t h b))∧Below w.heap.size w w':=by
 have K:=zaa hT;obtain⟨a,c,a',c',r,d,rfl,N,Q,i,O,S,l⟩:=hT;clear N Q i O S l;go_enter Tryz.func152,Tryz.ntmps152;go_wp2_with fail;refine(zb6 _ t _ (K.o.below (zab _ _)) r1 r2).mono ?_;rintro e U ⟨rfl,B⟩;have A0:w.heap.size<U.heap.size:=by have:=B.size;simp at this;omega
 obtain⟨⟨R,k,Z,m,j,M,X,L,Y,n⟩,_⟩:=zaj (z3v B);have I:=zaa (zae (zab _ _) B);clear B
 cases hg:za9 t with
 |false=>
  have A:Hid (reachE t h b=2):=by rw[Hid,reachE,if_pos hg]
  go_wp2;go_ret;exact⟨by rw[A.o];rfl,I.o⟩
 |true=>
  have J:=zaa hg;go_wp2_with fail;refine(zje _ t h _ (K.o.below I.o)).mono ?_;rintro e w2 ⟨rfl,F⟩;have D:=zaa (zae I.o F);clear F R k Z m j M X L Y n hg
  cases ho:onB t h with
  |false=>
   have A:Hid (reachE t h b=4):=by
    rw[Hid,reachE,if_neg (by rw[J.o];simp),if_pos];rw[onB]at ho;by_cases E:0≤h∧h≤2
    ·rw[zbf.2 E,Bool.true_and]at ho;exact .inr (.inr (.inl ho))
    ·omega
   go_wp2;go_ret;exact⟨by rw[A.o];rfl,D.o⟩
  |true=>
   have C:zap h 0 2=true∧(zel t h).on=true:=by rw[onB]at ho;simpa using ho
   have E:=zbf.1 C.1
   cases hq:zap b 0 11 with
   |false=>
    have A:Hid (reachE t h b=4):=by
     rw[Hid,reachE,if_neg (by rw[J.o];simp),if_pos];by_cases hb:0≤b∧b≤11
     ·rw[zbf.2 hb]at hq;cases hq
     ·omega
    clear C E;go_wp2_with (go_at_call 59;refine(zaz _ _ _ _).mono ?_;rintro e w' ⟨rfl,rfl⟩);go_ret;exact⟨by rw[A.o];rfl,D.o⟩
   |true=>
    have hb:=zbf.1 hq
    have A:Hid (reachE t h b=0):=by
     rw[Hid,reachE,if_neg (by rw[J.o];simp),if_neg];rw[C.2];simp;omega
    clear C E hb;go_wp2_with (go_at_call 59;refine(zaz _ _ _ _).mono ?_;rintro e w' ⟨rfl,rfl⟩);go_ret;exact⟨by rw[A.o];rfl,D.o⟩
theorem zcd{t:Tx}{h b:Int}(e:reachE t h b=0):za9 t=true∧(h=0∨h=1∨h=2)∧(zel t h).on=true∧0≤b∧b≤11:=by
 unfold reachE at e
 cases hg:za9 t with
 |false=>rw[if_pos hg]at e;cases e
 |true=>
  rw[if_neg (by rw[hg];simp)]at e;by_cases hc:h<0∨2<h∨(zel t h).on=false∨b<0∨11<b
  ·rw[if_pos hc]at e;cases e
  ·have A:(zel t h).on=true:=by cases hh:(zel t h).on;exact absurd (.inr (.inr (.inl hh))) hc;rfl
   refine⟨rfl,by omega,A,by omega,by omega⟩
theorem zgi{l:List Int}(h:zbl l=true):l.Nodup:=by
 rw[za5]at h;exact List.Pairwise.imp (fun h=>by simp only[id]at h;omega) h.2
def zz0 (t:Tx):Prop:=(∀x∈blksOf t.info,x∉blksOf t.data∧x∉t.rev)∧∀x∈blksOf t.data,x∉t.rev
theorem zno{t:Tx}(h1:zbl (blksOf t.info)=true)(h2:zbl (blksOf t.data)=true)(h3:zbl t.rev=true):(zks t).Nodup↔zz0 t:=by
 rw[zks,List.nodup_append,List.nodup_append];constructor
 ·rintro⟨_,⟨_,_,a⟩,b⟩;refine⟨fun x hx=>⟨fun e=>b x hx x (List.mem_append.2 (.inl e)) rfl,fun e=>b x hx x (List.mem_append.2 (.inr e)) rfl⟩,fun x hx e=>a x hx x e rfl⟩
 ·rintro⟨a,b⟩;refine⟨zgi h1,⟨zgi h2,zgi h3,fun x hx y hy e=>b x hx (e▸hy)⟩,fun x hx y hy e=>?_⟩;rcases List.mem_append.1 hy with hy|hy
  ·exact(a x hx).1 (e▸hy)
  ·exact(a x hx).2 (e▸hy)
theorem zoy{l:List (Int×ByteArray)}{b:Int}:b∈blksOf l↔(zai b l).isSome=true:=by
 rw[zk6,List.any_eq_true,blksOf,List.mem_map];constructor
 ·rintro⟨x,A,rfl⟩;exact⟨x,A,by simp⟩
 ·rintro⟨x,A,e⟩;exact⟨x,A,by simpa using e⟩
theorem zei{l:List Int}{b:Int}:b∈l↔za7 l b=true:=by
 rw[za7,List.any_eq_true];constructor
 ·intro h;exact⟨b,h,by simp⟩
 ·rintro⟨x,A,e⟩;have:x=b:=by simpa using e
  rw[←this];exact A
theorem zjf{l:List (Int×ByteArray)}{b y:Int}{s:ByteArray}:y∈blksOf (zbj (·.1) l b (b,s))↔y=b∨(y∈blksOf l∧y≠b):=by
 simp only[blksOf,List.mem_map];constructor
 ·rintro⟨x,C,rfl⟩;rcases zfo.1 C with rfl|⟨A,B⟩
  ·exact .inl rfl
  ·exact .inr ⟨⟨x,A,rfl⟩,B⟩
 ·rintro(rfl|⟨⟨x,A,rfl⟩,B⟩)
  ·exact⟨_,zfo.2 (.inl rfl),rfl⟩
  ·exact⟨x,zfo.2 (.inr ⟨A,B⟩),rfl⟩
theorem zhe{l:List (Int×ByteArray)}{b y:Int}:y∈blksOf (zay (·.1) l b)↔y∈blksOf l∧y≠b:=by
 simp only[blksOf,List.mem_map];constructor
 ·rintro⟨x,A,rfl⟩;have:=zeb.1 A;exact⟨⟨x,this.1,rfl⟩,this.2⟩
 ·rintro⟨⟨x,B,rfl⟩,C⟩;exact⟨x,zeb.2 ⟨B,C⟩,rfl⟩
theorem zqy{l:List (Int×ByteArray)}(h:zbl (blksOf l)=true){b:Int}(h0:0≤b)(h1:b≤11)(s:ByteArray):zbl (blksOf (zbj (·.1) l b (b,s)))=true:=by
 have A:=(za5 _).1 h;rw[za5];refine⟨fun y hy=>?_,?_⟩
 ·rcases zjf.1 hy with rfl|⟨e,_⟩
  ·exact⟨h0,h1⟩
  ·exact A.1 y e
 ·rw[blksOf,zfr]at A⊢;exact zuq A.2 rfl
theorem zl0{l:List (Int×ByteArray)}(h:zbl (blksOf l)=true)(b:Int):zbl (blksOf (zay (·.1) l b))=true:=by
 have A:=(za5 _).1 h;rw[za5];refine⟨fun y hy=>A.1 y (zhe.1 hy).1,?_⟩;rw[blksOf,zfr]at A⊢;exact zsg A.2 b
theorem zwy{l:List Int}(h:zbl l=true){b:Int}(h0:0≤b)(h1:b≤11):zbl (zbj id l b b)=true:=by
 rw[za5]at h⊢;refine⟨fun y hy=>?_,zuq h.2 rfl⟩;rcases zfo.1 hy with rfl|⟨e,_⟩
 ·exact⟨h0,h1⟩
 ·exact h.1 y e
theorem ztg{l:List Int}(h:zbl l=true)(b:Int):zbl (zay id l b)=true:=by
 rw[za5]at h⊢;exact⟨fun y hy=>h.1 y (zeb.1 hy).1,zsg h.2 b⟩
theorem zu8{l:List (Int×ByteArray)}(h:zb5 l=true)(b:Int){s:ByteArray}(hs:zba s=true):zb5 (zbj (·.1) l b (b,s))=true:=by
 unfold zb5 at h⊢;rw[List.all_eq_true]at h⊢;intro x A;rcases zfo.1 A with rfl|⟨e,_⟩
 ·exact hs
 ·exact h x e
theorem znp{l:List (Int×ByteArray)}(h:zb5 l=true)(b:Int):zb5 (zay (·.1) l b)=true:=by
 unfold zb5 at h⊢;rw[List.all_eq_true]at h⊢;intro x A;exact h x (zeb.1 A).1
theorem zhz{α:Type}{key:α→Int}{l:List α}(h:Up key l)(b:Int):(zay key l b).length+(if(l.any fun x=>key x==b)=true then 1 else 0)=l.length:=by
 induction l with
 |nil=>rfl
 |cons x r ih=>
  have C:=List.pairwise_cons.1 h;have D:=ih C.2;have hd:=zsh h b;have E:=zsh C.2 b;rw[E]at D;rw[hd,List.filter_cons,List.any_cons];by_cases e:key x=b
  ·have A:(r.any fun x=>key x==b)=false:=by
    rw[List.any_eq_false];intro y F;have:=C.1 y F;simp;omega
   rw[A]at D;have B:(key x==b)=true:=by simpa using e
   rw[if_neg (by simpa using e),B,A];simp at D⊢;omega
  ·have B:(key x==b)=false:=by simpa using e
   rw[if_pos (by simpa using e),B,Bool.false_or,List.length_cons,List.length_cons];omega
theorem zz1{α:Type}(key:α→Int)(l:List α)(b:Int)(x:α):(zbj key l b x).length=(zay key l b).length+1:=by
 simp[zbj,zay];omega
theorem zu9(l:List (Int×ByteArray))(h:Up (·.1) l)(b:Int)(s:ByteArray):zai b (zbj (·.1) l b (b,s))=some s:=by
 have A:=zgd (zuq h (b:=b) (x:=(b,s)) rfl) b;have B:(zbj (·.1) l b (b,s)).filter (fun y=>decide (y.1=b))=[(b,s)]:=z1w b (b,s) rfl;rw[B]at A
 cases e:zai b (zbj (·.1) l b (b,s)) with
 |none=>rw[e]at A;simp at A
 |some u=>rw[e]at A;simp at A;rw[A]
theorem zqz(l:List (Int×ByteArray))(b:Int):zai b (zay (·.1) l b)=none:=by
 refine zlo ?_;rw[List.any_eq_false];intro x A;have:=(zeb.1 A).2
 simpa using this
theorem zwz(l:List Int)(b:Int):za7 (zay id l b) b=false:=by
 cases e:za7 (zay id l b) b with
 |false=>rfl
 |true=>exact absurd rfl (zeb.1 (zei.2 e)).2
theorem ze7(t:Tx)(h b:Int):(nameT t h b).seq=t.seq:=by
 unfold nameT zfc;split
 ·rfl
 ·split
  ·rfl
  ·split<;>rfl
theorem znq{t:Tx}{h b:Int}(hg:za9 t=true)(hh:h=0∨h=1∨h=2)(hn:nameE t h b=0)(ho:(zel t h).on=true):
  hdB (nameT t h b).h0=true∧hdB (nameT t h b).h1=true∧hdB (nameT t h b).h2=true:=by
 have A:=((za3 t).1 hg).2.2.2.2;unfold nameT;by_cases e:zcq t b=true
 ·rw[if_pos e];exact A
 ·rw[if_neg e];rw[nameE,if_neg e]at hn;have hk:=(zdt _).1 (zlz hg h);have hl:(zel t h).left≠0:=by intro e;rw[if_pos e]at hn;cases hn
  have B:hdB ⟨(zel t h).on,(zel t h).left - 1⟩=true:=(zdt _).2 ⟨by show 0≤(zel t h).left - 1;omega,by show(zel t h).left - 1≤24;omega,fun e=>by rw[ho]at e;cases e⟩;rcases hh with rfl|rfl|rfl
  ·exact⟨B,A.2.1,A.2.2⟩
  ·exact⟨A.1,B,A.2.2⟩
  ·exact⟨A.1,A.2.1,B⟩
theorem zl1(t:Tx)(h b:Int)(hh:h=0∨h=1∨h=2):(nameT t h b).h0.left+(nameT t h b).h1.left+(nameT t h b).h2.left=t.h0.left+t.h1.left+t.h2.left - (if zcq t b=true then 0 else 1):=by
 unfold nameT
 cases zcq t b with
 |true=>simp
 |false=>rcases hh with rfl|rfl|rfl<;>simp[zfc,zel]<;>omega
theorem zjg{t:Tx}{h b:Int}{s:ByteArray}(e:changeE t h b s=0):reachE t h b=0∧zba s=true∧(zai b t.data).isSome=false∧nameE t h b=0:=by
 unfold changeE at e;by_cases h1:reachE t h b=0
 ·rw[if_neg (by simpa using h1)]at e
  cases h2:zba s with
  |false=>rw[if_pos h2]at e;cases e
  |true=>
   rw[if_neg (by rw[h2];simp)]at e
   cases h3:(zai b t.data).isSome with
   |true=>rw[if_pos h3]at e;cases e
   |false=>rw[if_neg (by rw[h3];simp)]at e;exact⟨h1,rfl,rfl,e⟩
 ·rw[if_pos h1]at e;exact absurd e h1
theorem zth{t:Tx}{h b:Int}{s:ByteArray}(e:fillE t h b s=0):reachE t h b=0∧zba s=true∧zcq t b=false:=by
 unfold fillE at e;by_cases h1:reachE t h b=0
 ·rw[if_neg (by simpa using h1)]at e
  cases h2:zba s with
  |false=>rw[if_pos h2]at e;cases e
  |true=>
   rw[if_neg (by rw[h2];simp)]at e
   cases h3:zcq t b with
   |true=>rw[if_pos h3]at e;cases e
   |false=>exact⟨h1,rfl,rfl⟩
 ·rw[if_pos h1]at e;exact absurd e h1
theorem zjh{t:Tx}{h b:Int}(e:revokeE t h b=0):reachE t h b=0∧za7 t.rev b=false∧nameE t h b=0:=by
 unfold revokeE at e;by_cases h1:reachE t h b=0
 ·rw[if_neg (by simpa using h1)]at e
  cases h3:za7 t.rev b with
  |true=>rw[if_pos h3]at e;cases e
  |false=>rw[if_neg (by rw[h3];simp)]at e;exact⟨h1,rfl,e⟩
 ·rw[if_pos h1]at e;exact absurd e h1
theorem zoz{t:Tx}(h1:1≤t.seq∧t.seq≤2147483647)(h2:zb5 t.info=true)(h3:zb5 t.data=true)(h4:zbl (blksOf t.info)=true)(h5:zbl (blksOf t.data)=true)(h6:zbl t.rev=true)(h7:zz0 t)(h8:hdB t.h0=true∧hdB t.h1=true∧hdB t.h2=true):za9 t=true:=
 (za3 t).2 ⟨h1,⟨h2,h3⟩,⟨h4,h5,h6⟩,(zno h4 h5 h6).2 h7,h8⟩
theorem ze8{t:Tx}(h:za9 t=true):zz0 t:=by
 have:=(za3 t).1 h;exact(zno this.2.2.1.1 this.2.2.1.2.1 this.2.2.1.2.2).1 this.2.2.2.1
theorem zkh{t:Tx}{h b:Int}{s:ByteArray}(e:changeE t h b s=0):za9 (ze2 t h b s)=true:=by
 obtain⟨L,K,hd,O⟩:=zjg e;obtain⟨E,M,Q,J,N⟩:=zcd L;have A:=(za3 t).1 E;have D:=ze8 E;refine zoz (t:=ze2 t h b s) ?_ (zu8 A.2.1.1 b K) ?_ (zqy A.2.2.1.1 J N s) ?_ (ztg A.2.2.1.2.2 b) ?_ (znq E M O Q)
 ·show 1≤(nameT t h b).seq∧(nameT t h b).seq≤2147483647;rw[ze7];exact A.1
 ·show zb5 (nameT t h b).data=true;rw[(zet t h b).2.1];exact A.2.1.2
 ·show zbl (blksOf (nameT t h b).data)=true;rw[(zet t h b).2.1];exact A.2.2.1.2.1
 ·have C:(ze2 t h b s).data=t.data:=(zet t h b).2.1;have F:b∉blksOf t.data:=fun e=>by rw[zoy,hd]at e;cases e
  refine⟨fun x hx=>⟨?_,?_⟩,fun x hx=>?_⟩
  ·rw[C];rcases zjf.1 hx with rfl|⟨h1,_⟩
   ·exact F
   ·exact(D.1 x h1).1
  ·intro B;have I:=zeb.1 B;rcases zjf.1 hx with rfl|⟨h1,_⟩
   ·exact I.2 rfl
   ·exact(D.1 x h1).2 I.1
  ·rw[C]at hx;intro B;exact D.2 x hx (zeb.1 B).1
theorem zki{t:Tx}{h b:Int}(e:revokeE t h b=0):za9 (ze3 t h b)=true:=by
 obtain⟨I,hd,L⟩:=zjh e;obtain⟨E,J,M,F,K⟩:=zcd I;have B:=(za3 t).1 E;have D:=ze8 E;refine zoz (t:=ze3 t h b) ?_ (znp B.2.1.1 b) (znp B.2.1.2 b) (zl0 B.2.2.1.1 b) (zl0 B.2.2.1.2.1 b) (zwy B.2.2.1.2.2 F K) ?_ (znq E J L M)
 ·show 1≤(nameT t h b).seq∧(nameT t h b).seq≤2147483647;rw[ze7];exact B.1
 ·refine⟨fun x hx=>⟨?_,?_⟩,fun x hx=>?_⟩
  ·intro A;exact(D.1 x (zhe.1 hx).1).1 (zhe.1 A).1
  ·intro A;have C:=zhe.1 hx;rcases zfo.1 A with rfl|⟨h2,_⟩
   ·exact C.2 rfl
   ·exact(D.1 x C.1).2 h2
  ·intro A;have C:=zhe.1 hx;rcases zfo.1 A with rfl|⟨h2,_⟩
   ·exact C.2 rfl
   ·exact D.2 x C.1 h2
theorem zw0{t:Tx}{h b:Int}{s:ByteArray}(e:fillE t h b s=0):za9 {t with data:=zbj (·.1) t.data b (b,s)}=true:=by
 obtain⟨J,I,hd⟩:=zth e;obtain⟨E,hh,ho,F,K⟩:=zcd J;have B:=(za3 t).1 E;have D:=ze8 E;have C:(zai b t.info).isSome=false∧za7 t.rev b=false:=by rw[zcq]at hd;simpa using hd
 refine zoz (t:={t with data:=zbj (·.1) t.data b (b,s)}) B.1 B.2.1.1 (zu8 B.2.1.2 b I) B.2.2.1.1 (zqy B.2.2.1.2.1 F K s) B.2.2.1.2.2 ?_ B.2.2.2.2;refine⟨fun x hx=>⟨?_,(D.1 x hx).2⟩,fun x hx=>?_⟩
 ·intro A;rcases zjf.1 A with rfl|⟨h2,_⟩
  ·rw[zoy,C.1]at hx;cases hx
  ·exact(D.1 x hx).1 h2
 ·intro A;rcases zjf.1 hx with rfl|⟨h1,_⟩
  ·rw[zei]at A;rw[C.2]at A;cases A
  ·exact D.2 x h1 A
theorem zj0{t:Tx}{h:Int}{x:Hd}(hg:za9 t=true)(hx:hdB x=true):za9 (zfc t h x)=true:=by
 have A:=(za3 t).1 hg;unfold zfc;split
 ·exact(za3 _).2 ⟨A.1,A.2.1,A.2.2.1,A.2.2.2.1,hx,A.2.2.2.2.2⟩
 ·split
  ·exact(za3 _).2 ⟨A.1,A.2.1,A.2.2.1,A.2.2.2.1,A.2.2.2.2.1,hx,A.2.2.2.2.2.2⟩
  ·exact(za3 _).2 ⟨A.1,A.2.1,A.2.2.1,A.2.2.2.1,A.2.2.2.2.1,A.2.2.2.2.2.1,hx⟩
theorem zo0{t:Tx}{h b:Int}{s:ByteArray}(e:changeE t h b s=0):zb0 (ze2 t h b s)=zb0 t:=by
 have F:=zkh e;obtain⟨O,hs,hd,hn⟩:=zjg e;obtain⟨D,J,ho,b0,b1⟩:=zcd O;have E:=(za3 t).1 D;have N:=ze8 D;have u1:Up (·.1) t.info:=(zfr _ _).1 ((za5 _).1 E.2.2.1.1).2;have u3:Up id t.rev:=((za5 _).1 E.2.2.1.2.2).2;rw[(zcv F).1,(zcv D).1];have A:=zhz u1 b;have B:=zhz u3 b;have L:=zz1 (·.1) t.info b (b,s);have M:=zl1 t h b J;have x1:(ze2 t h b s).info.length=(zay (·.1) t.info b).length+1:=L;have x3:(ze2 t h b s).rev.length=(zay id t.rev b).length:=rfl;have C:(ze2 t h b s).h0.left+(ze2 t h b s).h1.left+(ze2 t h b s).h2.left=t.h0.left+t.h1.left+t.h2.left - (if zcq t b=true then 0 else 1):=M;have K:(t.info.any fun x=>x.1==b)=(zai b t.info).isSome:=(zk6 t.info b).symm;have Q:(t.rev.any fun x=>id x==b)=za7 t.rev b:=rfl;rw[K]at A;rw[Q]at B;have I:¬((zai b t.info).isSome=true∧za7 t.rev b=true):=fun⟨e1,e2⟩=>(N.1 b (zoy.2 e1)).2 (zei.2 e2);unfold zcq at C
 cases c1:(zai b t.info).isSome with
 |true=>
  cases c3:za7 t.rev b with
  |true=>exact absurd ⟨c1,c3⟩ I
  |false=>rw[c1]at A;rw[c3]at B;rw[c1]at C;simp at A B C;omega
 |false=>
  cases c3:za7 t.rev b with
  |true=>rw[c1]at A;rw[c3]at B;rw[c1,c3]at C;simp at A B C;omega
  |false=>rw[c1]at A;rw[c3]at B;rw[c1,c3]at C;simp at A B C;omega
theorem zo1{t:Tx}{h b:Int}(e:revokeE t h b=0):zb0 (ze3 t h b)=zb0 t:=by
 have F:=zki e;obtain⟨L,hd,hn⟩:=zjh e;obtain⟨D,I,ho,b0,b1⟩:=zcd L;have E:=(za3 t).1 D;have u1:Up (·.1) t.info:=(zfr _ _).1 ((za5 _).1 E.2.2.1.1).2;have u3:Up id t.rev:=((za5 _).1 E.2.2.1.2.2).2;rw[(zcv F).1,(zcv D).1];have B:=zhz u1 b;have C:=zhz u3 b;have p3:=zz1 id t.rev b b;have K:=zl1 t h b I;have x1:(ze3 t h b).info.length=(zay (·.1) t.info b).length:=rfl;have x3:(ze3 t h b).rev.length=(zay id t.rev b).length+1:=p3;have A:(ze3 t h b).h0.left+(ze3 t h b).h1.left+(ze3 t h b).h2.left=t.h0.left+t.h1.left+t.h2.left - (if zcq t b=true then 0 else 1):=K;have J:(t.info.any fun x=>x.1==b)=(zai b t.info).isSome:=(zk6 t.info b).symm;have M:(t.rev.any fun x=>id x==b)=za7 t.rev b:=rfl;rw[J]at B;rw[M,hd]at C;unfold zcq at A;rw[hd,Bool.or_false]at A
 cases c1:(zai b t.info).isSome with
 |true=>rw[c1]at B;rw[c1]at A;simp at B C A;omega
 |false=>rw[c1]at B;rw[c1]at A;simp at B C A;omega
def zc1 (t:Tx)(k h b n free:Int)(s:ByteArray):Int:=
 if k=0 then zbd t h n free else if k=1 then changeE t h b s else if k=2 then fillE t h b s else if k=3 then revokeE t h b else zcy t h
def zco (t:Tx)(k h b n free:Int)(s:ByteArray):Tx:=
 if k=0 then zau t h n free else if k=1 then zaf t h b s else if k=2 then zao t h b s else if k=3 then zag t h b else zb2 t h
theorem zw2{a b:Int}(h:a≤b):clampN a≤clampN b:=by unfold clampN;split<;>split<;>(try split)<;>(try split)<;>omega
theorem zq1{a b:Int}(h:a≤b):zd4 a≤zd4 b:=by
 have h1:=zw2 h;unfold zd4;generalize clampN a=x at *;generalize clampN b=y at *;have e1:(if 0<x then(1:Int) else 0)≤if 0<y then 1 else 0:=by split<;>split<;>omega
 have e2:(if 10<x then(1:Int) else 0)≤if 10<y then 1 else 0:=by split<;>split<;>omega
 have e3:(if 20<x then(1:Int) else 0)≤if 20<y then 1 else 0:=by split<;>split<;>omega
 omega
theorem zz3{m r a:Int}(hm:0≤m)(hr:0≤r)(hm2:m≤12)(hr2:r≤12)(ha:m+r≤a):zh4 m r=0∧needN m r≤zd4 a:=by
 have A:zh4 m r=0:=by rw[zh4,if_neg];omega
 refine⟨A,?_⟩;have C:zd4 (m+r)≤zd4 a:=zq1 ha;refine Int.le_trans ?_ C;have B:clampN (m+r)=m+r:=by unfold clampN;rw[if_neg (by omega),if_neg (by omega)]
 rw[needN,if_pos A,zd4,B];have e1:(if 0<r then(1:Int) else 0)≤if 0<m+r then 1 else 0:=by split<;>split<;>omega
 have e2:(if 0<m then(1:Int) else 0)≤if 0<m+r then 1 else 0:=by split<;>split<;>omega
 have e3:(if 10<m then(1:Int) else 0)≤if 10<m+r then 1 else 0:=by split<;>split<;>omega
 have e4:0≤if 20<m+r then(1:Int) else 0:=by split<;>omega
 omega
theorem zz4{t:Tx}(h:za9 t=true):zh4 (t.info.length:Int) (t.rev.length:Int)=0∧needN (t.info.length:Int) (t.rev.length:Int)≤zd4 (zb0 t):=by
 have hs:=zaw h;have ha:=zcv h;have A:=((za3 t).1 h).2.2.2.2;have a0:=(zdt _).1 A.1;have a1:=(zdt _).1 A.2.1;have a2:=(zdt _).1 A.2.2;exact zz3 (by omega) (by omega) (by omega) (by omega) (by omega)
theorem zl2(t:Tx)(h:Int)(x:Hd):(zfc t h x).info=t.info∧(zfc t h x).rev=t.rev:=by
 unfold zfc;split
 ·exact⟨rfl,rfl⟩
 ·split<;>exact⟨rfl,rfl⟩
theorem zl3{t:Tx}{h:Int}{x:Hd}(hg:za9 t=true)(hx:hdB x=true):zb0 (zfc t h x)=zb0 t - (zel t h).left+x.left:=by
 have e:=(zcv (zj0 (h:=h) hg hx)).1;have A:=(zcv hg).1;rw[e,A,(zl2 t h x).1,(zl2 t h x).2];unfold zfc zel;split
 ·show _+_+x.left+t.h1.left+t.h2.left=_;omega
 ·split
  ·show _+_+t.h0.left+x.left+t.h2.left=_;omega
  ·show _+_+t.h0.left+t.h1.left+x.left=_;omega
theorem z2n{t:Tx}{h n free:Int}(e:zbd t h n free=0):za9 t=true∧(zel t h).on=false∧(0≤n∧n≤12)∧zb0 t+n≤24∧zd4 (zb0 t+n)≤free:=by
 unfold zbd at e
 cases hg:za9 t with
 |false=>rw[if_pos hg]at e;cases e
 |true=>
  rw[if_neg (by rw[hg];simp)]at e;by_cases h1:h<0∨2<h
  ·rw[if_pos h1]at e;cases e
  ·rw[if_neg h1]at e
   cases ho:(zel t h).on with
   |true=>rw[if_pos ho]at e;cases e
   |false=>
    rw[if_neg (by rw[ho];simp)]at e;by_cases h2:n<0∨12<n
    ·rw[if_pos h2]at e;cases e
    ·rw[if_neg h2]at e;by_cases h3:24<zb0 t+n∨free<zd4 (zb0 t+n)
     ·rw[if_pos h3]at e;cases e
     ·exact⟨rfl,rfl,by omega,by omega,by omega⟩
theorem ztj{t:Tx}{k h b n free:Int}{s:ByteArray}(he:¬zc1 t k h b n free s=0):zco t k h b n free s=t:=by
 unfold zc1 at he;unfold zco;split
 ·rename_i A;rw[if_pos A]at he;rw[zau,if_neg he]
 ·rename_i A;rw[if_neg A]at he;split
  ·rename_i A;rw[if_pos A]at he;rw[zaf,if_neg he]
  ·rename_i A;rw[if_neg A]at he;split
   ·rename_i A;rw[if_pos A]at he;rw[zao,if_neg he]
   ·rename_i A;rw[if_neg A]at he;split
    ·rename_i A;rw[if_pos A]at he;rw[zag,if_neg he]
    ·rename_i A;rw[if_neg A]at he;rw[zb2,if_neg he]
theorem zq2{t:Tx}{k h b n free:Int}{s:ByteArray}(hg:za9 t=true):
  za9 (zco t k h b n free s)=true∧(k≠0→zb0 (zco t k h b n free s)≤zb0 t)∧(zc1 t k h b n free s=0→k=0→zd4 (zb0 (zco t k h b n free s))≤free):=by
 by_cases he:zc1 t k h b n free s=0
 ·have I:=(zdt _).1 (zlz hg h);unfold zc1 at he;unfold zco;split
  ·rename_i A;rw[if_pos A]at he;obtain⟨_,M,K,A0,L⟩:=z2n he;have D:hdB ⟨true,n⟩=true:=(zdt _).2 ⟨K.1,by show n≤24;omega,fun e=>by cases e⟩;have J:(zel t h).left=0:=I.2.2 M;have F:=zl3 (h:=h) hg D;rw[J]at F;rw[zau,if_pos he];refine⟨zj0 hg D,fun e=>absurd A e,fun _ _=>?_⟩;rw[F,show zb0 t - 0+(Hd.mk true n).left=zb0 t+n from by show _ - 0+n=_;omega];exact L
  ·rename_i A;rw[if_neg A]at he;split
   ·rename_i E;rw[if_pos E]at he;rw[zaf,if_pos he];exact⟨zkh he,fun _=>by rw[zo0 he];omega,fun _ e=>absurd e A⟩
   ·rename_i E;rw[if_neg E]at he;split
    ·rename_i B;rw[if_pos B]at he;rw[zao,if_pos he];refine⟨zw0 he,fun _=>?_,fun _ e=>absurd e A⟩;exact Int.le_of_eq rfl
    ·rename_i B;rw[if_neg B]at he;split
     ·rename_i C;rw[if_pos C]at he;rw[zag,if_pos he];exact⟨zki he,fun _=>by rw[zo1 he];omega,fun _ e=>absurd e A⟩
     ·rename_i C;rw[if_neg C]at he;have D:hdB ⟨false,0⟩=true:=rfl;have F:=zl3 (h:=h) hg D;rw[zb2,if_pos he];refine⟨zj0 hg D,fun _=>?_,fun _ e=>absurd e A⟩;rw[F];show zb0 t - (zel t h).left+0≤_;omega
 ·rw[ztj he];exact⟨hg,fun _=>Int.le_refl _,fun e=>absurd e he⟩
open Go.Proofs.Tryz
def zo6 (base:Nat)(v:Value)(t:Tx):Prop:=
 ∃a c a' c' r d,v=.agg #[.int .i64 t.seq,.slice a t.info.length c,.slice a' t.data.length c',.slice r t.rev.length d,.bool t.h0.on,.int .i64 t.h0.left,.bool t.h1.on,.int .i64 t.h1.left,.bool t.h2.on,.int .i64 t.h2.left]∧
  (∀x off,a=some ⟨x,off,none⟩→base≤x)∧(∀x off,a'=some ⟨x,off,none⟩→base≤x)∧∀x off,r=some ⟨x,off,none⟩→base≤x
theorem BoxTx.from{w:World}{B base:Nat}{t:Tx}{va vd vr:Value}(h:BoxTx w B t va vd vr)(hb:base≤B+1):
  zo6 base (.agg #[.int .i64 t.seq,va,vd,vr,.bool t.h0.on,.int .i64 t.h0.left,.bool t.h1.on,.int .i64 t.h1.left,.bool t.h2.on,.int .i64 t.h2.left]) t:=by
 obtain⟨a,c,rfl,_,h1⟩:=SegC.of_owns h.2.1;obtain⟨C,A,rfl,_,h2⟩:=SegC.of_owns h.2.2.1;obtain⟨r,d,rfl,_,D⟩:=SegI.of_owns h.2.2.2;exact⟨a,c,C,A,r,d,rfl,fun x o e=>Nat.le_trans hb (h1 x o e),fun x o e=>Nat.le_trans hb (h2 x o e),fun x o e=>Nat.le_trans hb (D x o e)⟩
def za2 (base:Nat)(v:Value)(t:Tx):Prop:=zo6 base v t∧RoomTx v
theorem zo7{w:World}{base sz k n c:Nat}{e:TypeId}{a:Option Addr}{xs:List Value}(h:w.ownsRow base e sz (.slice a n c) k xs):n≤c:=by
 rcases h.2 with⟨e,_⟩|⟨g,cap,cur,e,_,_,h1,_⟩
 ·simp only[Value.slice.injEq]at e;omega
 ·simp only[Value.slice.injEq]at e;omega
theorem BoxTx.fromR{w:World}{B base:Nat}{t:Tx}{va vd vr:Value}(h:BoxTx w B t va vd vr)(hb:base≤B+1):
  za2 base (.agg #[.int .i64 t.seq,va,vd,vr,.bool t.h0.on,.int .i64 t.h0.left,.bool t.h1.on,.int .i64 t.h1.left,.bool t.h2.on,.int .i64 t.h2.left]) t:=by
 refine⟨h.from hb,?_⟩;obtain⟨_,A,D,C⟩:=h;obtain⟨a,c,rfl,_,_⟩:=SegC.of_owns A;obtain⟨a',c',rfl,_,_⟩:=SegC.of_owns D;obtain⟨r,d,rfl,_,_⟩:=SegI.of_owns C;exact⟨_,_,_,_,_,_,_,_,_,_,_,_,_,_,_,_,rfl,zo7 A,zo7 D,zo7 C⟩
theorem BoxTx.other{w:World}{B:Nat}{t:Tx}{va vd vr:Value}(h:BoxTx w B t va vd vr){p:Addr}(hp:p.block<B)(u:Value):BoxTx (w.setCell p u) B t va vd vr:=
 ⟨(Below.heap_setCell _ _ _ _ (by omega)).trans h.1,ownsRow_setCell_below h.2.1 (by omega) _,ownsRow_setCell_below h.2.2.1 (by omega) _,ownsRow_setCell_below h.2.2.2 (by omega) _⟩
theorem zw8(v:Value)(t:Tx)(h n free:Int)(w:World)(hT:IsTx w v t)(r1:t.info.length*24≤140737488355328)(r2:t.data.length*24≤140737488355328)(hg:za9 t=false):
  Calls prog 80 #[v,.int .i64 h,.int .i64 n,.int .i64 free] w fun e w'=>∃v2,e=.returned (.tuple #[v2,.int .i64 (zbd t h n free)])∧IsTx w' v2 (zau t h n free)∧Below w.heap.size w w'∧(v2=v∨za2 w.heap.size v2 (zau t h n free)):=by
 have I:=zaa hT;obtain⟨a,c,m,X,r,d,rfl,M,N,U,C,D,K⟩:=hT;have N1:=zaa C;have N2:=zaa D;have N3:=zaa K;clear M N U C D K;go_enter func80,ntmps80;go_wp2_with fail;refine(zb6 _ t _ (I.o.below (zae (zab _ _) (zab _ _))) r1 r2).mono ?_;rintro e E ⟨rfl,A⟩;have A1:w.heap.size+1<E.heap.size:=by have:=A.size;simp at this;omega
 have A0:w.heap.size<E.heap.size:=by omega
 have O:=zaa (zhl A);have Q:=zaa (zh3 A);obtain⟨⟨x0,x1,x2,x3,x4,x5,x6,x7,x8,x9⟩,_⟩:=zaj O.o;obtain⟨⟨i,R,b,S,L,Y,k,Z,j,l⟩,ff⟩:=zaj Q.o;have B:=zaa (zae (zae (zab _ _) (zab _ _)) A);clear A;have J:Hid (zbd t h n free=2):=by rw[Hid,zbd,if_pos hg]
 have F:Hid (zau t h n free=t):=by rw[Hid,zau,J.o];rfl
 go_wp2;refine bodyPost_ret (v:=.tuple #[.agg #[.int .i64 t.seq,.slice a t.info.length c,.slice m t.data.length X,.slice r t.rev.length d,.bool t.h0.on,.int .i64 t.h0.left,.bool t.h1.on,.int .i64 t.h1.left,.bool t.h2.on,.int .i64 t.h2.left],.int .i64 2]) (by simp[results,results80,go_sem,i,R,b,S,L,Y,k,Z,j,l]) rfl ⟨_,by rw[J.o],?_⟩;refine⟨?_,?_,.inl rfl⟩
 ·rw[F.o];refine I.o.below ?_
  repeat refine Below.setCell ?_ (by simp) _
  exact B.o
 ·repeat refine Below.setCell ?_ (by simp) _
  exact B.o
theorem ztl(v:Value)(t:Tx)(h n free:Int)(w:World)(hT:IsTx w v t)(r1:t.info.length*24≤140737488355328)(r2:t.data.length*24≤140737488355328)(hg:za9 t=true)(hw:zap h 0 2=false):
  Calls prog 80 #[v,.int .i64 h,.int .i64 n,.int .i64 free] w fun e w'=>∃v2,e=.returned (.tuple #[v2,.int .i64 (zbd t h n free)])∧IsTx w' v2 (zau t h n free)∧Below w.heap.size w w'∧(v2=v∨za2 w.heap.size v2 (zau t h n free)):=by
 have J:=zaa hT;obtain⟨a,c,p,Y,r,d,rfl,N,O,X,D,E,L⟩:=hT;have N1:=zaa D;have N2:=zaa E;have N3:=zaa L;clear N O X D E L;go_enter func80,ntmps80;go_wp2_with fail;refine(zb6 _ t _ (J.o.below (zae (zab _ _) (zab _ _))) r1 r2).mono ?_;rintro e F ⟨rfl,A⟩;have A1:w.heap.size+1<F.heap.size:=by have:=A.size;simp at this;omega
 have A0:w.heap.size<F.heap.size:=by omega
 have Q:=zaa (zhl A);have R:=zaa (zh3 A);obtain⟨⟨x0,x1,x2,x3,x4,x5,x6,x7,x8,x9⟩,_⟩:=zaj Q.o;obtain⟨⟨j,S,i,U,M,Z,l,b,k,m⟩,ff⟩:=zaj R.o;have B:=zaa (zae (zae (zab _ _) (zab _ _)) A);clear A
 have C:h<0∨2<h:=by
  by_cases e:0≤h∧h≤2
  ·rw[zbf.2 e]at hw;cases hw
  ·omega
 have K:Hid (zbd t h n free=4):=by rw[Hid,zbd,if_neg (by rw[hg];simp),if_pos C]
 have I:Hid (zau t h n free=t):=by rw[Hid,zau,K.o];rfl
 clear C;go_wp2_with (go_at_call 117;refine(zbn _ _).mono ?_;rintro e w' ⟨rfl,rfl⟩);refine bodyPost_ret (v:=.tuple #[.agg #[.int .i64 t.seq,.slice a t.info.length c,.slice p t.data.length Y,.slice r t.rev.length d,.bool t.h0.on,.int .i64 t.h0.left,.bool t.h1.on,.int .i64 t.h1.left,.bool t.h2.on,.int .i64 t.h2.left],.int .i64 4]) (by simp[results,results80,go_sem,j,S,i,U,M,Z,l,b,k,m]) rfl ⟨_,by rw[K.o],?_⟩;refine⟨?_,?_,.inl rfl⟩
 ·rw[I.o];refine J.o.below ?_
  repeat refine Below.setCell ?_ (by simp) _
  exact B.o
 ·repeat refine Below.setCell ?_ (by simp) _
  exact B.o
theorem zw9(v:Value)(t:Tx)(n free:Int)(w:World)(hT:IsTx w v t)(r1:t.info.length*24≤140737488355328)(r2:t.data.length*24≤140737488355328)(hg:za9 t=true)(ho:t.h0.on=true):
  Calls prog 80 #[v,.int .i64 0,.int .i64 n,.int .i64 free] w fun e w'=>∃v2,e=.returned (.tuple #[v2,.int .i64 (zbd t 0 n free)])∧IsTx w' v2 (zau t 0 n free)∧Below w.heap.size w w'∧(v2=v∨za2 w.heap.size v2 (zau t 0 n free)):=by
 have b:=zaa ho;clear ho;have I:=zaa hT;obtain⟨a,c,m,X,r,d,rfl,M,N,U,C,D,K⟩:=hT;have N1:=zaa C;have N2:=zaa D;have N3:=zaa K;clear M N U C D K;go_enter func80,ntmps80;go_wp2_with fail;refine(zb6 _ t _ (I.o.below (zae (zab _ _) (zab _ _))) r1 r2).mono ?_;rintro e E ⟨rfl,A⟩;have A1:w.heap.size+1<E.heap.size:=by have:=A.size;simp at this;omega
 have A0:w.heap.size<E.heap.size:=by omega
 have O:=zaa (zhl A);have Q:=zaa (zh3 A);obtain⟨⟨x0,x1,x2,x3,x4,x5,x6,x7,x8,x9⟩,_⟩:=zaj O.o;obtain⟨⟨i,R,h,S,L,Y,k,Z,j,l⟩,ff⟩:=zaj Q.o;have B:=zaa (zae (zae (zab _ _) (zab _ _)) A);clear A;have ho:=b.o;have J:Hid (zbd t 0 n free=5):=by rw[Hid,zbd,if_neg (by rw[hg];simp),if_neg (by omega),show zel t 0=t.h0 from rfl,if_pos ho]
 have F:Hid (zau t 0 n free=t):=by rw[Hid,zau,J.o];rfl
 have hw:zap 0 0 2=true:=rfl;go_wp2_with (go_at_call 117;refine(zbn _ _).mono ?_;rintro e w' ⟨rfl,rfl⟩);refine bodyPost_ret (v:=.tuple #[.agg #[.int .i64 t.seq,.slice a t.info.length c,.slice m t.data.length X,.slice r t.rev.length d,.bool t.h0.on,.int .i64 t.h0.left,.bool t.h1.on,.int .i64 t.h1.left,.bool t.h2.on,.int .i64 t.h2.left],.int .i64 5]) (by simp[results,results80,go_sem,i,R,h,S,L,Y,k,Z,j,l,ho]) rfl ⟨_,by rw[J.o],?_⟩;refine⟨?_,?_,.inl rfl⟩
 ·rw[F.o];refine I.o.below ?_
  repeat refine Below.setCell ?_ (by simp) _
  exact B.o
 ·repeat refine Below.setCell ?_ (by simp) _
  exact B.o
theorem ztm(v:Value)(t:Tx)(n free:Int)(w:World)(hT:IsTx w v t)(r1:t.info.length*24≤140737488355328)(r2:t.data.length*24≤140737488355328)(hg:za9 t=true)(ho:t.h0.on=false):
  Calls prog 80 #[v,.int .i64 0,.int .i64 n,.int .i64 free] w fun e w'=>∃v2,e=.returned (.tuple #[v2,.int .i64 (zbd t 0 n free)])∧IsTx w' v2 (zau t 0 n free)∧Below w.heap.size w w'∧(v2=v∨za2 w.heap.size v2 (zau t 0 n free)):=by
 have A3:=zaw hg;have i:=zcv hg;have HO:=zaa ho;clear ho;have l:=zaa hT;obtain⟨a,c,a',c',r,d,rfl,hM,hD,hR,n1,n2,n3⟩:=hT;have N1:=zaa n1;have N2:=zaa n2;have N3:=zaa n3;clear hM hD hR n1 n2 n3;go_enter func80,ntmps80;go_wp2_with fail;refine(zb6 _ t _ (l.o.below (zae (zab _ _) (zab _ _))) r1 r2).mono ?_;rintro e w1 ⟨rfl,M⟩;have A6:w.heap.size+1<w1.heap.size:=by have:=M.size;simp at this;omega
 have A0:w.heap.size<w1.heap.size:=by omega
 have K1:=zaa (zhl M);have K2:=zaa (zh3 M);obtain⟨⟨x0,x1,x2,x3,x4,x5,x6,z,x8,x9⟩,_⟩:=zaj K1.o;obtain⟨⟨X,O,U,Q,Z,R,Y,S,b,h⟩,p⟩:=zaj K2.o;have E:=zaa (zae (zae (zab _ _) (zab _ _)) M);clear M;have ho:=HO.o;have s:¬za9 t=false:=by rw[hg];simp
 have m:¬(zel t 0).on=true:=by rw[show zel t 0=t.h0 from rfl,ho];simp
 have u:Hid (IsTx w (.agg #[.int .i64 t.seq,.slice a t.info.length c,.slice a' t.data.length c',.slice r t.rev.length d,.bool false,.int .i64 t.h0.left,.bool t.h1.on,.int .i64 t.h1.left,.bool t.h2.on,.int .i64 t.h2.left]) t):=by have:=l.o;rw[ho]at this;exact this
 have hw:zap 0 0 2=true:=rfl
 cases hq:zap n 0 12 with
 |false=>
  have y:n<0∨12<n:=by
   by_cases e:0≤n∧n≤12
   ·rw[zbf.2 e]at hq;cases hq
   ·omega
  have J:Hid (zbd t 0 n free=2):=by rw[Hid,zbd,if_neg s,if_neg (by omega),if_neg m,if_pos y]
  have L:Hid (zau t 0 n free=t):=by rw[Hid,zau,J.o];rfl
  clear s m y i A3;go_wp2_with (first|(go_at_call 117;refine(zbn _ _).mono ?_;rintro e w' ⟨rfl,rfl⟩)|(go_at_call 59;refine(zaz _ _ _ _).mono ?_;rintro e w' ⟨rfl,rfl⟩));refine bodyPost_ret (v:=.tuple #[.agg #[.int .i64 t.seq,.slice a t.info.length c,.slice a' t.data.length c',.slice r t.rev.length d,.bool t.h0.on,.int .i64 t.h0.left,.bool t.h1.on,.int .i64 t.h1.left,.bool t.h2.on,.int .i64 t.h2.left],.int .i64 2]) (by simp[results,results80,go_sem,X,O,U,Q,Z,R,Y,S,b,h,ho]) rfl ⟨_,by rw[J.o],?_⟩;refine⟨?_,?_,.inl rfl⟩
  ·rw[L.o];refine l.o.below ?_
   repeat refine Below.setCell ?_ (by simp) _
   exact E.o
  ·repeat refine Below.setCell ?_ (by simp) _
   exact E.o
 |true=>
  have B0:=zbf.1 hq;have NN:¬(n<0∨12<n):=by omega
  go_wp2_with (first|(go_at_call 117;refine(zbn _ _).mono ?_;rintro e w' ⟨rfl,rfl⟩)|(go_at_call 59;refine(zaz _ _ _ _).mono ?_;rintro e w' ⟨rfl,rfl⟩));refine(zjz _ t _ (u.o.below E.o)).mono ?_;rintro e F ⟨rfl,D⟩;have A2:w.heap.size+1<F.heap.size:=by have:=D.size;omega
  have A9:w.heap.size<F.heap.size:=by omega
  have A5:=zaa (zad D A0 K1.o);have x:=zaa (zad D A6 K2.o);have K:=zaa (zae E.o D);clear x0 x1 x2 x3 x4 x5 x6 z x8 x9 X O U Q Z R Y S b h p D K1 K2 E;obtain⟨⟨x0,x1,x2,x3,x4,x5,x6,z,x8,x9⟩,_⟩:=zaj A5.o;obtain⟨⟨X,O,U,Q,Z,R,Y,S,b,h⟩,p⟩:=zaj x.o;have A7:=i.2.1;have A4:=i.2.2;have I:Hid (zbd t 0 n free=if 24<zb0 t+n∨free<zd4 (zb0 t+n) then 6 else 0):=by rw[Hid,zbd,if_neg s,if_neg (by omega),if_neg m,if_neg NN]
  obtain⟨q,j⟩:∃q,q=zb0 t:=⟨_,rfl⟩;rw[←j]at I A7 A4;rw[←j];clear i s m NN j hq
  cases hrm:(decide (q+n≤24)&&decide (zd4 (q+n)≤free)) with
  |false=>
   have J:Hid (zbd t 0 n free=6):=by
    rw[Hid,I.o,if_pos];by_cases e:q+n≤24
    ·rw[show decide (q+n≤24)=true from by simpa using e,Bool.true_and]at hrm;simp at hrm;omega
    ·omega
   have L:Hid (zau t 0 n free=t):=by rw[Hid,zau,J.o];rfl
   have A:=zhy (q+n) free F;rw[hrm]at A;clear hrm I;go_wp2_with fail;refine A.mono ?_;rintro e w3 ⟨rfl,rfl⟩;go_wp2;refine bodyPost_ret (v:=.tuple #[.agg #[.int .i64 t.seq,.slice a t.info.length c,.slice a' t.data.length c',.slice r t.rev.length d,.bool t.h0.on,.int .i64 t.h0.left,.bool t.h1.on,.int .i64 t.h1.left,.bool t.h2.on,.int .i64 t.h2.left],.int .i64 6]) (by simp[results,results80,go_sem,X,O,U,Q,Z,R,Y,S,b,h,ho]) rfl ⟨_,by rw[J.o],?_⟩;refine⟨?_,?_,.inl rfl⟩
   ·rw[L.o];refine l.o.below ?_
    repeat refine Below.setCell ?_ (by simp) _
    exact K.o
   ·repeat refine Below.setCell ?_ (by simp) _
    exact K.o
  |true=>
   have J:Hid (zbd t 0 n free=0):=by
    rw[Hid,I.o,if_neg];simp at hrm;omega
   have L:Hid (zau t 0 n free={t with h0:=⟨true,n⟩}):=by rw[Hid,zau,J.o];rfl
   have A:=zhy (q+n) free F;rw[hrm]at A;clear hrm I;go_wp2_with fail;refine A.mono ?_;rintro e w3 ⟨rfl,rfl⟩;go_wp2_with fail;refine(zc0 _ t _ (u.o.below K.o) (by omega) (by omega) (by omega)).mono ?_;rintro e w4 ⟨va,vd,vr,rfl,C,k⟩;obtain⟨a1,c1,rfl,_,_⟩:=SegC.of_owns C.2.1;obtain⟨a2,c2,rfl,_,_⟩:=SegC.of_owns C.2.2.1;obtain⟨a3,c3,rfl,_,_⟩:=SegI.of_owns C.2.2.2;have N:=zaa C;have B1:=C.lt;have A8:=zaa (zae K.o k);have A1:=zaa (zad k A2 x.o);clear x0 x1 x2 x3 x4 x5 x6 z x8 x9 X O U Q Z R Y S b h p k C K;obtain⟨⟨X,O,U,Q,Z,R,Y,S,b,h⟩,p⟩:=zaj A1.o;obtain⟨⟨z0,z1,z2,z3,z4,z5,z6,z7,z8,z9⟩,gf⟩:=zaj N.o.1;have HX:Hid (BoxTx ((w4.setCell ⟨F.heap.size,4,none⟩ (.bool true)).setCell ⟨F.heap.size,5,none⟩ (.int .i64 n)) F.heap.size {t with h0:=⟨true,n⟩} (.slice a1 t.info.length c1) (.slice a2 t.data.length c2) (.slice a3 t.rev.length c3)):=(N.o.set (t':={t with h0:=⟨true,t.h0.left⟩}) 4 (.bool true) rfl N.o.2.1 N.o.2.2.1 N.o.2.2.2).set (t':={t with h0:=⟨true,n⟩}) 5 (.int .i64 n) rfl (ownsRow_setCell_below N.o.2.1 (by simp) _) (ownsRow_setCell_below N.o.2.2.1 (by simp) _) (ownsRow_setCell_below N.o.2.2.2 (by simp) _);go_wp2;refine bodyPost_ret (v:=.tuple #[.agg #[.int .i64 t.seq,.slice a1 t.info.length c1,.slice a2 t.data.length c2,.slice a3 t.rev.length c3,.bool true,.int .i64 n,.bool t.h1.on,.int .i64 t.h1.left,.bool t.h2.on,.int .i64 t.h2.left],.int .i64 0]) (by simp[results,results80,go_sem,X,O,U,Q,Z,R,Y,S,b,h]) rfl ⟨_,by rw[J.o],?_⟩;rw[L.o];refine⟨?_,?_,.inr (HX.o.fromR (t:={t with h0:=⟨true,n⟩}) (by omega))⟩
   ·refine BoxTx.is (t:={t with h0:=⟨true,n⟩}) (B:=F.heap.size) ?_ N1.o N2.o N3.o
    repeat refine BoxTx.other ?_ (by simp;omega) _
    exact HX.o
   ·repeat refine Below.setCell ?_ (by simp;try omega) _
    exact A8.o
theorem zxa(v:Value)(t:Tx)(n free:Int)(w:World)(hT:IsTx w v t)(r1:t.info.length*24≤140737488355328)(r2:t.data.length*24≤140737488355328)(hg:za9 t=true)(ho:t.h1.on=true):
  Calls prog 80 #[v,.int .i64 1,.int .i64 n,.int .i64 free] w fun e w'=>∃v2,e=.returned (.tuple #[v2,.int .i64 (zbd t 1 n free)])∧IsTx w' v2 (zau t 1 n free)∧Below w.heap.size w w'∧(v2=v∨za2 w.heap.size v2 (zau t 1 n free)):=by
 have b:=zaa ho;clear ho;have I:=zaa hT;obtain⟨a,c,m,X,r,d,rfl,M,N,U,C,D,K⟩:=hT;have N1:=zaa C;have N2:=zaa D;have N3:=zaa K;clear M N U C D K;go_enter func80,ntmps80;go_wp2_with fail;refine(zb6 _ t _ (I.o.below (zae (zab _ _) (zab _ _))) r1 r2).mono ?_;rintro e E ⟨rfl,A⟩;have A1:w.heap.size+1<E.heap.size:=by have:=A.size;simp at this;omega
 have A0:w.heap.size<E.heap.size:=by omega
 have O:=zaa (zhl A);have Q:=zaa (zh3 A);obtain⟨⟨x0,x1,x2,x3,x4,x5,x6,x7,x8,x9⟩,_⟩:=zaj O.o;obtain⟨⟨i,R,h,S,L,Y,k,Z,j,l⟩,ff⟩:=zaj Q.o;have B:=zaa (zae (zae (zab _ _) (zab _ _)) A);clear A;have ho:=b.o;have J:Hid (zbd t 1 n free=5):=by rw[Hid,zbd,if_neg (by rw[hg];simp),if_neg (by omega),show zel t 1=t.h1 from rfl,if_pos ho]
 have F:Hid (zau t 1 n free=t):=by rw[Hid,zau,J.o];rfl
 have hw:zap 1 0 2=true:=rfl;go_wp2_with (go_at_call 117;refine(zbn _ _).mono ?_;rintro e w' ⟨rfl,rfl⟩);refine bodyPost_ret (v:=.tuple #[.agg #[.int .i64 t.seq,.slice a t.info.length c,.slice m t.data.length X,.slice r t.rev.length d,.bool t.h0.on,.int .i64 t.h0.left,.bool t.h1.on,.int .i64 t.h1.left,.bool t.h2.on,.int .i64 t.h2.left],.int .i64 5]) (by simp[results,results80,go_sem,i,R,h,S,L,Y,k,Z,j,l,ho]) rfl ⟨_,by rw[J.o],?_⟩;refine⟨?_,?_,.inl rfl⟩
 ·rw[F.o];refine I.o.below ?_
  repeat refine Below.setCell ?_ (by simp) _
  exact B.o
 ·repeat refine Below.setCell ?_ (by simp) _
  exact B.o
theorem ztn(v:Value)(t:Tx)(n free:Int)(w:World)(hT:IsTx w v t)(r1:t.info.length*24≤140737488355328)(r2:t.data.length*24≤140737488355328)(hg:za9 t=true)(ho:t.h1.on=false):
  Calls prog 80 #[v,.int .i64 1,.int .i64 n,.int .i64 free] w fun e w'=>∃v2,e=.returned (.tuple #[v2,.int .i64 (zbd t 1 n free)])∧IsTx w' v2 (zau t 1 n free)∧Below w.heap.size w w'∧(v2=v∨za2 w.heap.size v2 (zau t 1 n free)):=by
 have A3:=zaw hg;have i:=zcv hg;have HO:=zaa ho;clear ho;have l:=zaa hT;obtain⟨a,c,a',c',r,d,rfl,hM,hD,hR,n1,n2,n3⟩:=hT;have N1:=zaa n1;have N2:=zaa n2;have N3:=zaa n3;clear hM hD hR n1 n2 n3;go_enter func80,ntmps80;go_wp2_with fail;refine(zb6 _ t _ (l.o.below (zae (zab _ _) (zab _ _))) r1 r2).mono ?_;rintro e w1 ⟨rfl,M⟩;have A6:w.heap.size+1<w1.heap.size:=by have:=M.size;simp at this;omega
 have A0:w.heap.size<w1.heap.size:=by omega
 have K1:=zaa (zhl M);have K2:=zaa (zh3 M);obtain⟨⟨x0,x1,x2,x3,x4,x5,x6,z,x8,x9⟩,_⟩:=zaj K1.o;obtain⟨⟨X,O,U,Q,Z,R,Y,S,b,h⟩,p⟩:=zaj K2.o;have E:=zaa (zae (zae (zab _ _) (zab _ _)) M);clear M;have ho:=HO.o;have s:¬za9 t=false:=by rw[hg];simp
 have m:¬(zel t 1).on=true:=by rw[show zel t 1=t.h1 from rfl,ho];simp
 have u:Hid (IsTx w (.agg #[.int .i64 t.seq,.slice a t.info.length c,.slice a' t.data.length c',.slice r t.rev.length d,.bool t.h0.on,.int .i64 t.h0.left,.bool false,.int .i64 t.h1.left,.bool t.h2.on,.int .i64 t.h2.left]) t):=by have:=l.o;rw[ho]at this;exact this
 have hw:zap 1 0 2=true:=rfl
 cases hq:zap n 0 12 with
 |false=>
  have y:n<0∨12<n:=by
   by_cases e:0≤n∧n≤12
   ·rw[zbf.2 e]at hq;cases hq
   ·omega
  have J:Hid (zbd t 1 n free=2):=by rw[Hid,zbd,if_neg s,if_neg (by omega),if_neg m,if_pos y]
  have L:Hid (zau t 1 n free=t):=by rw[Hid,zau,J.o];rfl
  clear s m y i A3;go_wp2_with (first|(go_at_call 117;refine(zbn _ _).mono ?_;rintro e w' ⟨rfl,rfl⟩)|(go_at_call 59;refine(zaz _ _ _ _).mono ?_;rintro e w' ⟨rfl,rfl⟩));refine bodyPost_ret (v:=.tuple #[.agg #[.int .i64 t.seq,.slice a t.info.length c,.slice a' t.data.length c',.slice r t.rev.length d,.bool t.h0.on,.int .i64 t.h0.left,.bool t.h1.on,.int .i64 t.h1.left,.bool t.h2.on,.int .i64 t.h2.left],.int .i64 2]) (by simp[results,results80,go_sem,X,O,U,Q,Z,R,Y,S,b,h,ho]) rfl ⟨_,by rw[J.o],?_⟩;refine⟨?_,?_,.inl rfl⟩
  ·rw[L.o];refine l.o.below ?_
   repeat refine Below.setCell ?_ (by simp) _
   exact E.o
  ·repeat refine Below.setCell ?_ (by simp) _
   exact E.o
 |true=>
  have B0:=zbf.1 hq;have NN:¬(n<0∨12<n):=by omega
  go_wp2_with (first|(go_at_call 117;refine(zbn _ _).mono ?_;rintro e w' ⟨rfl,rfl⟩)|(go_at_call 59;refine(zaz _ _ _ _).mono ?_;rintro e w' ⟨rfl,rfl⟩));refine(zjz _ t _ (u.o.below E.o)).mono ?_;rintro e F ⟨rfl,D⟩;have A2:w.heap.size+1<F.heap.size:=by have:=D.size;omega
  have A9:w.heap.size<F.heap.size:=by omega
  have A5:=zaa (zad D A0 K1.o);have x:=zaa (zad D A6 K2.o);have K:=zaa (zae E.o D);clear x0 x1 x2 x3 x4 x5 x6 z x8 x9 X O U Q Z R Y S b h p D K1 K2 E;obtain⟨⟨x0,x1,x2,x3,x4,x5,x6,z,x8,x9⟩,_⟩:=zaj A5.o;obtain⟨⟨X,O,U,Q,Z,R,Y,S,b,h⟩,p⟩:=zaj x.o;have A7:=i.2.1;have A4:=i.2.2;have I:Hid (zbd t 1 n free=if 24<zb0 t+n∨free<zd4 (zb0 t+n) then 6 else 0):=by rw[Hid,zbd,if_neg s,if_neg (by omega),if_neg m,if_neg NN]
  obtain⟨q,j⟩:∃q,q=zb0 t:=⟨_,rfl⟩;rw[←j]at I A7 A4;rw[←j];clear i s m NN j hq
  cases hrm:(decide (q+n≤24)&&decide (zd4 (q+n)≤free)) with
  |false=>
   have J:Hid (zbd t 1 n free=6):=by
    rw[Hid,I.o,if_pos];by_cases e:q+n≤24
    ·rw[show decide (q+n≤24)=true from by simpa using e,Bool.true_and]at hrm;simp at hrm;omega
    ·omega
   have L:Hid (zau t 1 n free=t):=by rw[Hid,zau,J.o];rfl
   have A:=zhy (q+n) free F;rw[hrm]at A;clear hrm I;go_wp2_with fail;refine A.mono ?_;rintro e w3 ⟨rfl,rfl⟩;go_wp2;refine bodyPost_ret (v:=.tuple #[.agg #[.int .i64 t.seq,.slice a t.info.length c,.slice a' t.data.length c',.slice r t.rev.length d,.bool t.h0.on,.int .i64 t.h0.left,.bool t.h1.on,.int .i64 t.h1.left,.bool t.h2.on,.int .i64 t.h2.left],.int .i64 6]) (by simp[results,results80,go_sem,X,O,U,Q,Z,R,Y,S,b,h,ho]) rfl ⟨_,by rw[J.o],?_⟩;refine⟨?_,?_,.inl rfl⟩
   ·rw[L.o];refine l.o.below ?_
    repeat refine Below.setCell ?_ (by simp) _
    exact K.o
   ·repeat refine Below.setCell ?_ (by simp) _
    exact K.o
  |true=>
   have J:Hid (zbd t 1 n free=0):=by
    rw[Hid,I.o,if_neg];simp at hrm;omega
   have L:Hid (zau t 1 n free={t with h1:=⟨true,n⟩}):=by rw[Hid,zau,J.o];rfl
   have A:=zhy (q+n) free F;rw[hrm]at A;clear hrm I;go_wp2_with fail;refine A.mono ?_;rintro e w3 ⟨rfl,rfl⟩;go_wp2_with fail;refine(zc0 _ t _ (u.o.below K.o) (by omega) (by omega) (by omega)).mono ?_;rintro e w4 ⟨va,vd,vr,rfl,C,k⟩;obtain⟨a1,c1,rfl,_,_⟩:=SegC.of_owns C.2.1;obtain⟨a2,c2,rfl,_,_⟩:=SegC.of_owns C.2.2.1;obtain⟨a3,c3,rfl,_,_⟩:=SegI.of_owns C.2.2.2;have N:=zaa C;have B1:=C.lt;have A8:=zaa (zae K.o k);have A1:=zaa (zad k A2 x.o);clear x0 x1 x2 x3 x4 x5 x6 z x8 x9 X O U Q Z R Y S b h p k C K;obtain⟨⟨X,O,U,Q,Z,R,Y,S,b,h⟩,p⟩:=zaj A1.o;obtain⟨⟨z0,z1,z2,z3,z4,z5,z6,z7,z8,z9⟩,gf⟩:=zaj N.o.1;have HX:Hid (BoxTx ((w4.setCell ⟨F.heap.size,6,none⟩ (.bool true)).setCell ⟨F.heap.size,7,none⟩ (.int .i64 n)) F.heap.size {t with h1:=⟨true,n⟩} (.slice a1 t.info.length c1) (.slice a2 t.data.length c2) (.slice a3 t.rev.length c3)):=(N.o.set (t':={t with h1:=⟨true,t.h1.left⟩}) 6 (.bool true) rfl N.o.2.1 N.o.2.2.1 N.o.2.2.2).set (t':={t with h1:=⟨true,n⟩}) 7 (.int .i64 n) rfl (ownsRow_setCell_below N.o.2.1 (by simp) _) (ownsRow_setCell_below N.o.2.2.1 (by simp) _) (ownsRow_setCell_below N.o.2.2.2 (by simp) _);go_wp2;refine bodyPost_ret (v:=.tuple #[.agg #[.int .i64 t.seq,.slice a1 t.info.length c1,.slice a2 t.data.length c2,.slice a3 t.rev.length c3,.bool t.h0.on,.int .i64 t.h0.left,.bool true,.int .i64 n,.bool t.h2.on,.int .i64 t.h2.left],.int .i64 0]) (by simp[results,results80,go_sem,X,O,U,Q,Z,R,Y,S,b,h]) rfl ⟨_,by rw[J.o],?_⟩;rw[L.o];refine⟨?_,?_,.inr (HX.o.fromR (t:={t with h1:=⟨true,n⟩}) (by omega))⟩
   ·refine BoxTx.is (t:={t with h1:=⟨true,n⟩}) (B:=F.heap.size) ?_ N1.o N2.o N3.o
    repeat refine BoxTx.other ?_ (by simp;omega) _
    exact HX.o
   ·repeat refine Below.setCell ?_ (by simp;try omega) _
    exact A8.o
theorem zxb(v:Value)(t:Tx)(n free:Int)(w:World)(hT:IsTx w v t)(r1:t.info.length*24≤140737488355328)(r2:t.data.length*24≤140737488355328)(hg:za9 t=true)(ho:t.h2.on=true):
  Calls prog 80 #[v,.int .i64 2,.int .i64 n,.int .i64 free] w fun e w'=>∃v2,e=.returned (.tuple #[v2,.int .i64 (zbd t 2 n free)])∧IsTx w' v2 (zau t 2 n free)∧Below w.heap.size w w'∧(v2=v∨za2 w.heap.size v2 (zau t 2 n free)):=by
 have b:=zaa ho;clear ho;have I:=zaa hT;obtain⟨a,c,m,X,r,d,rfl,M,N,U,C,D,K⟩:=hT;have N1:=zaa C;have N2:=zaa D;have N3:=zaa K;clear M N U C D K;go_enter func80,ntmps80;go_wp2_with fail;refine(zb6 _ t _ (I.o.below (zae (zab _ _) (zab _ _))) r1 r2).mono ?_;rintro e E ⟨rfl,A⟩;have A1:w.heap.size+1<E.heap.size:=by have:=A.size;simp at this;omega
 have A0:w.heap.size<E.heap.size:=by omega
 have O:=zaa (zhl A);have Q:=zaa (zh3 A);obtain⟨⟨x0,x1,x2,x3,x4,x5,x6,x7,x8,x9⟩,_⟩:=zaj O.o;obtain⟨⟨i,R,h,S,L,Y,k,Z,j,l⟩,ff⟩:=zaj Q.o;have B:=zaa (zae (zae (zab _ _) (zab _ _)) A);clear A;have ho:=b.o;have J:Hid (zbd t 2 n free=5):=by rw[Hid,zbd,if_neg (by rw[hg];simp),if_neg (by omega),show zel t 2=t.h2 from rfl,if_pos ho]
 have F:Hid (zau t 2 n free=t):=by rw[Hid,zau,J.o];rfl
 have hw:zap 2 0 2=true:=rfl;go_wp2_with (go_at_call 117;refine(zbn _ _).mono ?_;rintro e w' ⟨rfl,rfl⟩);refine bodyPost_ret (v:=.tuple #[.agg #[.int .i64 t.seq,.slice a t.info.length c,.slice m t.data.length X,.slice r t.rev.length d,.bool t.h0.on,.int .i64 t.h0.left,.bool t.h1.on,.int .i64 t.h1.left,.bool t.h2.on,.int .i64 t.h2.left],.int .i64 5]) (by simp[results,results80,go_sem,i,R,h,S,L,Y,k,Z,j,l,ho]) rfl ⟨_,by rw[J.o],?_⟩;refine⟨?_,?_,.inl rfl⟩
 ·rw[F.o];refine I.o.below ?_
  repeat refine Below.setCell ?_ (by simp) _
  exact B.o
 ·repeat refine Below.setCell ?_ (by simp) _
  exact B.o
theorem zto(v:Value)(t:Tx)(n free:Int)(w:World)(hT:IsTx w v t)(r1:t.info.length*24≤140737488355328)(r2:t.data.length*24≤140737488355328)(hg:za9 t=true)(ho:t.h2.on=false):
  Calls prog 80 #[v,.int .i64 2,.int .i64 n,.int .i64 free] w fun e w'=>∃v2,e=.returned (.tuple #[v2,.int .i64 (zbd t 2 n free)])∧IsTx w' v2 (zau t 2 n free)∧Below w.heap.size w w'∧(v2=v∨za2 w.heap.size v2 (zau t 2 n free)):=by
 have A3:=zaw hg;have i:=zcv hg;have HO:=zaa ho;clear ho;have l:=zaa hT;obtain⟨a,c,a',c',r,d,rfl,hM,hD,hR,n1,n2,n3⟩:=hT;have N1:=zaa n1;have N2:=zaa n2;have N3:=zaa n3;clear hM hD hR n1 n2 n3;go_enter func80,ntmps80;go_wp2_with fail;refine(zb6 _ t _ (l.o.below (zae (zab _ _) (zab _ _))) r1 r2).mono ?_;rintro e w1 ⟨rfl,M⟩;have A6:w.heap.size+1<w1.heap.size:=by have:=M.size;simp at this;omega
 have A0:w.heap.size<w1.heap.size:=by omega
 have K1:=zaa (zhl M);have K2:=zaa (zh3 M);obtain⟨⟨x0,x1,x2,x3,x4,x5,x6,z,x8,x9⟩,_⟩:=zaj K1.o;obtain⟨⟨X,O,U,Q,Z,R,Y,S,b,h⟩,p⟩:=zaj K2.o;have E:=zaa (zae (zae (zab _ _) (zab _ _)) M);clear M;have ho:=HO.o;have s:¬za9 t=false:=by rw[hg];simp
 have m:¬(zel t 2).on=true:=by rw[show zel t 2=t.h2 from rfl,ho];simp
 have u:Hid (IsTx w (.agg #[.int .i64 t.seq,.slice a t.info.length c,.slice a' t.data.length c',.slice r t.rev.length d,.bool t.h0.on,.int .i64 t.h0.left,.bool t.h1.on,.int .i64 t.h1.left,.bool false,.int .i64 t.h2.left]) t):=by have:=l.o;rw[ho]at this;exact this
 have hw:zap 2 0 2=true:=rfl
 cases hq:zap n 0 12 with
 |false=>
  have y:n<0∨12<n:=by
   by_cases e:0≤n∧n≤12
   ·rw[zbf.2 e]at hq;cases hq
   ·omega
  have J:Hid (zbd t 2 n free=2):=by rw[Hid,zbd,if_neg s,if_neg (by omega),if_neg m,if_pos y]
  have L:Hid (zau t 2 n free=t):=by rw[Hid,zau,J.o];rfl
  clear s m y i A3;go_wp2_with (first|(go_at_call 117;refine(zbn _ _).mono ?_;rintro e w' ⟨rfl,rfl⟩)|(go_at_call 59;refine(zaz _ _ _ _).mono ?_;rintro e w' ⟨rfl,rfl⟩));refine bodyPost_ret (v:=.tuple #[.agg #[.int .i64 t.seq,.slice a t.info.length c,.slice a' t.data.length c',.slice r t.rev.length d,.bool t.h0.on,.int .i64 t.h0.left,.bool t.h1.on,.int .i64 t.h1.left,.bool t.h2.on,.int .i64 t.h2.left],.int .i64 2]) (by simp[results,results80,go_sem,X,O,U,Q,Z,R,Y,S,b,h,ho]) rfl ⟨_,by rw[J.o],?_⟩;refine⟨?_,?_,.inl rfl⟩
  ·rw[L.o];refine l.o.below ?_
   repeat refine Below.setCell ?_ (by simp) _
   exact E.o
  ·repeat refine Below.setCell ?_ (by simp) _
   exact E.o
 |true=>
  have B0:=zbf.1 hq;have NN:¬(n<0∨12<n):=by omega
  go_wp2_with (first|(go_at_call 117;refine(zbn _ _).mono ?_;rintro e w' ⟨rfl,rfl⟩)|(go_at_call 59;refine(zaz _ _ _ _).mono ?_;rintro e w' ⟨rfl,rfl⟩));refine(zjz _ t _ (u.o.below E.o)).mono ?_;rintro e F ⟨rfl,D⟩;have A2:w.heap.size+1<F.heap.size:=by have:=D.size;omega
  have A9:w.heap.size<F.heap.size:=by omega
  have A5:=zaa (zad D A0 K1.o);have x:=zaa (zad D A6 K2.o);have K:=zaa (zae E.o D);clear x0 x1 x2 x3 x4 x5 x6 z x8 x9 X O U Q Z R Y S b h p D K1 K2 E;obtain⟨⟨x0,x1,x2,x3,x4,x5,x6,z,x8,x9⟩,_⟩:=zaj A5.o;obtain⟨⟨X,O,U,Q,Z,R,Y,S,b,h⟩,p⟩:=zaj x.o;have A7:=i.2.1;have A4:=i.2.2;have I:Hid (zbd t 2 n free=if 24<zb0 t+n∨free<zd4 (zb0 t+n) then 6 else 0):=by rw[Hid,zbd,if_neg s,if_neg (by omega),if_neg m,if_neg NN]
  obtain⟨q,j⟩:∃q,q=zb0 t:=⟨_,rfl⟩;rw[←j]at I A7 A4;rw[←j];clear i s m NN j hq
  cases hrm:(decide (q+n≤24)&&decide (zd4 (q+n)≤free)) with
  |false=>
   have J:Hid (zbd t 2 n free=6):=by
    rw[Hid,I.o,if_pos];by_cases e:q+n≤24
    ·rw[show decide (q+n≤24)=true from by simpa using e,Bool.true_and]at hrm;simp at hrm;omega
    ·omega
   have L:Hid (zau t 2 n free=t):=by rw[Hid,zau,J.o];rfl
   have A:=zhy (q+n) free F;rw[hrm]at A;clear hrm I;go_wp2_with fail;refine A.mono ?_;rintro e w3 ⟨rfl,rfl⟩;go_wp2;refine bodyPost_ret (v:=.tuple #[.agg #[.int .i64 t.seq,.slice a t.info.length c,.slice a' t.data.length c',.slice r t.rev.length d,.bool t.h0.on,.int .i64 t.h0.left,.bool t.h1.on,.int .i64 t.h1.left,.bool t.h2.on,.int .i64 t.h2.left],.int .i64 6]) (by simp[results,results80,go_sem,X,O,U,Q,Z,R,Y,S,b,h,ho]) rfl ⟨_,by rw[J.o],?_⟩;refine⟨?_,?_,.inl rfl⟩
   ·rw[L.o];refine l.o.below ?_
    repeat refine Below.setCell ?_ (by simp) _
    exact K.o
   ·repeat refine Below.setCell ?_ (by simp) _
    exact K.o
  |true=>
   have J:Hid (zbd t 2 n free=0):=by
    rw[Hid,I.o,if_neg];simp at hrm;omega
   have L:Hid (zau t 2 n free={t with h2:=⟨true,n⟩}):=by rw[Hid,zau,J.o];rfl
   have A:=zhy (q+n) free F;rw[hrm]at A;clear hrm I;go_wp2_with fail;refine A.mono ?_;rintro e w3 ⟨rfl,rfl⟩;go_wp2_with fail;refine(zc0 _ t _ (u.o.below K.o) (by omega) (by omega) (by omega)).mono ?_;rintro e w4 ⟨va,vd,vr,rfl,C,k⟩;obtain⟨a1,c1,rfl,_,_⟩:=SegC.of_owns C.2.1;obtain⟨a2,c2,rfl,_,_⟩:=SegC.of_owns C.2.2.1;obtain⟨a3,c3,rfl,_,_⟩:=SegI.of_owns C.2.2.2;have N:=zaa C;have B1:=C.lt;have A8:=zaa (zae K.o k);have A1:=zaa (zad k A2 x.o);clear x0 x1 x2 x3 x4 x5 x6 z x8 x9 X O U Q Z R Y S b h p k C K;obtain⟨⟨X,O,U,Q,Z,R,Y,S,b,h⟩,p⟩:=zaj A1.o;obtain⟨⟨z0,z1,z2,z3,z4,z5,z6,z7,z8,z9⟩,gf⟩:=zaj N.o.1;have HX:Hid (BoxTx ((w4.setCell ⟨F.heap.size,8,none⟩ (.bool true)).setCell ⟨F.heap.size,9,none⟩ (.int .i64 n)) F.heap.size {t with h2:=⟨true,n⟩} (.slice a1 t.info.length c1) (.slice a2 t.data.length c2) (.slice a3 t.rev.length c3)):=(N.o.set (t':={t with h2:=⟨true,t.h2.left⟩}) 8 (.bool true) rfl N.o.2.1 N.o.2.2.1 N.o.2.2.2).set (t':={t with h2:=⟨true,n⟩}) 9 (.int .i64 n) rfl (ownsRow_setCell_below N.o.2.1 (by simp) _) (ownsRow_setCell_below N.o.2.2.1 (by simp) _) (ownsRow_setCell_below N.o.2.2.2 (by simp) _);go_wp2;refine bodyPost_ret (v:=.tuple #[.agg #[.int .i64 t.seq,.slice a1 t.info.length c1,.slice a2 t.data.length c2,.slice a3 t.rev.length c3,.bool t.h0.on,.int .i64 t.h0.left,.bool t.h1.on,.int .i64 t.h1.left,.bool true,.int .i64 n],.int .i64 0]) (by simp[results,results80,go_sem,X,O,U,Q,Z,R,Y,S,b,h]) rfl ⟨_,by rw[J.o],?_⟩;rw[L.o];refine⟨?_,?_,.inr (HX.o.fromR (t:={t with h2:=⟨true,n⟩}) (by omega))⟩
   ·refine BoxTx.is (t:={t with h2:=⟨true,n⟩}) (B:=F.heap.size) ?_ N1.o N2.o N3.o
    repeat refine BoxTx.other ?_ (by simp;omega) _
    exact HX.o
   ·repeat refine Below.setCell ?_ (by simp;try omega) _
    exact A8.o
theorem ztp(v:Value)(t:Tx)(h n free:Int)(w:World)(hT:IsTx w v t)(r1:t.info.length*24≤140737488355328)(r2:t.data.length*24≤140737488355328):
  Calls prog 80 #[v,.int .i64 h,.int .i64 n,.int .i64 free] w fun e w'=>∃v2,e=.returned (.tuple #[v2,.int .i64 (zbd t h n free)])∧IsTx w' v2 (zau t h n free)∧Below w.heap.size w w'∧(v2=v∨za2 w.heap.size v2 (zau t h n free)):=by
 cases hg:za9 t with
 |false=>exact zw8 v t h n free w hT r1 r2 hg
 |true=>
  cases hw:zap h 0 2 with
  |false=>exact ztl v t h n free w hT r1 r2 hg hw
  |true=>
   have hr:=zbf.1 hw;have A:h=0∨h=1∨h=2:=by omega
   rcases A with rfl|rfl|rfl
   ·cases ho:t.h0.on with
    |true=>exact zw9 v t n free w hT r1 r2 hg ho
    |false=>exact ztm v t n free w hT r1 r2 hg ho
   ·cases ho:t.h1.on with
    |true=>exact zxa v t n free w hT r1 r2 hg ho
    |false=>exact ztn v t n free w hT r1 r2 hg ho
   ·cases ho:t.h2.on with
    |true=>exact zxb v t n free w hT r1 r2 hg ho
    |false=>exact zto v t n free w hT r1 r2 hg ho
def zil (t:Tx)(h b:Int):Tx:=if nameE t h b=0 then nameT t h b else t
theorem z5i(B:Nat)(t:Tx)(va vd vr:Value)(b:Int)(w:World)(hbx:BoxTx w B t va vd vr)(r1:t.info.length≤1000)(r2:t.data.length≤1000)(r3:t.rev.length≤1000)(hl:0≤t.h0.left∧t.h0.left≤24):
  Calls prog 154 #[.pointer (some ⟨B,0,none⟩),.int .i64 0,.int .i64 b] w fun e w'=>e=.returned (.int .i64 (nameE t 0 b))∧BoxTx w' B (zil t 0 b) va vd vr∧Below B w w':=by
 have Z:=zaa (hbx.is (by unfold maxLen;omega) (by unfold maxLen;omega) (by unfold maxLen;omega));obtain⟨a1,c1,rfl,_,_⟩:=SegC.of_owns hbx.2.1;obtain⟨a2,c2,rfl,_,_⟩:=SegC.of_owns hbx.2.2.1;obtain⟨a3,c3,rfl,_,_⟩:=SegI.of_owns hbx.2.2.2;have X:=zaa hbx;have A0:=hbx.lt;clear hbx r1 r2 r3;obtain⟨⟨O,L,U,N,R,S,K,M,I,J⟩,Q⟩:=zaj X.o.1;go_enter func154,ntmps154;go_wp2_with fail;refine(zg7 _ t b _ Z.o).mono ?_;rintro e Y ⟨rfl,E⟩;have A:=zaa (X.o.below E);have D:Hid (Below B w Y):=E.mono (by omega);clear O L U N R S K M I J Q E;obtain⟨⟨O,L,U,N,R,S,K,M,I,J⟩,Q⟩:=zaj A.o.1
 cases hn:zcq t b with
 |true=>
  have C:Hid (nameE t 0 b=0):=by rw[Hid,nameE,if_pos hn]
  have F:Hid (nameT t 0 b=t):=by rw[Hid,nameT,if_pos hn]
  go_wp2;go_ret;exact⟨by rw[C.o];rfl,by rw[zil,if_pos C.o,F.o];exact A.o,D.o⟩
 |false=>
  by_cases h0:t.h0.left=0
  ·have C:Hid (nameE t 0 b=7):=by rw[Hid,nameE,if_neg (by rw[hn];simp),if_pos (show(zel t 0).left=0 from h0)]
   have H0:=zaa h0;clear hn;go_wp2;go_ret;exact⟨by rw[C.o];rfl,by rw[zil,if_neg (by rw[C.o];decide)];exact A.o,D.o⟩
  ·have C:Hid (nameE t 0 b=0):=by rw[Hid,nameE,if_neg (by rw[hn];simp),if_neg (show¬(zel t 0).left=0 from h0)]
   have F:Hid (nameT t 0 b={t with h0:=⟨t.h0.on,t.h0.left - 1⟩}):=by rw[Hid,nameT,if_neg (by rw[hn];simp)];rfl
   go_wp2;go_ret;refine⟨by rw[C.o];rfl,?_,D.o.setCell (by simp) _⟩;rw[zil,if_pos C.o,F.o];exact A.o.set (t':={t with h0:=⟨t.h0.on,t.h0.left - 1⟩}) 5 (.int .i64 (t.h0.left - 1)) rfl A.o.2.1 A.o.2.2.1 A.o.2.2.2
theorem z5j(B:Nat)(t:Tx)(va vd vr:Value)(b:Int)(w:World)(hbx:BoxTx w B t va vd vr)(r1:t.info.length≤1000)(r2:t.data.length≤1000)(r3:t.rev.length≤1000)(hl:0≤t.h1.left∧t.h1.left≤24):
  Calls prog 154 #[.pointer (some ⟨B,0,none⟩),.int .i64 1,.int .i64 b] w fun e w'=>e=.returned (.int .i64 (nameE t 1 b))∧BoxTx w' B (zil t 1 b) va vd vr∧Below B w w':=by
 have Z:=zaa (hbx.is (by unfold maxLen;omega) (by unfold maxLen;omega) (by unfold maxLen;omega));obtain⟨a1,c1,rfl,_,_⟩:=SegC.of_owns hbx.2.1;obtain⟨a2,c2,rfl,_,_⟩:=SegC.of_owns hbx.2.2.1;obtain⟨a3,c3,rfl,_,_⟩:=SegI.of_owns hbx.2.2.2;have X:=zaa hbx;have A0:=hbx.lt;clear hbx r1 r2 r3;obtain⟨⟨O,L,U,N,R,S,K,M,I,J⟩,Q⟩:=zaj X.o.1;go_enter func154,ntmps154;go_wp2_with fail;refine(zg7 _ t b _ Z.o).mono ?_;rintro e Y ⟨rfl,E⟩;have A:=zaa (X.o.below E);have D:Hid (Below B w Y):=E.mono (by omega);clear O L U N R S K M I J Q E;obtain⟨⟨O,L,U,N,R,S,K,M,I,J⟩,Q⟩:=zaj A.o.1
 cases hn:zcq t b with
 |true=>
  have C:Hid (nameE t 1 b=0):=by rw[Hid,nameE,if_pos hn]
  have F:Hid (nameT t 1 b=t):=by rw[Hid,nameT,if_pos hn]
  go_wp2;go_ret;exact⟨by rw[C.o];rfl,by rw[zil,if_pos C.o,F.o];exact A.o,D.o⟩
 |false=>
  by_cases h0:t.h1.left=0
  ·have C:Hid (nameE t 1 b=7):=by rw[Hid,nameE,if_neg (by rw[hn];simp),if_pos (show(zel t 1).left=0 from h0)]
   have H0:=zaa h0;clear hn;go_wp2;go_ret;exact⟨by rw[C.o];rfl,by rw[zil,if_neg (by rw[C.o];decide)];exact A.o,D.o⟩
  ·have C:Hid (nameE t 1 b=0):=by rw[Hid,nameE,if_neg (by rw[hn];simp),if_neg (show¬(zel t 1).left=0 from h0)]
   have F:Hid (nameT t 1 b={t with h1:=⟨t.h1.on,t.h1.left - 1⟩}):=by rw[Hid,nameT,if_neg (by rw[hn];simp)];rfl
   go_wp2;go_ret;refine⟨by rw[C.o];rfl,?_,D.o.setCell (by simp) _⟩;rw[zil,if_pos C.o,F.o];exact A.o.set (t':={t with h1:=⟨t.h1.on,t.h1.left - 1⟩}) 7 (.int .i64 (t.h1.left - 1)) rfl A.o.2.1 A.o.2.2.1 A.o.2.2.2
theorem z5k(B:Nat)(t:Tx)(va vd vr:Value)(b:Int)(w:World)(hbx:BoxTx w B t va vd vr)(r1:t.info.length≤1000)(r2:t.data.length≤1000)(r3:t.rev.length≤1000)(hl:0≤t.h2.left∧t.h2.left≤24):
  Calls prog 154 #[.pointer (some ⟨B,0,none⟩),.int .i64 2,.int .i64 b] w fun e w'=>e=.returned (.int .i64 (nameE t 2 b))∧BoxTx w' B (zil t 2 b) va vd vr∧Below B w w':=by
 have Z:=zaa (hbx.is (by unfold maxLen;omega) (by unfold maxLen;omega) (by unfold maxLen;omega));obtain⟨a1,c1,rfl,_,_⟩:=SegC.of_owns hbx.2.1;obtain⟨a2,c2,rfl,_,_⟩:=SegC.of_owns hbx.2.2.1;obtain⟨a3,c3,rfl,_,_⟩:=SegI.of_owns hbx.2.2.2;have X:=zaa hbx;have A0:=hbx.lt;clear hbx r1 r2 r3;obtain⟨⟨O,L,U,N,R,S,K,M,I,J⟩,Q⟩:=zaj X.o.1;go_enter func154,ntmps154;go_wp2_with fail;refine(zg7 _ t b _ Z.o).mono ?_;rintro e Y ⟨rfl,E⟩;have A:=zaa (X.o.below E);have D:Hid (Below B w Y):=E.mono (by omega);clear O L U N R S K M I J Q E;obtain⟨⟨O,L,U,N,R,S,K,M,I,J⟩,Q⟩:=zaj A.o.1
 cases hn:zcq t b with
 |true=>
  have C:Hid (nameE t 2 b=0):=by rw[Hid,nameE,if_pos hn]
  have F:Hid (nameT t 2 b=t):=by rw[Hid,nameT,if_pos hn]
  go_wp2;go_ret;exact⟨by rw[C.o];rfl,by rw[zil,if_pos C.o,F.o];exact A.o,D.o⟩
 |false=>
  by_cases h0:t.h2.left=0
  ·have C:Hid (nameE t 2 b=7):=by rw[Hid,nameE,if_neg (by rw[hn];simp),if_pos (show(zel t 2).left=0 from h0)]
   have H0:=zaa h0;clear hn;go_wp2;go_ret;exact⟨by rw[C.o];rfl,by rw[zil,if_neg (by rw[C.o];decide)];exact A.o,D.o⟩
  ·have C:Hid (nameE t 2 b=0):=by rw[Hid,nameE,if_neg (by rw[hn];simp),if_neg (show¬(zel t 2).left=0 from h0)]
   have F:Hid (nameT t 2 b={t with h2:=⟨t.h2.on,t.h2.left - 1⟩}):=by rw[Hid,nameT,if_neg (by rw[hn];simp)];rfl
   go_wp2;go_ret;refine⟨by rw[C.o];rfl,?_,D.o.setCell (by simp) _⟩;rw[zil,if_pos C.o,F.o];exact A.o.set (t':={t with h2:=⟨t.h2.on,t.h2.left - 1⟩}) 9 (.int .i64 (t.h2.left - 1)) rfl A.o.2.1 A.o.2.2.1 A.o.2.2.2
theorem zlb(B:Nat)(t:Tx)(va vd vr:Value)(h b:Int)(w:World)(hbx:BoxTx w B t va vd vr)(hg:za9 t=true)(hh:h=0∨h=1∨h=2):
  Calls prog 154 #[.pointer (some ⟨B,0,none⟩),.int .i64 h,.int .i64 b] w fun e w'=>e=.returned (.int .i64 (nameE t h b))∧BoxTx w' B (zil t h b) va vd vr∧Below B w w':=by
 have hs:=zaw hg;rcases hh with rfl|rfl|rfl
 ·have:=(zdt _).1 (zlz hg 0);exact z5i B t va vd vr b w hbx (by omega) (by omega) (by omega) ⟨this.1,this.2.1⟩
 ·have:=(zdt _).1 (zlz hg 1);exact z5j B t va vd vr b w hbx (by omega) (by omega) (by omega) ⟨this.1,this.2.1⟩
 ·have:=(zdt _).1 (zlz hg 2);exact z5k B t va vd vr b w hbx (by omega) (by omega) (by omega) ⟨this.1,this.2.1⟩
theorem zj2{α:Type}(key:α→Int)(l:List α)(b:Int)(x:α):(zbj key l b x).length≤2*l.length+1:=by
 have h1:=List.length_filter_le (fun y=>decide (key y<b)) l;have h2:=List.length_filter_le (fun y=>decide (b<key y)) l;simp[zbj];omega
theorem zin{α:Type}(key:α→Int)(l:List α)(b:Int):(zay key l b).length≤2*l.length:=by
 have h1:=List.length_filter_le (fun y=>decide (key y<b)) l;have h2:=List.length_filter_le (fun y=>decide (b<key y)) l;simp[zay];omega
theorem zxc(v:Value)(t:Tx)(h b:Int)(s:ByteArray)(w:World)(hT:IsTx w v t)(r1:t.info.length*24≤140737488355328)(r2:t.data.length*24≤140737488355328)(hr:¬reachE t h b=0):
  Calls prog 121 #[v,.int .i64 h,.int .i64 b,.string s] w fun e w'=>∃v2,e=.returned (.tuple #[v2,.int .i64 (changeE t h b s)])∧IsTx w' v2 (zaf t h b s)∧Below w.heap.size w w'∧(v2=v∨za2 w.heap.size v2 (zaf t h b s)):=by
 have L:=zaa hT;obtain⟨a,c,n,X,r,d,rfl,C,E,K,D,F,N⟩:=hT;have HM:=zaa C;have HD:=zaa E;have HR:=zaa K;have N1:=zaa D;have N2:=zaa F;have N3:=zaa N;clear C E K D F N;go_enter func121,ntmps121;go_wp2_with fail;refine(zch _ t h b _ (L.o.below (zae (zab _ _) (zab _ _))) r1 r2).mono ?_;rintro e I ⟨rfl,A⟩;have A1:w.heap.size+1<I.heap.size:=by have:=A.size;simp at this;omega
 have A0:w.heap.size<I.heap.size:=by omega
 have Q:=zaa (zhl A);have R:=zaa (zh3 A);obtain⟨⟨x0,x1,x2,x3,x4,x5,x6,x7,x8,x9⟩,_⟩:=zaj Q.o;obtain⟨⟨j,S,i,U,O,Y,l,Z,k,m⟩,ff⟩:=zaj R.o;have B:=zaa (zae (zae (zab _ _) (zab _ _)) A);clear A;have M:Hid (changeE t h b s=reachE t h b):=by rw[Hid,changeE,if_pos hr]
 have J:Hid (zaf t h b s=t):=by rw[Hid,zaf,if_neg (by rw[M.o];exact hr)]
 generalize reachE t h b=z at *;go_wp2;refine bodyPost_ret (v:=.tuple #[.agg #[.int .i64 t.seq,.slice a t.info.length c,.slice n t.data.length X,.slice r t.rev.length d,.bool t.h0.on,.int .i64 t.h0.left,.bool t.h1.on,.int .i64 t.h1.left,.bool t.h2.on,.int .i64 t.h2.left],.int .i64 z]) (by simp[results,results121,go_sem,j,S,i,U,O,Y,l,Z,k,m]) rfl ⟨_,by rw[M.o],?_⟩;refine⟨?_,?_,.inl rfl⟩
 ·rw[J.o];refine L.o.below ?_
  repeat refine Below.setCell ?_ (by simp) _
  exact B.o
 ·repeat refine Below.setCell ?_ (by simp) _
  exact B.o
theorem zre(v:Value)(t:Tx)(h b:Int)(s:ByteArray)(w:World)(hT:IsTx w v t)(r1:t.info.length*24≤140737488355328)(r2:t.data.length*24≤140737488355328)(hr:reachE t h b=0)(hs:zba s=false):
  Calls prog 121 #[v,.int .i64 h,.int .i64 b,.string s] w fun e w'=>∃v2,e=.returned (.tuple #[v2,.int .i64 (changeE t h b s)])∧IsTx w' v2 (zaf t h b s)∧Below w.heap.size w w'∧(v2=v∨za2 w.heap.size v2 (zaf t h b s)):=by
 have L:=zaa hT;obtain⟨a,c,n,X,r,d,rfl,C,E,K,D,F,N⟩:=hT;have HM:=zaa C;have HD:=zaa E;have HR:=zaa K;have N1:=zaa D;have N2:=zaa F;have N3:=zaa N;clear C E K D F N;go_enter func121,ntmps121;go_wp2_with fail;refine(zch _ t h b _ (L.o.below (zae (zab _ _) (zab _ _))) r1 r2).mono ?_;rintro e I ⟨rfl,A⟩;have A1:w.heap.size+1<I.heap.size:=by have:=A.size;simp at this;omega
 have A0:w.heap.size<I.heap.size:=by omega
 have Q:=zaa (zhl A);have R:=zaa (zh3 A);obtain⟨⟨x0,x1,x2,x3,x4,x5,x6,x7,x8,x9⟩,_⟩:=zaj Q.o;obtain⟨⟨j,S,i,U,O,Y,l,Z,k,m⟩,ff⟩:=zaj R.o;have B:=zaa (zae (zae (zab _ _) (zab _ _)) A);clear A;have M:Hid (changeE t h b s=1):=by rw[Hid,changeE,if_neg (by rw[hr];simp),if_pos hs]
 have J:Hid (zaf t h b s=t):=by rw[Hid,zaf,if_neg (by rw[M.o];decide)]
 have hz:¬(s.size:Int)=32:=by simpa[zba] using hs
 clear hs;go_wp2;refine bodyPost_ret (v:=.tuple #[.agg #[.int .i64 t.seq,.slice a t.info.length c,.slice n t.data.length X,.slice r t.rev.length d,.bool t.h0.on,.int .i64 t.h0.left,.bool t.h1.on,.int .i64 t.h1.left,.bool t.h2.on,.int .i64 t.h2.left],.int .i64 1]) (by simp[results,results121,go_sem,j,S,i,U,O,Y,l,Z,k,m]) rfl ⟨_,by rw[M.o],?_⟩;refine⟨?_,?_,.inl rfl⟩
 ·rw[J.o];refine L.o.below ?_
  repeat refine Below.setCell ?_ (by simp) _
  exact B.o
 ·repeat refine Below.setCell ?_ (by simp) _
  exact B.o
theorem zrf(v:Value)(t:Tx)(h b:Int)(s:ByteArray)(w:World)(hT:IsTx w v t)(r1:t.info.length*24≤140737488355328)(r2:t.data.length*24≤140737488355328)(hr:reachE t h b=0)(hs:zba s=true)(hd:(zai b t.data).isSome=true):
  Calls prog 121 #[v,.int .i64 h,.int .i64 b,.string s] w fun e w'=>∃v2,e=.returned (.tuple #[v2,.int .i64 (changeE t h b s)])∧IsTx w' v2 (zaf t h b s)∧Below w.heap.size w w'∧(v2=v∨za2 w.heap.size v2 (zaf t h b s)):=by
 have HT:=zaa hT;obtain⟨a,c,a',c',r,d,rfl,Z,k,hR,i,l,n3⟩:=hT;have HM:=zaa Z;have HD:=zaa k;have HR:=zaa hR;have N1:=zaa i;have N2:=zaa l;have N3:=zaa n3;clear Z k hR i l n3;go_enter func121,ntmps121;go_wp2_with fail;refine(zch _ t h b _ (HT.o.below (zae (zab _ _) (zab _ _))) r1 r2).mono ?_;rintro e n ⟨rfl,B⟩;have u:w.heap.size+1<n.heap.size:=by have:=B.size;simp at this;omega
 have K:w.heap.size<n.heap.size:=by omega
 have F:=zaa (zhl B);have I:=zaa (zh3 B);obtain⟨⟨m,x1,x,x3,x4,Y,p,X,q,x9⟩,_⟩:=zaj F.o;obtain⟨⟨Q,J,O,L,E,M,S,N,R,U⟩,j⟩:=zaj I.o;have C:=zaa (zae (zae (zab _ _) (zab _ _)) B);clear B;have HE:Hid (changeE t h b s=8):=by rw[Hid,changeE,if_neg (by rw[hr];simp),if_neg (by rw[hs];simp),if_pos hd]
 have A0:Hid (zaf t h b s=t):=by rw[Hid,zaf,if_neg (by rw[HE.o];decide)]
 have hz:(s.size:Int)=32:=by simpa[zba] using hs
 clear hs;go_wp2_with fail;refine(zi8 a' c' t.data b _ (HD.o.below C.o) N2.o).mono ?_;rintro e y ⟨rfl,A⟩;have A3:w.heap.size+1<y.heap.size:=by have:=A.size;omega
 have A2:w.heap.size<y.heap.size:=by omega
 have A1:=zaa (zad A K F.o);have z:=zaa (zad A u I.o);have D:=zaa (zae C.o A);clear m x1 x x3 x4 Y p X q x9 Q J O L E M S N R U j A F I C;obtain⟨⟨m,x1,x,x3,x4,Y,p,X,q,x9⟩,_⟩:=zaj A1.o;obtain⟨⟨Q,J,O,L,E,M,S,N,R,U⟩,j⟩:=zaj z.o;go_wp2;refine bodyPost_ret (v:=.tuple #[.agg #[.int .i64 t.seq,.slice a t.info.length c,.slice a' t.data.length c',.slice r t.rev.length d,.bool t.h0.on,.int .i64 t.h0.left,.bool t.h1.on,.int .i64 t.h1.left,.bool t.h2.on,.int .i64 t.h2.left],.int .i64 8]) (by simp[results,results121,go_sem,Q,J,O,L,E,M,S,N,R,U]) rfl ⟨_,by rw[HE.o],?_⟩;refine⟨?_,?_,.inl rfl⟩
 ·rw[A0.o];refine HT.o.below ?_
  repeat refine Below.setCell ?_ (by simp) _
  exact D.o
 ·repeat refine Below.setCell ?_ (by simp) _
  exact D.o
theorem zmt(v:Value)(t:Tx)(h b:Int)(s:ByteArray)(w:World)(hT:IsTx w v t)(r1:t.info.length*24≤140737488355328)(r2:t.data.length*24≤140737488355328)(hr:reachE t h b=0)(hs:zba s=true)(hd:(zai b t.data).isSome=false)(hn:¬nameE t h b=0):
  Calls prog 121 #[v,.int .i64 h,.int .i64 b,.string s] w fun e w'=>∃v2,e=.returned (.tuple #[v2,.int .i64 (changeE t h b s)])∧IsTx w' v2 (zaf t h b s)∧Below w.heap.size w w'∧(v2=v∨za2 w.heap.size v2 (zaf t h b s)):=by
 have X:=zcd hr;have hg:=X.1;have hh:=X.2.1;clear X;have B2:=zaw hg;have HT:=zaa hT;obtain⟨a,c,a',c',r,d,rfl,hM,hD,hR,n1,n2,n3⟩:=hT;have HM:=zaa hM;have HD:=zaa hD;have HR:=zaa hR;have N1:=zaa n1;have N2:=zaa n2;have N3:=zaa n3;clear hM hD hR n1 n2 n3;go_enter func121,ntmps121;go_wp2_with fail;refine(zch _ t h b _ (HT.o.below (zae (zab _ _) (zab _ _))) r1 r2).mono ?_;rintro e w1 ⟨rfl,C⟩;have B0:w.heap.size+1<w1.heap.size:=by have:=C.size;simp at this;omega
 have A4:w.heap.size<w1.heap.size:=by omega
 have K1:=zaa (zhl C);have K2:=zaa (zh3 C);obtain⟨⟨k,l,x,m,y,n,q,j,u,x9⟩,_⟩:=zaj K1.o;obtain⟨⟨Q,J,N,K,S,L,R,M,Z,i⟩,p⟩:=zaj K2.o;have I:=zaa (zae (zae (zab _ _) (zab _ _)) C);clear C;have HE:Hid (changeE t h b s=nameE t h b):=by rw[Hid,changeE,if_neg (by rw[hr];simp),if_neg (by rw[hs];simp),if_neg (by rw[hd];simp)]
 have B1:Hid (zaf t h b s=t):=by rw[Hid,zaf,if_neg (by rw[HE.o];exact hn)]
 have hz:(s.size:Int)=32:=by simpa[zba] using hs
 clear hs;go_wp2_with fail;refine(zi8 a' c' t.data b _ (HD.o.below I.o) N2.o).mono ?_;rintro e w2 ⟨rfl,B⟩;have A6:w.heap.size+1<w2.heap.size:=by have:=B.size;omega
 have A5:w.heap.size<w2.heap.size:=by omega
 have O:=zaa (zad B A4 K1.o);have Y:=zaa (zad B B0 K2.o);have U:=zaa (zae I.o B);clear k l x m y n q j u x9 Q J N K S L R M Z i p B K1 K2 I;obtain⟨⟨k,l,x,m,y,n,q,j,u,x9⟩,_⟩:=zaj O.o;obtain⟨⟨Q,J,N,K,S,L,R,M,Z,i⟩,p⟩:=zaj Y.o;go_wp2_with fail;refine(zc0 _ t _ (HT.o.below U.o) (by omega) (by omega) (by omega)).mono ?_;rintro e w4 ⟨va,vd,vr,rfl,A,F⟩;obtain⟨a1,c1,rfl,_,_⟩:=SegC.of_owns A.2.1;obtain⟨a2,c2,rfl,_,_⟩:=SegC.of_owns A.2.2.1;obtain⟨a3,c3,rfl,_,_⟩:=SegI.of_owns A.2.2.2;have BX:=zaa A;have B4:=A.lt;have A2:=zaa (zae U.o F);have A0:=zaa (zad F A5 O.o);have A1:=zaa (zad F A6 Y.o);clear k l x m y n q j u x9 Q J N K S L R M Z i p F A U O Y;obtain⟨⟨z0,z1,z2,z3,z4,z5,z6,z7,z8,z9⟩,gf⟩:=zaj BX.o.1;go_wp2_with fail;refine(zlb w2.heap.size t _ _ _ h b w4 BX.o hg hh).mono ?_;rintro e w5 ⟨rfl,D,E⟩;have A9:=zaa D;have B3:=D.lt;have A7:=zaa ((E.block w.heap.size (by omega)).trans A0.o);have A8:=zaa ((E.block (w.heap.size+1) (by omega)).trans A1.o);have A3:=zaa (A2.o.trans (E.mono (by omega)));clear z0 z1 z2 z3 z4 z5 z6 z7 z8 z9 gf E D A2 A0 A1 BX;obtain⟨⟨k,l,x,m,y,n,q,j,u,x9⟩,_⟩:=zaj A7.o;obtain⟨⟨Q,J,N,K,S,L,R,M,Z,i⟩,p⟩:=zaj A8.o;clear A9;generalize nameE t h b=z at *;go_wp2;refine bodyPost_ret (v:=.tuple #[.agg #[.int .i64 t.seq,.slice a t.info.length c,.slice a' t.data.length c',.slice r t.rev.length d,.bool t.h0.on,.int .i64 t.h0.left,.bool t.h1.on,.int .i64 t.h1.left,.bool t.h2.on,.int .i64 t.h2.left],.int .i64 z]) (by simp[results,results121,go_sem,Q,J,N,K,S,L,R,M,Z,i]) rfl ⟨_,by rw[HE.o],?_⟩;refine⟨?_,?_,.inl rfl⟩
 ·rw[B1.o];refine HT.o.below ?_
  repeat refine Below.setCell ?_ (by simp) _
  exact A3.o
 ·repeat refine Below.setCell ?_ (by simp) _
  exact A3.o
theorem zxd(v:Value)(t:Tx)(h b:Int)(s:ByteArray)(w:World)(hT:IsTx w v t)(r1:t.info.length*24≤140737488355328)(r2:t.data.length*24≤140737488355328)(hr:reachE t h b=0)(hs:zba s=true)(hd:(zai b t.data).isSome=false)(hn:nameE t h b=0):
  Calls prog 121 #[v,.int .i64 h,.int .i64 b,.string s] w fun e w'=>∃v2,e=.returned (.tuple #[v2,.int .i64 (changeE t h b s)])∧IsTx w' v2 (zaf t h b s)∧Below w.heap.size w w'∧(v2=v∨za2 w.heap.size v2 (zaf t h b s)):=by
 have A7:=zcd hr;have hg:=A7.1;have hh:=A7.2.1;clear A7;have m:=(za3 t).1 hg;have D1:Up (·.1) t.info:=(zfr _ _).1 ((za5 _).1 m.2.2.1.1).2;have D4:Up (·.1) t.data:=(zfr _ _).1 ((za5 _).1 m.2.2.1.2.1).2;have D2:Up id t.rev:=((za5 _).1 m.2.2.1.2.2).2;have D5:=zaw hg;clear m;have HT:=zaa hT;obtain⟨a,c,a',c',r,d,rfl,hM,hD,hR,n1,n2,n3⟩:=hT;have HM:=zaa hM;have HD:=zaa hD;have HR:=zaa hR;have N1:=zaa n1;have N2:=zaa n2;have N3:=zaa n3;clear hM hD hR n1 n2 n3;go_enter func121,ntmps121;go_wp2_with fail;refine(zch _ t h b _ (HT.o.below (zae (zab _ _) (zab _ _))) r1 r2).mono ?_;rintro e w1 ⟨rfl,i⟩;have C9:w.heap.size+1<w1.heap.size:=by have:=i.size;simp at this;omega
 have C1:w.heap.size<w1.heap.size:=by omega
 have K1:=zaa (zhl i);have K2:=zaa (zh3 i);obtain⟨⟨x0,x1,x2,x3,x4,x5,x6,x7,x8,x9⟩,_⟩:=zaj K1.o;obtain⟨⟨M,E,L,F,O,I,N,J,Q,S⟩,Y⟩:=zaj K2.o;have A0:=zaa (zae (zae (zab _ _) (zab _ _)) i);clear i;have HE:Hid (changeE t h b s=0):=by rw[Hid,changeE,if_neg (by rw[hr];simp),if_neg (by rw[hs];simp),if_neg (by rw[hd];simp),hn]
 have B6:Hid (zaf t h b s={{nameT t h b with info:=zbj (·.1) t.info b (b,s)} with rev:=zay id t.rev b}):=by rw[Hid,zaf,if_pos HE.o];rfl
 have hz:(s.size:Int)=32:=by simpa[zba] using hs
 clear hs;go_wp2_with fail;refine(zi8 a' c' t.data b _ (HD.o.below A0.o) N2.o).mono ?_;rintro e A ⟨rfl,U⟩;have C6:w.heap.size+1<A.heap.size:=by have:=U.size;omega
 have C2:w.heap.size<A.heap.size:=by omega
 have A2:=zaa (zad U C1 K1.o);have A8:=zaa (zad U C9 K2.o);have A4:=zaa (zae A0.o U);clear x0 x1 x2 x3 x4 x5 x6 x7 x8 x9 M E L F O I N J Q S Y U K1 K2 A0;obtain⟨⟨x0,x1,x2,x3,x4,x5,x6,x7,x8,x9⟩,_⟩:=zaj A2.o;obtain⟨⟨M,E,L,F,O,I,N,J,Q,S⟩,Y⟩:=zaj A8.o;go_wp2_with fail;refine(zc0 _ t _ (HT.o.below A4.o) (by omega) (by omega) (by omega)).mono ?_;rintro e w4 ⟨va,vd,vr,rfl,C,n⟩;obtain⟨a1,c1,rfl,_,_⟩:=SegC.of_owns C.2.1;obtain⟨a2,c2,rfl,_,_⟩:=SegC.of_owns C.2.2.1;obtain⟨a3,c3,rfl,_,_⟩:=SegI.of_owns C.2.2.2;have BX:=zaa C;have E0:=C.lt;have B7:=zaa (zae A4.o n);have B3:=zaa (zad n C2 A2.o);have B4:=zaa (zad n C6 A8.o);clear x0 x1 x2 x3 x4 x5 x6 x7 x8 x9 M E L F O I N J Q S Y n C A4 A2 A8;obtain⟨⟨z0,q,z2,z3,x,y,z6,z7,z,z9⟩,u⟩:=zaj BX.o.1;go_wp2_with fail;refine(zlb A.heap.size t _ _ _ h b w4 BX.o hg hh).mono ?_;rintro e w5 ⟨rfl,k,l⟩;have D:=zaa k;have D6:=k.lt;have D9:=zaa ((l.block w.heap.size (by omega)).trans B3.o);have A5:=zaa ((l.block (w.heap.size+1) (by omega)).trans B4.o);have B9:=zaa (B7.o.trans (l.mono (by omega)));clear z0 q z2 z3 x y z6 z7 z z9 u l k B7 B3 B4 BX;rw[zil,if_pos hn]at D;have j:=zet t h b;obtain⟨t',B2⟩:∃t',t'=nameT t h b:=⟨_,rfl⟩;rw[←B2]at D B6 j;have C3:Hid (t'.info=t.info):=j.1;have C8:Hid (t'.data=t.data):=j.2.1;have C7:Hid (t'.rev=t.rev):=j.2.2;clear B2 j;have o6:=D.o.2.1;rw[C3.o]at o6;obtain⟨⟨z0,q,z2,z3,x,y,z6,z7,z,z9⟩,u⟩:=zaj D.o.1;obtain⟨⟨M,E,L,F,O,I,N,J,Q,S⟩,Y⟩:=zaj A5.o;go_wp2_with fail;refine(zra (A.heap.size+1) _ t.info b s _ o6 (by omega) D1).mono ?_;clear o6;rintro e w6 ⟨v6,rfl,B0,X⟩;obtain⟨p6,q6,rfl,_,_⟩:=SegC.of_owns B0;have D3:=X.size;have D7:A.heap.size<w6.heap.size:=by omega
 have K:=zaa (D.o.below X);have A6:Hid (w6.ownsRow (A.heap.size+1) 84 2 (.slice p6 (zbj (·.1) t.info b (b,s)).length q6) (zbj (·.1) t.info b (b,s)).length (cellsC (zbj (·.1) t.info b (b,s)))):=za8 B0 (by omega);have A3:=zaa (K.o.set (t':={t' with info:=zbj (·.1) t.info b (b,s)}) 1 (.slice p6 (zbj (·.1) t.info b (b,s)).length q6) rfl A6.o K.o.2.2.1 K.o.2.2.2);have C0:=zaa (zad X (by omega) A5.o);have K6:Hid ((w6.setCell ⟨A.heap.size,1,none⟩ (.slice p6 (zbj (·.1) t.info b (b,s)).length q6)).heap[w.heap.size+1]?=_):=(Below.heap_setCell _ _ _ _ (by simp;omega)).trans C0.o;have B1:=zaa ((B9.o.trans (X.mono (by omega))).setCell (p:=⟨A.heap.size,1,none⟩) (by simp;omega) (.slice p6 (zbj (·.1) t.info b (b,s)).length q6));clear z0 q z2 z3 x y z6 z7 z z9 u M E L F O I N J Q S Y X B0 A6 D B9 A5;have o7:=A3.o.2.2.2;dsimp only at o7;rw[C7.o]at o7;obtain⟨⟨z0,q,z2,z3,x,y,z6,z7,z,z9⟩,u⟩:=zaj K.o.1;obtain⟨⟨M,E,L,F,O,I,N,J,Q,S⟩,Y⟩:=zaj C0.o;go_wp2_with fail;refine(zrd (A.heap.size+1) _ t.rev b _ o7 (by omega) D2).mono ?_;clear o7;rintro e w7 ⟨v7,rfl,A9,Z⟩;obtain⟨p7,q7,rfl,_,_⟩:=SegI.of_owns A9;have C4:=Z.size;simp only[World.size_setCell]at C4;have D8:A.heap.size<w7.heap.size:=by omega
 have R:=zaa (A3.o.below Z);have A1:Hid (w7.ownsRow (A.heap.size+1) 3 1 (.slice p7 (zay id t.rev b).length q7) (zay id t.rev b).length (cellsI (zay id t.rev b))):=za8 A9 (by simp;omega);have B5:=zaa (R.o.set (t':={{t' with info:=zbj (·.1) t.info b (b,s)} with rev:=zay id t.rev b}) 3 (.slice p7 (zay id t.rev b).length q7) rfl R.o.2.1 R.o.2.2.1 A1.o);have B8:=zaa (zad Z (by simp;omega) K6.o);have K7:Hid ((w7.setCell ⟨A.heap.size,3,none⟩ (.slice p7 (zay id t.rev b).length q7)).heap[w.heap.size+1]?=_):=(Below.heap_setCell _ _ _ _ (by simp;omega)).trans B8.o;have C5:=zaa ((B1.o.trans (Z.mono (by simp;omega))).setCell (p:=⟨A.heap.size,3,none⟩) (by simp;omega) (.slice p7 (zay id t.rev b).length q7));clear z0 q z2 z3 x y z6 z7 z z9 u M E L F O I N J Q S Y Z A9 A1 A3 B1 K6;obtain⟨⟨z0,q,z2,z3,x,y,z6,z7,z,z9⟩,u⟩:=zaj R.o.1;obtain⟨⟨M,E,L,F,O,I,N,J,Q,S⟩,Y⟩:=zaj B8.o;go_wp2;refine bodyPost_ret (v:=.tuple #[.agg #[.int .i64 t'.seq,(.slice p6 (zbj (·.1) t.info b (b,s)).length q6),(.slice a2 t.data.length c2),(.slice p7 (zay id t.rev b).length q7),.bool t'.h0.on,.int .i64 t'.h0.left,.bool t'.h1.on,.int .i64 t'.h1.left,.bool t'.h2.on,.int .i64 t'.h2.left],.int .i64 0]) (by simp[results,results121,go_sem,M,E,L,F,O,I,N,J,Q,S]) rfl ⟨_,by rw[HE.o],?_⟩;rw[B6.o];refine⟨?_,?_,.inr (B5.o.fromR (t:={{t' with info:=zbj (·.1) t.info b (b,s)} with rev:=zay id t.rev b}) (by omega))⟩
 ·refine BoxTx.is (t:={{t' with info:=zbj (·.1) t.info b (b,s)} with rev:=zay id t.rev b}) (B:=A.heap.size) ?_ (by have:=zj2 (·.1) t.info b (b,s);unfold maxLen;dsimp only at this⊢;omega) (by have:=C8.o;unfold maxLen;dsimp only;rw[this];omega) (by have:=zin id t.rev b;unfold maxLen;dsimp only;omega)
  repeat refine BoxTx.other ?_ (by simp;omega) _
  exact B5.o
 ·iterate 10 (refine Below.setCell ?_ (by simp;try omega) _)
  exact C5.o
theorem zrg(v:Value)(t:Tx)(h b:Int)(s:ByteArray)(w:World)(hT:IsTx w v t)(r1:t.info.length*24≤140737488355328)(r2:t.data.length*24≤140737488355328):
  Calls prog 121 #[v,.int .i64 h,.int .i64 b,.string s] w fun e w'=>∃v2,e=.returned (.tuple #[v2,.int .i64 (changeE t h b s)])∧IsTx w' v2 (zaf t h b s)∧Below w.heap.size w w'∧(v2=v∨za2 w.heap.size v2 (zaf t h b s)):=by
 by_cases hr:reachE t h b=0
 ·cases hs:zba s with
  |false=>exact zre v t h b s w hT r1 r2 hr hs
  |true=>
   cases hd:(zai b t.data).isSome with
   |true=>exact zrf v t h b s w hT r1 r2 hr hs hd
   |false=>
    by_cases hn:nameE t h b=0
    ·exact zxd v t h b s w hT r1 r2 hr hs hd hn
    ·exact zmt v t h b s w hT r1 r2 hr hs hd hn
 ·exact zxc v t h b s w hT r1 r2 hr
theorem z26(v:Value)(t:Tx)(h b:Int)(s:ByteArray)(w:World)(hT:IsTx w v t)(r1:t.info.length*24≤140737488355328)(r2:t.data.length*24≤140737488355328)(hr:¬reachE t h b=0):
  Calls prog 122 #[v,.int .i64 h,.int .i64 b,.string s] w fun e w'=>∃v2,e=.returned (.tuple #[v2,.int .i64 (fillE t h b s)])∧IsTx w' v2 (zao t h b s)∧Below w.heap.size w w'∧(v2=v∨za2 w.heap.size v2 (zao t h b s)):=by
 have L:=zaa hT;obtain⟨a,c,n,X,r,d,rfl,C,E,K,D,F,N⟩:=hT;have HM:=zaa C;have HD:=zaa E;have HR:=zaa K;have N1:=zaa D;have N2:=zaa F;have N3:=zaa N;clear C E K D F N;go_enter func122,ntmps122;go_wp2_with fail;refine(zch _ t h b _ (L.o.below (zae (zab _ _) (zab _ _))) r1 r2).mono ?_;rintro e I ⟨rfl,A⟩;have A1:w.heap.size+1<I.heap.size:=by have:=A.size;simp at this;omega
 have A0:w.heap.size<I.heap.size:=by omega
 have Q:=zaa (zhl A);have R:=zaa (zh3 A);obtain⟨⟨x0,x1,x2,x3,x4,x5,x6,x7,x8,x9⟩,_⟩:=zaj Q.o;obtain⟨⟨j,S,i,U,O,Y,l,Z,k,m⟩,ff⟩:=zaj R.o;have B:=zaa (zae (zae (zab _ _) (zab _ _)) A);clear A;have M:Hid (fillE t h b s=reachE t h b):=by rw[Hid,fillE,if_pos hr]
 have J:Hid (zao t h b s=t):=by rw[Hid,zao,if_neg (by rw[M.o];exact hr)]
 generalize reachE t h b=z at *;go_wp2;refine bodyPost_ret (v:=.tuple #[.agg #[.int .i64 t.seq,.slice a t.info.length c,.slice n t.data.length X,.slice r t.rev.length d,.bool t.h0.on,.int .i64 t.h0.left,.bool t.h1.on,.int .i64 t.h1.left,.bool t.h2.on,.int .i64 t.h2.left],.int .i64 z]) (by simp[results,results122,go_sem,j,S,i,U,O,Y,l,Z,k,m]) rfl ⟨_,by rw[M.o],?_⟩;refine⟨?_,?_,.inl rfl⟩
 ·rw[J.o];refine L.o.below ?_
  repeat refine Below.setCell ?_ (by simp) _
  exact B.o
 ·repeat refine Below.setCell ?_ (by simp) _
  exact B.o
theorem zxe(v:Value)(t:Tx)(h b:Int)(s:ByteArray)(w:World)(hT:IsTx w v t)(r1:t.info.length*24≤140737488355328)(r2:t.data.length*24≤140737488355328)(hr:reachE t h b=0)(hs:zba s=false):
  Calls prog 122 #[v,.int .i64 h,.int .i64 b,.string s] w fun e w'=>∃v2,e=.returned (.tuple #[v2,.int .i64 (fillE t h b s)])∧IsTx w' v2 (zao t h b s)∧Below w.heap.size w w'∧(v2=v∨za2 w.heap.size v2 (zao t h b s)):=by
 have L:=zaa hT;obtain⟨a,c,n,X,r,d,rfl,C,E,K,D,F,N⟩:=hT;have HM:=zaa C;have HD:=zaa E;have HR:=zaa K;have N1:=zaa D;have N2:=zaa F;have N3:=zaa N;clear C E K D F N;go_enter func122,ntmps122;go_wp2_with fail;refine(zch _ t h b _ (L.o.below (zae (zab _ _) (zab _ _))) r1 r2).mono ?_;rintro e I ⟨rfl,A⟩;have A1:w.heap.size+1<I.heap.size:=by have:=A.size;simp at this;omega
 have A0:w.heap.size<I.heap.size:=by omega
 have Q:=zaa (zhl A);have R:=zaa (zh3 A);obtain⟨⟨x0,x1,x2,x3,x4,x5,x6,x7,x8,x9⟩,_⟩:=zaj Q.o;obtain⟨⟨j,S,i,U,O,Y,l,Z,k,m⟩,ff⟩:=zaj R.o;have B:=zaa (zae (zae (zab _ _) (zab _ _)) A);clear A;have M:Hid (fillE t h b s=1):=by rw[Hid,fillE,if_neg (by rw[hr];simp),if_pos hs]
 have J:Hid (zao t h b s=t):=by rw[Hid,zao,if_neg (by rw[M.o];decide)]
 have hz:¬(s.size:Int)=32:=by simpa[zba] using hs
 clear hs;go_wp2;refine bodyPost_ret (v:=.tuple #[.agg #[.int .i64 t.seq,.slice a t.info.length c,.slice n t.data.length X,.slice r t.rev.length d,.bool t.h0.on,.int .i64 t.h0.left,.bool t.h1.on,.int .i64 t.h1.left,.bool t.h2.on,.int .i64 t.h2.left],.int .i64 1]) (by simp[results,results122,go_sem,j,S,i,U,O,Y,l,Z,k,m]) rfl ⟨_,by rw[M.o],?_⟩;refine⟨?_,?_,.inl rfl⟩
 ·rw[J.o];refine L.o.below ?_
  repeat refine Below.setCell ?_ (by simp) _
  exact B.o
 ·repeat refine Below.setCell ?_ (by simp) _
  exact B.o
theorem zxf(v:Value)(t:Tx)(h b:Int)(s:ByteArray)(w:World)(hT:IsTx w v t)(r1:t.info.length*24≤140737488355328)(r2:t.data.length*24≤140737488355328)(hr:reachE t h b=0)(hs:zba s=true)(hd:zcq t b=true):
  Calls prog 122 #[v,.int .i64 h,.int .i64 b,.string s] w fun e w'=>∃v2,e=.returned (.tuple #[v2,.int .i64 (fillE t h b s)])∧IsTx w' v2 (zao t h b s)∧Below w.heap.size w w'∧(v2=v∨za2 w.heap.size v2 (zao t h b s)):=by
 have M:=zaa hT;obtain⟨a,c,a',c',r,d,rfl,i,l,hR,j,m,n3⟩:=hT;have HM:=zaa i;have HD:=zaa l;have HR:=zaa hR;have N1:=zaa j;have N2:=zaa m;have N3:=zaa n3;clear i l hR j m n3;go_enter func122,ntmps122;go_wp2_with fail;refine(zch _ t h b _ (M.o.below (zae (zab _ _) (zab _ _))) r1 r2).mono ?_;rintro e p ⟨rfl,B⟩;have x:w.heap.size+1<p.heap.size:=by have:=B.size;simp at this;omega
 have K:w.heap.size<p.heap.size:=by omega
 have F:=zaa (zhl B);have I:=zaa (zh3 B);obtain⟨⟨n,x1,y,x3,x4,Z,q,Y,u,x9⟩,_⟩:=zaj F.o;obtain⟨⟨R,J,Q,L,E,N,U,O,S,X⟩,k⟩:=zaj I.o;have C:=zaa (zae (zae (zab _ _) (zab _ _)) B);clear B;have HE:Hid (fillE t h b s=8):=by rw[Hid,fillE,if_neg (by rw[hr];simp),if_neg (by rw[hs];simp),if_pos hd]
 have A1:Hid (zao t h b s=t):=by rw[Hid,zao,if_neg (by rw[HE.o];decide)]
 have hz:(s.size:Int)=32:=by simpa[zba] using hs
 clear hs;go_wp2_with fail;refine(zg7 _ t b _ (M.o.below C.o)).mono ?_;rintro e z ⟨rfl,A⟩;have A4:w.heap.size+1<z.heap.size:=by have:=A.size;omega
 have A3:w.heap.size<z.heap.size:=by omega
 have A2:=zaa (zad A K F.o);have A0:=zaa (zad A x I.o);have D:=zaa (zae C.o A);clear n x1 y x3 x4 Z q Y u x9 R J Q L E N U O S X k A F I C;obtain⟨⟨n,x1,y,x3,x4,Z,q,Y,u,x9⟩,_⟩:=zaj A2.o;obtain⟨⟨R,J,Q,L,E,N,U,O,S,X⟩,k⟩:=zaj A0.o;go_wp2;refine bodyPost_ret (v:=.tuple #[.agg #[.int .i64 t.seq,.slice a t.info.length c,.slice a' t.data.length c',.slice r t.rev.length d,.bool t.h0.on,.int .i64 t.h0.left,.bool t.h1.on,.int .i64 t.h1.left,.bool t.h2.on,.int .i64 t.h2.left],.int .i64 8]) (by simp[results,results122,go_sem,R,J,Q,L,E,N,U,O,S,X]) rfl ⟨_,by rw[HE.o],?_⟩;refine⟨?_,?_,.inl rfl⟩
 ·rw[A1.o];refine M.o.below ?_
  repeat refine Below.setCell ?_ (by simp) _
  exact D.o
 ·repeat refine Below.setCell ?_ (by simp) _
  exact D.o
theorem z27(v:Value)(t:Tx)(h b:Int)(s:ByteArray)(w:World)(hT:IsTx w v t)(r1:t.info.length*24≤140737488355328)(r2:t.data.length*24≤140737488355328)(hr:reachE t h b=0)(hs:zba s=true)(hd:zcq t b=false):
  Calls prog 122 #[v,.int .i64 h,.int .i64 b,.string s] w fun e w'=>∃v2,e=.returned (.tuple #[v2,.int .i64 (fillE t h b s)])∧IsTx w' v2 (zao t h b s)∧Below w.heap.size w w'∧(v2=v∨za2 w.heap.size v2 (zao t h b s)):=by
 have A0:=zcd hr;have hg:=A0.1;clear A0;have X:=(za3 t).1 hg;have B4:Up (·.1) t.info:=(zfr _ _).1 ((za5 _).1 X.2.2.1.1).2;have A7:Up (·.1) t.data:=(zfr _ _).1 ((za5 _).1 X.2.2.1.2.1).2;have B5:Up id t.rev:=((za5 _).1 X.2.2.1.2.2).2;have B1:=zaw hg;clear X;have HT:=zaa hT;obtain⟨a,c,a',c',r,d,rfl,hM,hD,hR,n1,n2,n3⟩:=hT;have HM:=zaa hM;have HD:=zaa hD;have HR:=zaa hR;have N1:=zaa n1;have N2:=zaa n2;have N3:=zaa n3;clear hM hD hR n1 n2 n3;go_enter func122,ntmps122;go_wp2_with fail;refine(zch _ t h b _ (HT.o.below (zae (zab _ _) (zab _ _))) r1 r2).mono ?_;rintro e w1 ⟨rfl,I⟩;have A8:w.heap.size+1<w1.heap.size:=by have:=I.size;simp at this;omega
 have A3:w.heap.size<w1.heap.size:=by omega
 have K1:=zaa (zhl I);have K2:=zaa (zh3 I);obtain⟨⟨x0,x1,x2,x3,x4,x5,x6,x7,x8,x9⟩,_⟩:=zaj K1.o;obtain⟨⟨O,J,N,K,R,L,Q,M,S,U⟩,Z⟩:=zaj K2.o;have j:=zaa (zae (zae (zab _ _) (zab _ _)) I);clear I;have HE:Hid (fillE t h b s=0):=by rw[Hid,fillE,if_neg (by rw[hr];simp),if_neg (by rw[hs];simp),if_neg (by rw[hd];simp)]
 have A9:Hid (zao t h b s={t with data:=zbj (·.1) t.data b (b,s)}):=by rw[Hid,zao,if_pos HE.o]
 have hz:(s.size:Int)=32:=by simpa[zba] using hs
 clear hs;go_wp2_with fail;refine(zg7 _ t b _ (HT.o.below j.o)).mono ?_;rintro e E ⟨rfl,D⟩;have A5:w.heap.size+1<E.heap.size:=by have:=D.size;omega
 have A4:w.heap.size<E.heap.size:=by omega
 have k:=zaa (zad D A3 K1.o);have q:=zaa (zad D A8 K2.o);have m:=zaa (zae j.o D);clear x0 x1 x2 x3 x4 x5 x6 x7 x8 x9 O J N K R L Q M S U Z D K1 K2 j;obtain⟨⟨x0,x1,x2,x3,x4,x5,x6,x7,x8,x9⟩,_⟩:=zaj k.o;obtain⟨⟨O,J,N,K,R,L,Q,M,S,U⟩,Z⟩:=zaj q.o;go_wp2_with fail;refine(zc0 _ t _ (HT.o.below m.o) (by omega) (by omega) (by omega)).mono ?_;rintro e w4 ⟨va,vd,vr,rfl,A,Y⟩;obtain⟨a1,c1,rfl,_,_⟩:=SegC.of_owns A.2.1;obtain⟨a2,c2,rfl,_,_⟩:=SegC.of_owns A.2.2.1;obtain⟨a3,c3,rfl,_,_⟩:=SegI.of_owns A.2.2.2;have y:=zaa A;have B6:=A.lt;have A1:=zaa (zae m.o Y);have B2:=zaa (zad Y A4 k.o);have l:=zaa (zad Y A5 q.o);clear x0 x1 x2 x3 x4 x5 x6 x7 x8 x9 O J N K R L Q M S U Z Y A m k q;have o6:=y.o.2.2.1;obtain⟨⟨z0,z1,z2,z3,z4,z5,z6,z7,z8,z9⟩,gf⟩:=zaj y.o.1;obtain⟨⟨O,J,N,K,R,L,Q,M,S,U⟩,Z⟩:=zaj l.o;go_wp2_with fail;refine(zra (E.heap.size+1) _ t.data b s _ o6 (by omega) A7).mono ?_;clear o6;rintro e w6 ⟨v6,rfl,x,F⟩;obtain⟨u,i,rfl,_,_⟩:=SegC.of_owns x;have B0:=F.size;have B3:E.heap.size<w6.heap.size:=by omega
 have C:=zaa (y.o.below F);have n:Hid (w6.ownsRow (E.heap.size+1) 84 2 (.slice u (zbj (·.1) t.data b (b,s)).length i) (zbj (·.1) t.data b (b,s)).length (cellsC (zbj (·.1) t.data b (b,s)))):=za8 x (by omega);have z:=zaa (C.o.set (t':={t with data:=zbj (·.1) t.data b (b,s)}) 2 (.slice u (zbj (·.1) t.data b (b,s)).length i) rfl C.o.2.1 n.o C.o.2.2.2);have A2:=zaa (zad F (by omega) l.o);have K6:Hid ((w6.setCell ⟨E.heap.size,2,none⟩ (.slice u (zbj (·.1) t.data b (b,s)).length i)).heap[w.heap.size+1]?=_):=(Below.heap_setCell _ _ _ _ (by simp;omega)).trans A2.o;have A6:=zaa ((A1.o.trans (F.mono (by omega))).setCell (p:=⟨E.heap.size,2,none⟩) (by simp;omega) (.slice u (zbj (·.1) t.data b (b,s)).length i));clear z0 z1 z2 z3 z4 z5 z6 z7 z8 z9 gf O J N K R L Q M S U Z F x n y A1 l;obtain⟨⟨z0,z1,z2,z3,z4,z5,z6,z7,z8,z9⟩,gf⟩:=zaj C.o.1;obtain⟨⟨O,J,N,K,R,L,Q,M,S,U⟩,Z⟩:=zaj A2.o;go_wp2;refine bodyPost_ret (v:=.tuple #[.agg #[.int .i64 t.seq,(.slice a1 t.info.length c1),(.slice u (zbj (·.1) t.data b (b,s)).length i),(.slice a3 t.rev.length c3),.bool t.h0.on,.int .i64 t.h0.left,.bool t.h1.on,.int .i64 t.h1.left,.bool t.h2.on,.int .i64 t.h2.left],.int .i64 0]) (by simp[results,results122,go_sem,O,J,N,K,R,L,Q,M,S,U]) rfl ⟨_,by rw[HE.o],?_⟩;rw[A9.o];refine⟨?_,?_,.inr (z.o.fromR (t:={t with data:=zbj (·.1) t.data b (b,s)}) (by omega))⟩
 ·refine BoxTx.is (t:={t with data:=zbj (·.1) t.data b (b,s)}) (B:=E.heap.size) ?_ (by exact N1.o) (by have:=zj2 (·.1) t.data b (b,s);unfold maxLen;dsimp only at this⊢;omega) (by exact N3.o)
  repeat refine BoxTx.other ?_ (by simp;omega) _
  exact z.o
 ·iterate 10 (refine Below.setCell ?_ (by simp;try omega) _)
  exact A6.o
theorem zxg(v:Value)(t:Tx)(h b:Int)(s:ByteArray)(w:World)(hT:IsTx w v t)(r1:t.info.length*24≤140737488355328)(r2:t.data.length*24≤140737488355328):
  Calls prog 122 #[v,.int .i64 h,.int .i64 b,.string s] w fun e w'=>∃v2,e=.returned (.tuple #[v2,.int .i64 (fillE t h b s)])∧IsTx w' v2 (zao t h b s)∧Below w.heap.size w w'∧(v2=v∨za2 w.heap.size v2 (zao t h b s)):=by
 by_cases hr:reachE t h b=0
 ·cases hs:zba s with
  |false=>exact zxe v t h b s w hT r1 r2 hr hs
  |true=>
   cases hd:zcq t b with
   |true=>exact zxf v t h b s w hT r1 r2 hr hs hd
   |false=>exact z27 v t h b s w hT r1 r2 hr hs hd
 ·exact z26 v t h b s w hT r1 r2 hr
theorem zxh(v:Value)(t:Tx)(h b:Int)(w:World)(hT:IsTx w v t)(r1:t.info.length*24≤140737488355328)(r2:t.data.length*24≤140737488355328)(hr:¬reachE t h b=0):
  Calls prog 123 #[v,.int .i64 h,.int .i64 b] w fun e w'=>∃v2,e=.returned (.tuple #[v2,.int .i64 (revokeE t h b)])∧IsTx w' v2 (zag t h b)∧Below w.heap.size w w'∧(v2=v∨za2 w.heap.size v2 (zag t h b)):=by
 have L:=zaa hT;obtain⟨a,c,n,X,r,d,rfl,C,E,K,D,F,N⟩:=hT;have HM:=zaa C;have HD:=zaa E;have HR:=zaa K;have N1:=zaa D;have N2:=zaa F;have N3:=zaa N;clear C E K D F N;go_enter func123,ntmps123;go_wp2_with fail;refine(zch _ t h b _ (L.o.below (zae (zab _ _) (zab _ _))) r1 r2).mono ?_;rintro e I ⟨rfl,A⟩;have A1:w.heap.size+1<I.heap.size:=by have:=A.size;simp at this;omega
 have A0:w.heap.size<I.heap.size:=by omega
 have Q:=zaa (zhl A);have R:=zaa (zh3 A);obtain⟨⟨x0,x1,x2,x3,x4,x5,x6,x7,x8,x9⟩,_⟩:=zaj Q.o;obtain⟨⟨j,S,i,U,O,Y,l,Z,k,m⟩,ff⟩:=zaj R.o;have B:=zaa (zae (zae (zab _ _) (zab _ _)) A);clear A;have M:Hid (revokeE t h b=reachE t h b):=by rw[Hid,revokeE,if_pos hr]
 have J:Hid (zag t h b=t):=by rw[Hid,zag,if_neg (by rw[M.o];exact hr)]
 generalize reachE t h b=z at *;go_wp2;refine bodyPost_ret (v:=.tuple #[.agg #[.int .i64 t.seq,.slice a t.info.length c,.slice n t.data.length X,.slice r t.rev.length d,.bool t.h0.on,.int .i64 t.h0.left,.bool t.h1.on,.int .i64 t.h1.left,.bool t.h2.on,.int .i64 t.h2.left],.int .i64 z]) (by simp[results,results123,go_sem,j,S,i,U,O,Y,l,Z,k,m]) rfl ⟨_,by rw[M.o],?_⟩;refine⟨?_,?_,.inl rfl⟩
 ·rw[J.o];refine L.o.below ?_
  repeat refine Below.setCell ?_ (by simp) _
  exact B.o
 ·repeat refine Below.setCell ?_ (by simp) _
  exact B.o
theorem zo8(v:Value)(t:Tx)(h b:Int)(w:World)(hT:IsTx w v t)(r1:t.info.length*24≤140737488355328)(r2:t.data.length*24≤140737488355328)(hr:reachE t h b=0)(hd:za7 t.rev b=true):
  Calls prog 123 #[v,.int .i64 h,.int .i64 b] w fun e w'=>∃v2,e=.returned (.tuple #[v2,.int .i64 (revokeE t h b)])∧IsTx w' v2 (zag t h b)∧Below w.heap.size w w'∧(v2=v∨za2 w.heap.size v2 (zag t h b)):=by
 have L:=zaa hT;obtain⟨a,c,q,Z,r,d,rfl,C,E,K,D,F,N⟩:=hT;have HM:=zaa C;have HD:=zaa E;have R:=zaa K;have N1:=zaa D;have N2:=zaa F;have Q:=zaa N;clear C E K D F N;go_enter func123,ntmps123;go_wp2_with fail;refine(zch _ t h b _ (L.o.below (zae (zab _ _) (zab _ _))) r1 r2).mono ?_;rintro e I ⟨rfl,A⟩;have A1:w.heap.size+1<I.heap.size:=by have:=A.size;simp at this;omega
 have A0:w.heap.size<I.heap.size:=by omega
 have S:=zaa (zhl A);have U:=zaa (zh3 A);obtain⟨⟨x0,x1,x2,x3,x4,x5,x6,x7,x8,x9⟩,_⟩:=zaj S.o;obtain⟨⟨l,X,k,Y,O,i,n,j,m,p⟩,ff⟩:=zaj U.o;have B:=zaa (zae (zae (zab _ _) (zab _ _)) A);clear A;have M:Hid (revokeE t h b=5):=by rw[Hid,revokeE,if_neg (by rw[hr];simp),if_pos hd]
 have J:Hid (zag t h b=t):=by rw[Hid,zag,if_neg (by rw[M.o];decide)]
 go_wp2_with fail;refine(zc8 r d t.rev b _ (R.o.below B.o) Q.o).mono ?_;rintro e w2 ⟨rfl,rfl⟩;go_wp2;refine bodyPost_ret (v:=.tuple #[.agg #[.int .i64 t.seq,.slice a t.info.length c,.slice q t.data.length Z,.slice r t.rev.length d,.bool t.h0.on,.int .i64 t.h0.left,.bool t.h1.on,.int .i64 t.h1.left,.bool t.h2.on,.int .i64 t.h2.left],.int .i64 5]) (by simp[results,results123,go_sem,l,X,k,Y,O,i,n,j,m,p]) rfl ⟨_,by rw[M.o],?_⟩;refine⟨?_,?_,.inl rfl⟩
 ·rw[J.o];refine L.o.below ?_
  repeat refine Below.setCell ?_ (by simp) _
  exact B.o
 ·repeat refine Below.setCell ?_ (by simp) _
  exact B.o
theorem zmu(v:Value)(t:Tx)(h b:Int)(w:World)(hT:IsTx w v t)(r1:t.info.length*24≤140737488355328)(r2:t.data.length*24≤140737488355328)(hr:reachE t h b=0)(hd:za7 t.rev b=false)(hn:¬nameE t h b=0):
  Calls prog 123 #[v,.int .i64 h,.int .i64 b] w fun e w'=>∃v2,e=.returned (.tuple #[v2,.int .i64 (revokeE t h b)])∧IsTx w' v2 (zag t h b)∧Below w.heap.size w w'∧(v2=v∨za2 w.heap.size v2 (zag t h b)):=by
 have M:=zcd hr;have hg:=M.1;have hh:=M.2.1;clear M;have A6:=zaw hg;have HT:=zaa hT;obtain⟨a,c,a',c',r,d,rfl,hM,hD,hR,n1,n2,n3⟩:=hT;have HM:=zaa hM;have HD:=zaa hD;have HR:=zaa hR;have N1:=zaa n1;have N2:=zaa n2;have N3:=zaa n3;clear hM hD hR n1 n2 n3;go_enter func123,ntmps123;go_wp2_with fail;refine(zch _ t h b _ (HT.o.below (zae (zab _ _) (zab _ _))) r1 r2).mono ?_;rintro e J ⟨rfl,B⟩;have N:w.heap.size+1<J.heap.size:=by have:=B.size;simp at this;omega
 have D:w.heap.size<J.heap.size:=by omega
 have k:=zaa (zhl B);have O:=zaa (zh3 B);obtain⟨⟨x0,x1,x2,x3,x4,x5,x6,x7,x8,x9⟩,_⟩:=zaj k.o;obtain⟨⟨Z,Q,Y,R,j,U,i,X,l,m⟩,ff⟩:=zaj O.o;have E:=zaa (zae (zae (zab _ _) (zab _ _)) B);clear B;have HE:Hid (revokeE t h b=nameE t h b):=by rw[Hid,revokeE,if_neg (by rw[hr];simp),if_neg (by rw[hd];simp)]
 have A5:Hid (zag t h b=t):=by rw[Hid,zag,if_neg (by rw[HE.o];exact hn)]
 go_wp2_with fail;refine(zc8 r d t.rev b _ (HR.o.below E.o) N3.o).mono ?_;rintro e S ⟨rfl,rfl⟩;have n:Below J.heap.size J J:=Below.refl _ _;obtain⟨S,L⟩:∃S,S=J:=⟨_,rfl⟩;rw[←L]at n N D k O E x0 x1 x2 x3 x4 x5 x6 x7 x8 x9 Z Q Y R j U i X l m ff;rw[←L];clear L;have p:=k;have u:=O;have K:=E;have A1:=N;have A0:=D;clear n k O E N D;go_wp2_with fail;refine(zc0 _ t _ (HT.o.below K.o) (by omega) (by omega) (by omega)).mono ?_;rintro e w4 ⟨va,vd,vr,rfl,A,I⟩;obtain⟨a1,c1,rfl,_,_⟩:=SegC.of_owns A.2.1;obtain⟨a2,c2,rfl,_,_⟩:=SegC.of_owns A.2.2.1;obtain⟨a3,c3,rfl,_,_⟩:=SegI.of_owns A.2.2.2;have BX:=zaa A;have A8:=A.lt;have x:=zaa (zae K.o I);have q:=zaa (zad I A0 p.o);have s:=zaa (zad I A1 u.o);clear x0 x1 x2 x3 x4 x5 x6 x7 x8 x9 Z Q Y R j U i X l m ff I A K p u;obtain⟨⟨z0,z1,z2,z3,z4,z5,z6,z7,z8,z9⟩,gf⟩:=zaj BX.o.1;go_wp2_with fail;refine(zlb S.heap.size t _ _ _ h b w4 BX.o hg hh).mono ?_;rintro e w5 ⟨rfl,C,F⟩;have A4:=zaa C;have A7:=C.lt;have A2:=zaa ((F.block w.heap.size (by omega)).trans q.o);have A3:=zaa ((F.block (w.heap.size+1) (by omega)).trans s.o);have y:=zaa (x.o.trans (F.mono (by omega)));clear z0 z1 z2 z3 z4 z5 z6 z7 z8 z9 gf F C x q s BX;obtain⟨⟨x0,x1,x2,x3,x4,x5,x6,x7,x8,x9⟩,_⟩:=zaj A2.o;obtain⟨⟨Z,Q,Y,R,j,U,i,X,l,m⟩,ff⟩:=zaj A3.o;clear A4;generalize nameE t h b=z at *;go_wp2;refine bodyPost_ret (v:=.tuple #[.agg #[.int .i64 t.seq,.slice a t.info.length c,.slice a' t.data.length c',.slice r t.rev.length d,.bool t.h0.on,.int .i64 t.h0.left,.bool t.h1.on,.int .i64 t.h1.left,.bool t.h2.on,.int .i64 t.h2.left],.int .i64 z]) (by simp[results,results123,go_sem,Z,Q,Y,R,j,U,i,X,l,m]) rfl ⟨_,by rw[HE.o],?_⟩;refine⟨?_,?_,.inl rfl⟩
 ·rw[A5.o];refine HT.o.below ?_
  repeat refine Below.setCell ?_ (by simp) _
  exact y.o
 ·repeat refine Below.setCell ?_ (by simp) _
  exact y.o
theorem zxi(v:Value)(t:Tx)(h b:Int)(w:World)(hT:IsTx w v t)(r1:t.info.length*24≤140737488355328)(r2:t.data.length*24≤140737488355328)(hr:reachE t h b=0)(hd:za7 t.rev b=false)(hn:nameE t h b=0):
  Calls prog 123 #[v,.int .i64 h,.int .i64 b] w fun e w'=>∃v2,e=.returned (.tuple #[v2,.int .i64 (revokeE t h b)])∧IsTx w' v2 (zag t h b)∧Below w.heap.size w w'∧(v2=v∨za2 w.heap.size v2 (zag t h b)):=by
 have B6:=zcd hr;have hg:=B6.1;have hh:=B6.2.1;clear B6;have A5:=(za3 t).1 hg;have E6:Up (·.1) t.info:=(zfr _ _).1 ((za5 _).1 A5.2.2.1.1).2;have E5:Up (·.1) t.data:=(zfr _ _).1 ((za5 _).1 A5.2.2.1.2.1).2;have E2:Up id t.rev:=((za5 _).1 A5.2.2.1.2.2).2;have E7:=zaw hg;clear A5;have HT:=zaa hT;obtain⟨a,c,a',c',r,d,rfl,hM,hD,hR,n1,n2,n3⟩:=hT;have HM:=zaa hM;have HD:=zaa hD;have HR:=zaa hR;have N1:=zaa n1;have N2:=zaa n2;have N3:=zaa n3;clear hM hD hR n1 n2 n3;go_enter func123,ntmps123;go_wp2_with fail;refine(zch _ t h b _ (HT.o.below (zae (zab _ _) (zab _ _))) r1 r2).mono ?_;rintro e w1 ⟨rfl,m⟩;have B1:w.heap.size+1<w1.heap.size:=by have:=m.size;simp at this;omega
 have A1:w.heap.size<w1.heap.size:=by omega
 have K1:=zaa (zhl m);have K2:=zaa (zh3 m);obtain⟨⟨x0,x1,x2,x3,x4,x5,x6,x7,x8,x9⟩,_⟩:=zaj K1.o;obtain⟨⟨M,C,L,D,I,E,F,K,N,J⟩,R⟩:=zaj K2.o;have A4:=zaa (zae (zae (zab _ _) (zab _ _)) m);clear m;have HE:Hid (revokeE t h b=0):=by rw[Hid,revokeE,if_neg (by rw[hr];simp),if_neg (by rw[hd];simp),hn]
 have D3:Hid (zag t h b={{{nameT t h b with info:=zay (·.1) t.info b} with data:=zay (·.1) t.data b} with rev:=zbj id t.rev b b}):=by rw[Hid,zag,if_pos HE.o];rfl
 go_wp2_with fail;refine(zc8 r d t.rev b _ (HR.o.below A4.o) N3.o).mono ?_;rintro e A ⟨rfl,rfl⟩;have C0:Below w1.heap.size w1 w1:=Below.refl _ _;obtain⟨A,B0⟩:∃A,A=w1:=⟨_,rfl⟩;rw[←B0]at C0 B1 A1 K1 K2 A4 x0 x1 x2 x3 x4 x5 x6 x7 x8 x9 M C L D I E F K N J R;rw[←B0];clear B0;have C1:=K1;have C4:=K2;have A9:=A4;have D8:=B1;have D6:=A1;clear C0 K1 K2 A4 B1 A1;go_wp2_with fail;refine(zc0 _ t _ (HT.o.below A9.o) (by omega) (by omega) (by omega)).mono ?_;rintro e w4 ⟨va,vd,vr,rfl,O,A6⟩;obtain⟨a1,c1,rfl,_,_⟩:=SegC.of_owns O.2.1;obtain⟨a2,c2,rfl,_,_⟩:=SegC.of_owns O.2.2.1;obtain⟨a3,c3,rfl,_,_⟩:=SegI.of_owns O.2.2.2;have BX:=zaa O;have E9:=O.lt;have C5:=zaa (zae A9.o A6);have C2:=zaa (zad A6 D6 C1.o);have D2:=zaa (zad A6 D8 C4.o);clear x0 x1 x2 x3 x4 x5 x6 x7 x8 x9 M C L D I E F K N J R A6 O A9 C1 C4;obtain⟨⟨z,Y,z2,n,q,i,j,y,s,u⟩,Z⟩:=zaj BX.o.1;go_wp2_with fail;refine(zlb A.heap.size t _ _ _ h b w4 BX.o hg hh).mono ?_;rintro e w5 ⟨rfl,A2,A3⟩;have Q:=zaa A2;have E8:=A2.lt;have F4:=zaa ((A3.block w.heap.size (by omega)).trans C2.o);have B3:=zaa ((A3.block (w.heap.size+1) (by omega)).trans D2.o);have C6:=zaa (C5.o.trans (A3.mono (by omega)));clear z Y z2 n q i j y s u Z A3 A2 C5 C2 D2 BX;rw[zil,if_pos hn]at Q;have A0:=zet t h b;obtain⟨t',D1⟩:∃t',t'=nameT t h b:=⟨_,rfl⟩;rw[←D1]at Q D3 A0;have E4:Hid (t'.info=t.info):=A0.1;have E1:Hid (t'.data=t.data):=A0.2.1;have E0:Hid (t'.rev=t.rev):=A0.2.2;clear D1 A0;have o6:=Q.o.2.1;rw[E4.o]at o6;obtain⟨⟨z,Y,z2,n,q,i,j,y,s,u⟩,Z⟩:=zaj Q.o.1;obtain⟨⟨M,C,L,D,I,E,F,K,N,J⟩,R⟩:=zaj B3.o;go_wp2_with fail;refine(zkl (A.heap.size+1) _ t.info b _ o6 (by omega) E6).mono ?_;clear o6;rintro e w6 ⟨v6,rfl,B8,x⟩;obtain⟨p6,q6,rfl,_,_⟩:=SegC.of_owns B8;have F0:=x.size;have F1:A.heap.size<w6.heap.size:=by omega
 have X:=zaa (Q.o.below x);have B4:Hid (w6.ownsRow (A.heap.size+1) 84 2 (.slice p6 (zay (·.1) t.info b).length q6) (zay (·.1) t.info b).length (cellsC (zay (·.1) t.info b))):=za8 B8 (by omega);have B2:=zaa (X.o.set (t':={t' with info:=zay (·.1) t.info b}) 1 (.slice p6 (zay (·.1) t.info b).length q6) rfl B4.o X.o.2.2.1 X.o.2.2.2);have D5:=zaa (zad x (by omega) B3.o);have K6:Hid ((w6.setCell ⟨A.heap.size,1,none⟩ (.slice p6 (zay (·.1) t.info b).length q6)).heap[w.heap.size+1]?=_):=(Below.heap_setCell _ _ _ _ (by simp;omega)).trans D5.o;have C9:=zaa ((C6.o.trans (x.mono (by omega))).setCell (p:=⟨A.heap.size,1,none⟩) (by simp;omega) (.slice p6 (zay (·.1) t.info b).length q6));clear z Y z2 n q i j y s u Z M C L D I E F K N J R x B8 B4 Q C6 B3;have o7:=B2.o.2.2.1;dsimp only at o7;rw[E1.o]at o7;obtain⟨⟨z,Y,z2,n,q,i,j,y,s,u⟩,Z⟩:=zaj X.o.1;obtain⟨⟨M,C,L,D,I,E,F,K,N,J⟩,R⟩:=zaj D5.o;go_wp2_with fail;refine(zkl (A.heap.size+1) _ t.data b _ o7 (by omega) E5).mono ?_;clear o7;rintro e w7 ⟨v7,rfl,B7,l⟩;obtain⟨p7,q7,rfl,_,_⟩:=SegC.of_owns B7;have D7:=l.size;simp only[World.size_setCell]at D7;have F2:A.heap.size<w7.heap.size:=by omega
 have S:=zaa (B2.o.below l);have A8:Hid (w7.ownsRow (A.heap.size+1) 84 2 (.slice p7 (zay (·.1) t.data b).length q7) (zay (·.1) t.data b).length (cellsC (zay (·.1) t.data b))):=za8 B7 (by simp;omega);have B5:=zaa (S.o.set (t':={{t' with info:=zay (·.1) t.info b} with data:=zay (·.1) t.data b}) 2 (.slice p7 (zay (·.1) t.data b).length q7) rfl S.o.2.1 A8.o S.o.2.2.2);have D4:=zaa (zad l (by simp;omega) K6.o);have K7:Hid ((w7.setCell ⟨A.heap.size,2,none⟩ (.slice p7 (zay (·.1) t.data b).length q7)).heap[w.heap.size+1]?=_):=(Below.heap_setCell _ _ _ _ (by simp;omega)).trans D4.o;have C8:=zaa ((C9.o.trans (l.mono (by simp;omega))).setCell (p:=⟨A.heap.size,2,none⟩) (by simp;omega) (.slice p7 (zay (·.1) t.data b).length q7));clear z Y z2 n q i j y s u Z M C L D I E F K N J R l B7 A8 B2 C9 K6;have o8:=B5.o.2.2.2;dsimp only at o8;rw[E0.o]at o8;obtain⟨⟨z,Y,z2,n,q,i,j,y,s,u⟩,Z⟩:=zaj S.o.1;obtain⟨⟨M,C,L,D,I,E,F,K,N,J⟩,R⟩:=zaj D4.o;go_wp2_with fail;refine(z0a (A.heap.size+1) _ t.rev b _ o8 (by omega) E2).mono ?_;clear o8;rintro e w8 ⟨v8,rfl,A7,k⟩;obtain⟨p8,q8,rfl,_,_⟩:=SegI.of_owns A7;have D9:=k.size;simp only[World.size_setCell]at D9;have F3:A.heap.size<w8.heap.size:=by omega
 have U:=zaa (B5.o.below k);have B9:Hid (w8.ownsRow (A.heap.size+1) 3 1 (.slice p8 (zbj id t.rev b b).length q8) (zbj id t.rev b b).length (cellsI (zbj id t.rev b b))):=za8 A7 (by simp;omega);have C3:=zaa (U.o.set (t':={{{t' with info:=zay (·.1) t.info b} with data:=zay (·.1) t.data b} with rev:=zbj id t.rev b b}) 3 (.slice p8 (zbj id t.rev b b).length q8) rfl U.o.2.1 U.o.2.2.1 B9.o);have C7:=zaa (zad k (by simp;omega) K7.o);have K8:Hid ((w8.setCell ⟨A.heap.size,3,none⟩ (.slice p8 (zbj id t.rev b b).length q8)).heap[w.heap.size+1]?=_):=(Below.heap_setCell _ _ _ _ (by simp;omega)).trans C7.o;have E3:=zaa ((C8.o.trans (k.mono (by simp;omega))).setCell (p:=⟨A.heap.size,3,none⟩) (by simp;omega) (.slice p8 (zbj id t.rev b b).length q8));clear z Y z2 n q i j y s u Z M C L D I E F K N J R k A7 B9 B5 C8 K7;obtain⟨⟨z,Y,z2,n,q,i,j,y,s,u⟩,Z⟩:=zaj U.o.1;obtain⟨⟨M,C,L,D,I,E,F,K,N,J⟩,R⟩:=zaj C7.o;go_wp2;refine bodyPost_ret (v:=.tuple #[.agg #[.int .i64 t'.seq,(.slice p6 (zay (·.1) t.info b).length q6),(.slice p7 (zay (·.1) t.data b).length q7),(.slice p8 (zbj id t.rev b b).length q8),.bool t'.h0.on,.int .i64 t'.h0.left,.bool t'.h1.on,.int .i64 t'.h1.left,.bool t'.h2.on,.int .i64 t'.h2.left],.int .i64 0]) (by simp[results,results123,go_sem,M,C,L,D,I,E,F,K,N,J]) rfl ⟨_,by rw[HE.o],?_⟩;rw[D3.o];refine⟨?_,?_,.inr (C3.o.fromR (t:={{{t' with info:=zay (·.1) t.info b} with data:=zay (·.1) t.data b} with rev:=zbj id t.rev b b}) (by omega))⟩
 ·refine BoxTx.is (t:={{{t' with info:=zay (·.1) t.info b} with data:=zay (·.1) t.data b} with rev:=zbj id t.rev b b}) (B:=A.heap.size) ?_ (by have:=zin (·.1) t.info b;unfold maxLen;dsimp only at this⊢;omega) (by have:=zin (·.1) t.data b;unfold maxLen;dsimp only at this⊢;omega) (by have:=zj2 id t.rev b b;unfold maxLen;dsimp only;omega)
  repeat refine BoxTx.other ?_ (by simp;omega) _
  exact C3.o
 ·iterate 10 (refine Below.setCell ?_ (by simp;try omega) _)
  exact E3.o
theorem zrh(v:Value)(t:Tx)(h b:Int)(w:World)(hT:IsTx w v t)(r1:t.info.length*24≤140737488355328)(r2:t.data.length*24≤140737488355328):
  Calls prog 123 #[v,.int .i64 h,.int .i64 b] w fun e w'=>∃v2,e=.returned (.tuple #[v2,.int .i64 (revokeE t h b)])∧IsTx w' v2 (zag t h b)∧Below w.heap.size w w'∧(v2=v∨za2 w.heap.size v2 (zag t h b)):=by
 by_cases hr:reachE t h b=0
 ·cases hd:za7 t.rev b with
  |true=>exact zo8 v t h b w hT r1 r2 hr hd
  |false=>
   by_cases hn:nameE t h b=0
   ·exact zxi v t h b w hT r1 r2 hr hd hn
   ·exact zmu v t h b w hT r1 r2 hr hd hn
 ·exact zxh v t h b w hT r1 r2 hr
theorem zh2{w:World}{B:Nat}{u0 u1 u2 u3 u4 u5 u6 u7 u8 u9:Value}{t:TypeId}(h:w.heap[B]?=some (.cells #[u0,u1,u2,u3,u4,u5,u6,u7,u8,u9] t (0,0)))(v0 v1 v2 v3 v4 v5 v6 v7 v8 v9:Value):
  ((((((((((w.setCell ⟨B,0,none⟩ v0).setCell ⟨B,1,none⟩ v1).setCell ⟨B,2,none⟩ v2).setCell ⟨B,3,none⟩ v3).setCell ⟨B,4,none⟩ v4).setCell ⟨B,5,none⟩ v5).setCell ⟨B,6,none⟩ v6).setCell ⟨B,7,none⟩ v7).setCell ⟨B,8,none⟩ v8).setCell ⟨B,9,none⟩ v9).heap[B]?=some (.cells #[v0,v1,v2,v3,v4,v5,v6,v7,v8,v9] t (0,0)):=by
 have F:(w.setCell ⟨B,0,none⟩ v0).heap[B]?=some (.cells #[v0,u1,u2,u3,u4,u5,u6,u7,u8,u9] t (0,0)):=heap_setCell_same _ B 0 _ _ v0 h;have A:((w.setCell ⟨B,0,none⟩ v0).setCell ⟨B,1,none⟩ v1).heap[B]?=some (.cells #[v0,v1,u2,u3,u4,u5,u6,u7,u8,u9] t (0,0)):=heap_setCell_same _ B 1 _ _ v1 F;have J:(((w.setCell ⟨B,0,none⟩ v0).setCell ⟨B,1,none⟩ v1).setCell ⟨B,2,none⟩ v2).heap[B]?=some (.cells #[v0,v1,v2,u3,u4,u5,u6,u7,u8,u9] t (0,0)):=heap_setCell_same _ B 2 _ _ v2 A;have L:((((w.setCell ⟨B,0,none⟩ v0).setCell ⟨B,1,none⟩ v1).setCell ⟨B,2,none⟩ v2).setCell ⟨B,3,none⟩ v3).heap[B]?=some (.cells #[v0,v1,v2,v3,u4,u5,u6,u7,u8,u9] t (0,0)):=heap_setCell_same _ B 3 _ _ v3 J;have D:(((((w.setCell ⟨B,0,none⟩ v0).setCell ⟨B,1,none⟩ v1).setCell ⟨B,2,none⟩ v2).setCell ⟨B,3,none⟩ v3).setCell ⟨B,4,none⟩ v4).heap[B]?=some (.cells #[v0,v1,v2,v3,v4,u5,u6,u7,u8,u9] t (0,0)):=heap_setCell_same _ B 4 _ _ v4 L;have M:((((((w.setCell ⟨B,0,none⟩ v0).setCell ⟨B,1,none⟩ v1).setCell ⟨B,2,none⟩ v2).setCell ⟨B,3,none⟩ v3).setCell ⟨B,4,none⟩ v4).setCell ⟨B,5,none⟩ v5).heap[B]?=some (.cells #[v0,v1,v2,v3,v4,v5,u6,u7,u8,u9] t (0,0)):=heap_setCell_same _ B 5 _ _ v5 D;have I:(((((((w.setCell ⟨B,0,none⟩ v0).setCell ⟨B,1,none⟩ v1).setCell ⟨B,2,none⟩ v2).setCell ⟨B,3,none⟩ v3).setCell ⟨B,4,none⟩ v4).setCell ⟨B,5,none⟩ v5).setCell ⟨B,6,none⟩ v6).heap[B]?=some (.cells #[v0,v1,v2,v3,v4,v5,v6,u7,u8,u9] t (0,0)):=heap_setCell_same _ B 6 _ _ v6 M;have C:((((((((w.setCell ⟨B,0,none⟩ v0).setCell ⟨B,1,none⟩ v1).setCell ⟨B,2,none⟩ v2).setCell ⟨B,3,none⟩ v3).setCell ⟨B,4,none⟩ v4).setCell ⟨B,5,none⟩ v5).setCell ⟨B,6,none⟩ v6).setCell ⟨B,7,none⟩ v7).heap[B]?=some (.cells #[v0,v1,v2,v3,v4,v5,v6,v7,u8,u9] t (0,0)):=heap_setCell_same _ B 7 _ _ v7 I;have E:(((((((((w.setCell ⟨B,0,none⟩ v0).setCell ⟨B,1,none⟩ v1).setCell ⟨B,2,none⟩ v2).setCell ⟨B,3,none⟩ v3).setCell ⟨B,4,none⟩ v4).setCell ⟨B,5,none⟩ v5).setCell ⟨B,6,none⟩ v6).setCell ⟨B,7,none⟩ v7).setCell ⟨B,8,none⟩ v8).heap[B]?=some (.cells #[v0,v1,v2,v3,v4,v5,v6,v7,v8,u9] t (0,0)):=heap_setCell_same _ B 8 _ _ v8 C
 have K:((((((((((w.setCell ⟨B,0,none⟩ v0).setCell ⟨B,1,none⟩ v1).setCell ⟨B,2,none⟩ v2).setCell ⟨B,3,none⟩ v3).setCell ⟨B,4,none⟩ v4).setCell ⟨B,5,none⟩ v5).setCell ⟨B,6,none⟩ v6).setCell ⟨B,7,none⟩ v7).setCell ⟨B,8,none⟩ v8).setCell ⟨B,9,none⟩ v9).heap[B]?=some (.cells #[v0,v1,v2,v3,v4,v5,v6,v7,v8,v9] t (0,0)):=heap_setCell_same _ B 9 _ _ v9 E;exact K
theorem Below.set10{b:Nat}{W w:World}{B:Nat}(h:Below b W w)(hp:b≤B)(v0 v1 v2 v3 v4 v5 v6 v7 v8 v9:Value):
  Below b W ((((((((((w.setCell ⟨B,0,none⟩ v0).setCell ⟨B,1,none⟩ v1).setCell ⟨B,2,none⟩ v2).setCell ⟨B,3,none⟩ v3).setCell ⟨B,4,none⟩ v4).setCell ⟨B,5,none⟩ v5).setCell ⟨B,6,none⟩ v6).setCell ⟨B,7,none⟩ v7).setCell ⟨B,8,none⟩ v8).setCell ⟨B,9,none⟩ v9):=
 (((((((((h.setCell hp v0).setCell hp v1).setCell hp v2).setCell hp v3).setCell hp v4).setCell hp v5).setCell hp v6).setCell hp v7).setCell hp v8).setCell hp v9
open Go.Proofs.Tryz
theorem z0q(v:Value)(t:Tx)(h:Int)(w:World)(hT:IsTx w v t)(r1:t.info.length*24≤140737488355328)(r2:t.data.length*24≤140737488355328)(hg:za9 t=false):
  Calls prog 81 #[v,.int .i64 h] w fun e w'=>∃v2,e=.returned (.tuple #[v2,.int .i64 (zcy t h)])∧IsTx w' v2 (zb2 t h)∧Below w.heap.size w w'∧(v2=v∨za2 w.heap.size v2 (zb2 t h)):=by
 have I:=zaa hT;obtain⟨a,c,m,X,r,d,rfl,M,N,U,C,D,K⟩:=hT;have N1:=zaa C;have N2:=zaa D;have N3:=zaa K;clear M N U C D K;go_enter func81,ntmps81;go_wp2_with fail;refine(zb6 _ t _ (I.o.below (zae (zab _ _) (zab _ _))) r1 r2).mono ?_;rintro e E ⟨rfl,A⟩;have A1:w.heap.size+1<E.heap.size:=by have:=A.size;simp at this;omega
 have A0:w.heap.size<E.heap.size:=by omega
 have O:=zaa (zhl A);have Q:=zaa (zh3 A);obtain⟨⟨x0,x1,x2,x3,x4,x5,x6,x7,x8,x9⟩,_⟩:=zaj O.o;obtain⟨⟨i,R,b,S,L,Y,k,Z,j,l⟩,ff⟩:=zaj Q.o;have B:=zaa (zae (zae (zab _ _) (zab _ _)) A);clear A;have J:Hid (zcy t h=2):=by rw[Hid,zcy,if_pos hg]
 have F:Hid (zb2 t h=t):=by rw[Hid,zb2,J.o];rfl
 go_wp2;refine bodyPost_ret (v:=.tuple #[.agg #[.int .i64 t.seq,.slice a t.info.length c,.slice m t.data.length X,.slice r t.rev.length d,.bool t.h0.on,.int .i64 t.h0.left,.bool t.h1.on,.int .i64 t.h1.left,.bool t.h2.on,.int .i64 t.h2.left],.int .i64 2]) (by simp[results,results81,go_sem,i,R,b,S,L,Y,k,Z,j,l]) rfl ⟨_,by rw[J.o],?_⟩;refine⟨?_,?_,.inl rfl⟩
 ·rw[F.o];refine I.o.below ?_
  repeat refine Below.setCell ?_ (by simp) _
  exact B.o
 ·repeat refine Below.setCell ?_ (by simp) _
  exact B.o
theorem zx0(v:Value)(t:Tx)(h:Int)(w:World)(hT:IsTx w v t)(r1:t.info.length*24≤140737488355328)(r2:t.data.length*24≤140737488355328)(hg:za9 t=true)(ho:onB t h=false):
  Calls prog 81 #[v,.int .i64 h] w fun e w'=>∃v2,e=.returned (.tuple #[v2,.int .i64 (zcy t h)])∧IsTx w' v2 (zb2 t h)∧Below w.heap.size w w'∧(v2=v∨za2 w.heap.size v2 (zb2 t h)):=by
 have M:=zaa hT;obtain⟨a,c,a',c',r,d,rfl,hM,hD,hR,b,k,n3⟩:=hT;have N1:=zaa b;have N2:=zaa k;have N3:=zaa n3;clear hM hD hR b k n3;go_enter func81,ntmps81;go_wp2_with fail;refine(zb6 _ t _ (M.o.below (zae (zab _ _) (zab _ _))) r1 r2).mono ?_;rintro e l ⟨rfl,B⟩;have p:w.heap.size+1<l.heap.size:=by have:=B.size;simp at this;omega
 have K:w.heap.size<l.heap.size:=by omega
 have F:=zaa (zhl B);have I:=zaa (zh3 B);obtain⟨⟨j,z,q,x3,y,Z,m,Y,n,x9⟩,_⟩:=zaj F.o;obtain⟨⟨R,J,Q,L,E,N,U,O,S,X⟩,i⟩:=zaj I.o;have C:=zaa (zae (zae (zab _ _) (zab _ _)) B);clear B
 have HE:Hid (zcy t h=4):=by
  rw[Hid,zcy,if_neg (by rw[hg];simp),if_pos];by_cases e:0≤h∧h≤2
  ·rw[onB,zbf.2 e,Bool.true_and]at ho;exact .inr (.inr ho)
  ·omega
 have x:Hid (zb2 t h=t):=by rw[Hid,zb2,HE.o];rfl
 go_wp2_with fail;refine(zje _ t h _ (M.o.below C.o)).mono ?_;rintro e s ⟨rfl,A⟩;have A2:w.heap.size+1<s.heap.size:=by have:=A.size;omega
 have A1:w.heap.size<s.heap.size:=by omega
 have A0:=zaa (zad A K F.o);have u:=zaa (zad A p I.o);have D:=zaa (zae C.o A);clear j z q x3 y Z m Y n x9 R J Q L E N U O S X i A F I C;obtain⟨⟨j,z,q,x3,y,Z,m,Y,n,x9⟩,_⟩:=zaj A0.o;obtain⟨⟨R,J,Q,L,E,N,U,O,S,X⟩,i⟩:=zaj u.o;go_wp2;refine bodyPost_ret (v:=.tuple #[.agg #[.int .i64 t.seq,.slice a t.info.length c,.slice a' t.data.length c',.slice r t.rev.length d,.bool t.h0.on,.int .i64 t.h0.left,.bool t.h1.on,.int .i64 t.h1.left,.bool t.h2.on,.int .i64 t.h2.left],.int .i64 4]) (by simp[results,results81,go_sem,R,J,Q,L,E,N,U,O,S,X]) rfl ⟨_,by rw[HE.o],?_⟩;refine⟨?_,?_,.inl rfl⟩
 ·rw[x.o];refine M.o.below ?_
  repeat refine Below.setCell ?_ (by simp) _
  exact D.o
 ·repeat refine Below.setCell ?_ (by simp) _
  exact D.o
theorem z0r(v:Value)(t:Tx)(w:World)(hT:IsTx w v t)(r1:t.info.length*24≤140737488355328)(r2:t.data.length*24≤140737488355328)(hg:za9 t=true)(ho:onB t 0=true):
  Calls prog 81 #[v,.int .i64 0] w fun e w'=>∃v2,e=.returned (.tuple #[v2,.int .i64 (zcy t 0)])∧IsTx w' v2 (zb2 t 0)∧Below w.heap.size w w'∧(v2=v∨za2 w.heap.size v2 (zb2 t 0)):=by
 have A6:=zaw hg;have l:=zaa hT;obtain⟨a,c,a',c',r,d,rfl,hM,hD,hR,n1,n2,n3⟩:=hT;have N1:=zaa n1;have N2:=zaa n2;have N3:=zaa n3;clear hM hD hR n1 n2 n3;go_enter func81,ntmps81;go_wp2_with fail;refine(zb6 _ t _ (l.o.below (zae (zab _ _) (zab _ _))) r1 r2).mono ?_;rintro e w1 ⟨rfl,D⟩;have A2:w.heap.size+1<w1.heap.size:=by have:=D.size;simp at this;omega
 have k:w.heap.size<w1.heap.size:=by omega
 have q:=zaa (zhl D);have j:=zaa (zh3 D);obtain⟨⟨i,m,x,n,z,p,s,h,u,x9⟩,_⟩:=zaj q.o;obtain⟨⟨O,J,N,K,R,L,Q,M,U,Y⟩,Z⟩:=zaj j.o;have I:=zaa (zae (zae (zab _ _) (zab _ _)) D);clear D
 have HE:Hid (zcy t 0=0):=by
  rw[Hid,zcy,if_neg (by rw[hg];simp),if_neg];have:(zel t 0).on=true:=ho;rw[this];simp
 have A3:Hid (zb2 t 0={t with h0:=⟨false,0⟩}):=by rw[Hid,zb2,HE.o];rfl
 go_wp2_with fail;refine(zje _ t 0 _ (l.o.below I.o)).mono ?_;rintro e F ⟨rfl,C⟩;have A0:w.heap.size+1<F.heap.size:=by have:=C.size;omega
 have A5:w.heap.size<F.heap.size:=by omega
 have A1:=zaa (zad C k q.o);have b:=zaa (zad C A2 j.o);have S:=zaa (zae I.o C);clear i m x n z p s h u x9 O J N K R L Q M U Y Z C q j I;obtain⟨⟨i,m,x,n,z,p,s,h,u,x9⟩,_⟩:=zaj A1.o;obtain⟨⟨O,J,N,K,R,L,Q,M,U,Y⟩,Z⟩:=zaj b.o;go_wp2_with fail;refine(zc0 _ t _ (l.o.below S.o) (by omega) (by omega) (by omega)).mono ?_;rintro e w4 ⟨va,vd,vr,rfl,A,X⟩;obtain⟨a1,c1,rfl,_,_⟩:=SegC.of_owns A.2.1;obtain⟨a2,c2,rfl,_,_⟩:=SegC.of_owns A.2.2.1;obtain⟨a3,c3,rfl,_,_⟩:=SegI.of_owns A.2.2.2;have E:=zaa A;have A7:=A.lt;have A4:=zaa (zae S.o X);have y:=zaa (zad X A0 b.o);clear i m x n z p s h u x9 O J N K R L Q M U Y Z X A S;obtain⟨⟨O,J,N,K,R,L,Q,M,U,Y⟩,Z⟩:=zaj y.o;obtain⟨⟨z0,z1,z2,z3,z4,z5,z6,z7,z8,z9⟩,gf⟩:=zaj E.o.1;have HX:Hid (BoxTx ((w4.setCell ⟨F.heap.size,4,none⟩ (.bool false)).setCell ⟨F.heap.size,5,none⟩ (.int .i64 0)) F.heap.size {t with h0:=⟨false,0⟩} (.slice a1 t.info.length c1) (.slice a2 t.data.length c2) (.slice a3 t.rev.length c3)):=(E.o.set (t':={t with h0:=⟨false,t.h0.left⟩}) 4 (.bool false) rfl E.o.2.1 E.o.2.2.1 E.o.2.2.2).set (t':={t with h0:=⟨false,0⟩}) 5 (.int .i64 0) rfl (ownsRow_setCell_below E.o.2.1 (by simp) _) (ownsRow_setCell_below E.o.2.2.1 (by simp) _) (ownsRow_setCell_below E.o.2.2.2 (by simp) _);go_wp2;refine bodyPost_ret (v:=.tuple #[.agg #[.int .i64 t.seq,.slice a1 t.info.length c1,.slice a2 t.data.length c2,.slice a3 t.rev.length c3,.bool false,.int .i64 0,.bool t.h1.on,.int .i64 t.h1.left,.bool t.h2.on,.int .i64 t.h2.left],.int .i64 0]) (by simp[results,results81,go_sem,O,J,N,K,R,L,Q,M,U,Y]) rfl ⟨_,by rw[HE.o],?_⟩;rw[A3.o];refine⟨?_,?_,.inr (HX.o.fromR (t:={t with h0:=⟨false,0⟩}) (by omega))⟩
 ·refine BoxTx.is (t:={t with h0:=⟨false,0⟩}) (B:=F.heap.size) ?_ N1.o N2.o N3.o
  repeat refine BoxTx.other ?_ (by simp;omega) _
  exact HX.o
 ·repeat refine Below.setCell ?_ (by simp;try omega) _
  exact A4.o
theorem z0s(v:Value)(t:Tx)(w:World)(hT:IsTx w v t)(r1:t.info.length*24≤140737488355328)(r2:t.data.length*24≤140737488355328)(hg:za9 t=true)(ho:onB t 1=true):
  Calls prog 81 #[v,.int .i64 1] w fun e w'=>∃v2,e=.returned (.tuple #[v2,.int .i64 (zcy t 1)])∧IsTx w' v2 (zb2 t 1)∧Below w.heap.size w w'∧(v2=v∨za2 w.heap.size v2 (zb2 t 1)):=by
 have A6:=zaw hg;have l:=zaa hT;obtain⟨a,c,a',c',r,d,rfl,hM,hD,hR,n1,n2,n3⟩:=hT;have N1:=zaa n1;have N2:=zaa n2;have N3:=zaa n3;clear hM hD hR n1 n2 n3;go_enter func81,ntmps81;go_wp2_with fail;refine(zb6 _ t _ (l.o.below (zae (zab _ _) (zab _ _))) r1 r2).mono ?_;rintro e w1 ⟨rfl,D⟩;have A2:w.heap.size+1<w1.heap.size:=by have:=D.size;simp at this;omega
 have k:w.heap.size<w1.heap.size:=by omega
 have q:=zaa (zhl D);have j:=zaa (zh3 D);obtain⟨⟨i,m,x,n,z,p,s,h,u,x9⟩,_⟩:=zaj q.o;obtain⟨⟨O,J,N,K,R,L,Q,M,U,Y⟩,Z⟩:=zaj j.o;have I:=zaa (zae (zae (zab _ _) (zab _ _)) D);clear D
 have HE:Hid (zcy t 1=0):=by
  rw[Hid,zcy,if_neg (by rw[hg];simp),if_neg];have:(zel t 1).on=true:=ho;rw[this];simp
 have A3:Hid (zb2 t 1={t with h1:=⟨false,0⟩}):=by rw[Hid,zb2,HE.o];rfl
 go_wp2_with fail;refine(zje _ t 1 _ (l.o.below I.o)).mono ?_;rintro e F ⟨rfl,C⟩;have A0:w.heap.size+1<F.heap.size:=by have:=C.size;omega
 have A5:w.heap.size<F.heap.size:=by omega
 have A1:=zaa (zad C k q.o);have b:=zaa (zad C A2 j.o);have S:=zaa (zae I.o C);clear i m x n z p s h u x9 O J N K R L Q M U Y Z C q j I;obtain⟨⟨i,m,x,n,z,p,s,h,u,x9⟩,_⟩:=zaj A1.o;obtain⟨⟨O,J,N,K,R,L,Q,M,U,Y⟩,Z⟩:=zaj b.o;go_wp2_with fail;refine(zc0 _ t _ (l.o.below S.o) (by omega) (by omega) (by omega)).mono ?_;rintro e w4 ⟨va,vd,vr,rfl,A,X⟩;obtain⟨a1,c1,rfl,_,_⟩:=SegC.of_owns A.2.1;obtain⟨a2,c2,rfl,_,_⟩:=SegC.of_owns A.2.2.1;obtain⟨a3,c3,rfl,_,_⟩:=SegI.of_owns A.2.2.2;have E:=zaa A;have A7:=A.lt;have A4:=zaa (zae S.o X);have y:=zaa (zad X A0 b.o);clear i m x n z p s h u x9 O J N K R L Q M U Y Z X A S;obtain⟨⟨O,J,N,K,R,L,Q,M,U,Y⟩,Z⟩:=zaj y.o;obtain⟨⟨z0,z1,z2,z3,z4,z5,z6,z7,z8,z9⟩,gf⟩:=zaj E.o.1;have HX:Hid (BoxTx ((w4.setCell ⟨F.heap.size,6,none⟩ (.bool false)).setCell ⟨F.heap.size,7,none⟩ (.int .i64 0)) F.heap.size {t with h1:=⟨false,0⟩} (.slice a1 t.info.length c1) (.slice a2 t.data.length c2) (.slice a3 t.rev.length c3)):=(E.o.set (t':={t with h1:=⟨false,t.h1.left⟩}) 6 (.bool false) rfl E.o.2.1 E.o.2.2.1 E.o.2.2.2).set (t':={t with h1:=⟨false,0⟩}) 7 (.int .i64 0) rfl (ownsRow_setCell_below E.o.2.1 (by simp) _) (ownsRow_setCell_below E.o.2.2.1 (by simp) _) (ownsRow_setCell_below E.o.2.2.2 (by simp) _);go_wp2;refine bodyPost_ret (v:=.tuple #[.agg #[.int .i64 t.seq,.slice a1 t.info.length c1,.slice a2 t.data.length c2,.slice a3 t.rev.length c3,.bool t.h0.on,.int .i64 t.h0.left,.bool false,.int .i64 0,.bool t.h2.on,.int .i64 t.h2.left],.int .i64 0]) (by simp[results,results81,go_sem,O,J,N,K,R,L,Q,M,U,Y]) rfl ⟨_,by rw[HE.o],?_⟩;rw[A3.o];refine⟨?_,?_,.inr (HX.o.fromR (t:={t with h1:=⟨false,0⟩}) (by omega))⟩
 ·refine BoxTx.is (t:={t with h1:=⟨false,0⟩}) (B:=F.heap.size) ?_ N1.o N2.o N3.o
  repeat refine BoxTx.other ?_ (by simp;omega) _
  exact HX.o
 ·repeat refine Below.setCell ?_ (by simp;try omega) _
  exact A4.o
theorem z0t(v:Value)(t:Tx)(w:World)(hT:IsTx w v t)(r1:t.info.length*24≤140737488355328)(r2:t.data.length*24≤140737488355328)(hg:za9 t=true)(ho:onB t 2=true):
  Calls prog 81 #[v,.int .i64 2] w fun e w'=>∃v2,e=.returned (.tuple #[v2,.int .i64 (zcy t 2)])∧IsTx w' v2 (zb2 t 2)∧Below w.heap.size w w'∧(v2=v∨za2 w.heap.size v2 (zb2 t 2)):=by
 have A6:=zaw hg;have l:=zaa hT;obtain⟨a,c,a',c',r,d,rfl,hM,hD,hR,n1,n2,n3⟩:=hT;have N1:=zaa n1;have N2:=zaa n2;have N3:=zaa n3;clear hM hD hR n1 n2 n3;go_enter func81,ntmps81;go_wp2_with fail;refine(zb6 _ t _ (l.o.below (zae (zab _ _) (zab _ _))) r1 r2).mono ?_;rintro e w1 ⟨rfl,D⟩;have A2:w.heap.size+1<w1.heap.size:=by have:=D.size;simp at this;omega
 have k:w.heap.size<w1.heap.size:=by omega
 have q:=zaa (zhl D);have j:=zaa (zh3 D);obtain⟨⟨i,m,x,n,z,p,s,h,u,x9⟩,_⟩:=zaj q.o;obtain⟨⟨O,J,N,K,R,L,Q,M,U,Y⟩,Z⟩:=zaj j.o;have I:=zaa (zae (zae (zab _ _) (zab _ _)) D);clear D
 have HE:Hid (zcy t 2=0):=by
  rw[Hid,zcy,if_neg (by rw[hg];simp),if_neg];have:(zel t 2).on=true:=ho;rw[this];simp
 have A3:Hid (zb2 t 2={t with h2:=⟨false,0⟩}):=by rw[Hid,zb2,HE.o];rfl
 go_wp2_with fail;refine(zje _ t 2 _ (l.o.below I.o)).mono ?_;rintro e F ⟨rfl,C⟩;have A0:w.heap.size+1<F.heap.size:=by have:=C.size;omega
 have A5:w.heap.size<F.heap.size:=by omega
 have A1:=zaa (zad C k q.o);have b:=zaa (zad C A2 j.o);have S:=zaa (zae I.o C);clear i m x n z p s h u x9 O J N K R L Q M U Y Z C q j I;obtain⟨⟨i,m,x,n,z,p,s,h,u,x9⟩,_⟩:=zaj A1.o;obtain⟨⟨O,J,N,K,R,L,Q,M,U,Y⟩,Z⟩:=zaj b.o;go_wp2_with fail;refine(zc0 _ t _ (l.o.below S.o) (by omega) (by omega) (by omega)).mono ?_;rintro e w4 ⟨va,vd,vr,rfl,A,X⟩;obtain⟨a1,c1,rfl,_,_⟩:=SegC.of_owns A.2.1;obtain⟨a2,c2,rfl,_,_⟩:=SegC.of_owns A.2.2.1;obtain⟨a3,c3,rfl,_,_⟩:=SegI.of_owns A.2.2.2;have E:=zaa A;have A7:=A.lt;have A4:=zaa (zae S.o X);have y:=zaa (zad X A0 b.o);clear i m x n z p s h u x9 O J N K R L Q M U Y Z X A S;obtain⟨⟨O,J,N,K,R,L,Q,M,U,Y⟩,Z⟩:=zaj y.o;obtain⟨⟨z0,z1,z2,z3,z4,z5,z6,z7,z8,z9⟩,gf⟩:=zaj E.o.1;have HX:Hid (BoxTx ((w4.setCell ⟨F.heap.size,8,none⟩ (.bool false)).setCell ⟨F.heap.size,9,none⟩ (.int .i64 0)) F.heap.size {t with h2:=⟨false,0⟩} (.slice a1 t.info.length c1) (.slice a2 t.data.length c2) (.slice a3 t.rev.length c3)):=(E.o.set (t':={t with h2:=⟨false,t.h2.left⟩}) 8 (.bool false) rfl E.o.2.1 E.o.2.2.1 E.o.2.2.2).set (t':={t with h2:=⟨false,0⟩}) 9 (.int .i64 0) rfl (ownsRow_setCell_below E.o.2.1 (by simp) _) (ownsRow_setCell_below E.o.2.2.1 (by simp) _) (ownsRow_setCell_below E.o.2.2.2 (by simp) _);go_wp2;refine bodyPost_ret (v:=.tuple #[.agg #[.int .i64 t.seq,.slice a1 t.info.length c1,.slice a2 t.data.length c2,.slice a3 t.rev.length c3,.bool t.h0.on,.int .i64 t.h0.left,.bool t.h1.on,.int .i64 t.h1.left,.bool false,.int .i64 0],.int .i64 0]) (by simp[results,results81,go_sem,O,J,N,K,R,L,Q,M,U,Y]) rfl ⟨_,by rw[HE.o],?_⟩;rw[A3.o];refine⟨?_,?_,.inr (HX.o.fromR (t:={t with h2:=⟨false,0⟩}) (by omega))⟩
 ·refine BoxTx.is (t:={t with h2:=⟨false,0⟩}) (B:=F.heap.size) ?_ N1.o N2.o N3.o
  repeat refine BoxTx.other ?_ (by simp;omega) _
  exact HX.o
 ·repeat refine Below.setCell ?_ (by simp;try omega) _
  exact A4.o
theorem zx1(v:Value)(t:Tx)(h:Int)(w:World)(hT:IsTx w v t)(r1:t.info.length*24≤140737488355328)(r2:t.data.length*24≤140737488355328):
  Calls prog 81 #[v,.int .i64 h] w fun e w'=>∃v2,e=.returned (.tuple #[v2,.int .i64 (zcy t h)])∧IsTx w' v2 (zb2 t h)∧Below w.heap.size w w'∧(v2=v∨za2 w.heap.size v2 (zb2 t h)):=by
 cases hg:za9 t with
 |false=>exact z0q v t h w hT r1 r2 hg
 |true=>
  cases ho:onB t h with
  |false=>exact zx0 v t h w hT r1 r2 hg ho
  |true=>
   have A:zap h 0 2=true:=by rw[onB]at ho;exact(Bool.and_eq_true _ _▸ho:_∧_).1
   have hr:=zbf.1 A;have B:h=0∨h=1∨h=2:=by omega
   rcases B with rfl|rfl|rfl
   ·exact z0r v t w hT r1 r2 hg ho
   ·exact z0s v t w hT r1 r2 hg ho
   ·exact z0t v t w hT r1 r2 hg ho
