/-
  
-/
import Derived.Test.YtjnpndfpajjihacGreatGrTopOrdered30
import Derived.Test.YtjnpndfpajjihacGreatGrTopOrdered36
import Derived.Test.YtjnpndfpajjihacGreatGrTopOrdered15
set_option maxRecDepth 100000
set_option maxHeartbeats 40000000
namespace Go.Proofs.YtjnpndfpajjihacGreat
open Go.RowKit
theorem zvb(n:Int)(h: -9223372036854775808≤n∧n≤9223372036854775807):wrap64 n=n:=by unfold wrap64;omega
theorem zl9{t:Tx}(h:zba t=true)(k:Int):hdB (zes t k)=true:=by
 have:=((za9 t).1 h).2.2.2.2;unfold zes;split
 ·exact this.1
 ·split
  ·exact this.2.1
  ·exact this.2.2
theorem zc9{t:Tx}(h:zba t=true):zb2 t=(t.info.length:Int)+(t.rev.length:Int)+t.h0.left+t.h1.left+t.h2.left∧0≤zb2 t∧zb2 t≤96:=by
 have hs:=zaz h;have A:=((za9 t).1 h).2.2.2.2;have a0:=(zer _).1 A.1;have a1:=(zer _).1 A.2.1;have a2:=(zer _).1 A.2.2
 have e:zb2 t=(t.info.length:Int)+(t.rev.length:Int)+t.h0.left+t.h1.left+t.h2.left:=by
  unfold zb2;rw[zvb ((t.info.length:Int)+(t.rev.length:Int)) (by omega),zvb ((t.info.length:Int)+(t.rev.length:Int)+t.h0.left) (by omega),zvb ((t.info.length:Int)+(t.rev.length:Int)+t.h0.left+t.h1.left) (by omega),zvb _ (by omega)]
 rw[e];omega
theorem zcg(v:Value)(t:Tx)(h b:Int)(w:World)(hT:IsTx w v t)(r1:t.info.length*24≤140737488355328)(r2:t.data.length*24≤140737488355328):
  Calls Tryz.prog 152 #[v,.int .i64 h,.int .i64 b] w fun e w'=>e=.returned (.int .i64 (reachE t h b))∧Below w.heap.size w w':=by
 have K:=zab hT;obtain⟨a,c,a',c',r,d,rfl,i,Z,j,R,N,l⟩:=hT;clear i Z j R N l;go_enter Tryz.func152,Tryz.ntmps152;go_wp2_with fail;refine(zb7 _ t _ (K.o.below (zaa _ _)) r1 r2).mono ?_;rintro e O ⟨rfl,B⟩;have A0:w.heap.size<O.heap.size:=by have:=B.size;simp at this;omega
 obtain⟨⟨Q,n,X,m,U,L,M,k,Y,S⟩,_⟩:=zaj (z32 B);have I:=zab (zae (zaa _ _) B);clear B
 cases hg:zba t with
 |false=>
  have A:Hid (reachE t h b=2):=by rw[Hid,reachE,if_pos hg]
  go_wp2;go_ret;exact⟨by rw[A.o];rfl,I.o⟩
 |true=>
  have J:=zab hg;go_wp2_with fail;refine(zjh _ t h _ (K.o.below I.o)).mono ?_;rintro e w2 ⟨rfl,F⟩;have D:=zab (zae I.o F);clear F Q n X m U L M k Y S hg
  cases ho:onB t h with
  |false=>
   have A:Hid (reachE t h b=4):=by
    rw[Hid,reachE,if_neg (by rw[J.o];simp),if_pos];rw[onB]at ho;by_cases E:0≤h∧h≤2
    ·rw[zbe.2 E,Bool.true_and]at ho;exact .inr (.inr (.inl ho))
    ·omega
   go_wp2;go_ret;exact⟨by rw[A.o];rfl,D.o⟩
  |true=>
   have C:zap h 0 2=true∧(zes t h).on=true:=by rw[onB]at ho;simpa using ho
   have E:=zbe.1 C.1
   cases hq:zap b 0 11 with
   |false=>
    have A:Hid (reachE t h b=4):=by
     rw[Hid,reachE,if_neg (by rw[J.o];simp),if_pos];by_cases hb:0≤b∧b≤11
     ·rw[zbe.2 hb]at hq;cases hq
     ·omega
    clear C E;go_wp2_with (go_at_call 59;refine(za0 _ _ _ _).mono ?_;rintro e w' ⟨rfl,rfl⟩);go_ret;exact⟨by rw[A.o];rfl,D.o⟩
   |true=>
    have hb:=zbe.1 hq
    have A:Hid (reachE t h b=0):=by
     rw[Hid,reachE,if_neg (by rw[J.o];simp),if_neg];rw[C.2];simp;omega
    clear C E hb;go_wp2_with (go_at_call 59;refine(za0 _ _ _ _).mono ?_;rintro e w' ⟨rfl,rfl⟩);go_ret;exact⟨by rw[A.o];rfl,D.o⟩
theorem zcc{t:Tx}{h b:Int}(e:reachE t h b=0):zba t=true∧(h=0∨h=1∨h=2)∧(zes t h).on=true∧0≤b∧b≤11:=by
 unfold reachE at e
 cases hg:zba t with
 |false=>rw[if_pos hg]at e;cases e
 |true=>
  rw[if_neg (by rw[hg];simp)]at e;by_cases hc:h<0∨2<h∨(zes t h).on=false∨b<0∨11<b
  ·rw[if_pos hc]at e;cases e
  ·have A:(zes t h).on=true:=by cases hh:(zes t h).on;exact absurd (.inr (.inr (.inl hh))) hc;rfl
   refine⟨rfl,by omega,A,by omega,by omega⟩
theorem zgh{l:List Int}(h:zbk l=true):l.Nodup:=by
 rw[za8]at h;exact List.Pairwise.imp (fun h=>by simp only[id]at h;omega) h.2
def zz5 (t:Tx):Prop:=(∀x∈blksOf t.info,x∉blksOf t.data∧x∉t.rev)∧∀x∈blksOf t.data,x∉t.rev
theorem zn2{t:Tx}(h1:zbk (blksOf t.info)=true)(h2:zbk (blksOf t.data)=true)(h3:zbk t.rev=true):(zky t).Nodup↔zz5 t:=by
 rw[zky,List.nodup_append,List.nodup_append];constructor
 ·rintro⟨_,⟨_,_,a⟩,b⟩;refine⟨fun x hx=>⟨fun e=>b x hx x (List.mem_append.2 (.inl e)) rfl,fun e=>b x hx x (List.mem_append.2 (.inr e)) rfl⟩,fun x hx e=>a x hx x e rfl⟩
 ·rintro⟨a,b⟩;refine⟨zgh h1,⟨zgh h2,zgh h3,fun x hx y hy e=>b x hx (e▸hy)⟩,fun x hx y hy e=>?_⟩;rcases List.mem_append.1 hy with hy|hy
  ·exact(a x hx).1 (e▸hy)
  ·exact(a x hx).2 (e▸hy)
theorem zpa{l:List (Int×ByteArray)}{b:Int}:b∈blksOf l↔(zai b l).isSome=true:=by
 rw[zld,List.any_eq_true,blksOf,List.mem_map];constructor
 ·rintro⟨x,A,rfl⟩;exact⟨x,A,by simp⟩
 ·rintro⟨x,A,e⟩;exact⟨x,A,by simpa using e⟩
theorem zd9{l:List Int}{b:Int}:b∈l↔zay l b=true:=by
 rw[zay,List.any_eq_true];constructor
 ·intro h;exact⟨b,h,by simp⟩
 ·rintro⟨x,A,e⟩;have:x=b:=by simpa using e
  rw[←this];exact A
theorem zji{l:List (Int×ByteArray)}{b y:Int}{s:ByteArray}:y∈blksOf (zbj (·.1) l b (b,s))↔y=b∨(y∈blksOf l∧y≠b):=by
 simp only[blksOf,List.mem_map];constructor
 ·rintro⟨x,C,rfl⟩;rcases zfj.1 C with rfl|⟨A,B⟩
  ·exact .inl rfl
  ·exact .inr ⟨⟨x,A,rfl⟩,B⟩
 ·rintro(rfl|⟨⟨x,A,rfl⟩,B⟩)
  ·exact⟨_,zfj.2 (.inl rfl),rfl⟩
  ·exact⟨x,zfj.2 (.inr ⟨A,B⟩),rfl⟩
theorem zhd{l:List (Int×ByteArray)}{b y:Int}:y∈blksOf (zax (·.1) l b)↔y∈blksOf l∧y≠b:=by
 simp only[blksOf,List.mem_map];constructor
 ·rintro⟨x,C,rfl⟩;have:=zd6.1 C;exact⟨⟨x,this.1,rfl⟩,this.2⟩
 ·rintro⟨⟨x,A,rfl⟩,B⟩;exact⟨x,zd6.2 ⟨A,B⟩,rfl⟩
theorem zq6{l:List (Int×ByteArray)}(h:zbk (blksOf l)=true){b:Int}(h0:0≤b)(h1:b≤11)(s:ByteArray):zbk (blksOf (zbj (·.1) l b (b,s)))=true:=by
 have A:=(za8 _).1 h;rw[za8];refine⟨fun y hy=>?_,?_⟩
 ·rcases zji.1 hy with rfl|⟨e,_⟩
  ·exact⟨h0,h1⟩
  ·exact A.1 y e
 ·rw[blksOf,zfo]at A⊢;exact zuu A.2 rfl
theorem zma{l:List (Int×ByteArray)}(h:zbk (blksOf l)=true)(b:Int):zbk (blksOf (zax (·.1) l b))=true:=by
 have A:=(za8 _).1 h;rw[za8];refine⟨fun y hy=>A.1 y (zhd.1 hy).1,?_⟩;rw[blksOf,zfo]at A⊢;exact zsl A.2 b
theorem zw1{l:List Int}(h:zbk l=true){b:Int}(h0:0≤b)(h1:b≤11):zbk (zbj id l b b)=true:=by
 rw[za8]at h⊢;refine⟨fun y hy=>?_,zuu h.2 rfl⟩;rcases zfj.1 hy with rfl|⟨e,_⟩
 ·exact⟨h0,h1⟩
 ·exact h.1 y e
theorem ztk{l:List Int}(h:zbk l=true)(b:Int):zbk (zax id l b)=true:=by
 rw[za8]at h⊢;exact⟨fun y hy=>h.1 y (zd6.1 hy).1,zsl h.2 b⟩
theorem zvc{l:List (Int×ByteArray)}(h:zb6 l=true)(b:Int){s:ByteArray}(hs:zbb s=true):zb6 (zbj (·.1) l b (b,s))=true:=by
 unfold zb6 at h⊢;rw[List.all_eq_true]at h⊢;intro x A;rcases zfj.1 A with rfl|⟨e,_⟩
 ·exact hs
 ·exact h x e
theorem zn3{l:List (Int×ByteArray)}(h:zb6 l=true)(b:Int):zb6 (zax (·.1) l b)=true:=by
 unfold zb6 at h⊢;rw[List.all_eq_true]at h⊢;intro x A;exact h x (zd6.1 A).1
theorem zhz{α:Type}{key:α→Int}{l:List α}(h:Up key l)(b:Int):(zax key l b).length+(if(l.any fun x=>key x==b)=true then 1 else 0)=l.length:=by
 induction l with
 |nil=>rfl
 |cons x r ih=>
  have C:=List.pairwise_cons.1 h;have B:=ih C.2;have hd:=zsm h b;have E:=zsm C.2 b;rw[E]at B;rw[hd,List.filter_cons,List.any_cons];by_cases e:key x=b
  ·have A:(r.any fun x=>key x==b)=false:=by
    rw[List.any_eq_false];intro y F;have:=C.1 y F;simp;omega
   rw[A]at B;have D:(key x==b)=true:=by simpa using e
   rw[if_neg (by simpa using e),D,A];simp at B⊢;omega
  ·have D:(key x==b)=false:=by simpa using e
   rw[if_pos (by simpa using e),D,Bool.false_or,List.length_cons,List.length_cons];omega
theorem zz6{α:Type}(key:α→Int)(l:List α)(b:Int)(x:α):(zbj key l b x).length=(zax key l b).length+1:=by
 simp[zbj,zax];omega
theorem zvd(l:List (Int×ByteArray))(h:Up (·.1) l)(b:Int)(s:ByteArray):zai b (zbj (·.1) l b (b,s))=some s:=by
 have A:=zgc (zuu h (b:=b) (x:=(b,s)) rfl) b;have B:(zbj (·.1) l b (b,s)).filter (fun y=>decide (y.1=b))=[(b,s)]:=z15 b (b,s) rfl;rw[B]at A
 cases e:zai b (zbj (·.1) l b (b,s)) with
 |none=>rw[e]at A;simp at A
 |some u=>rw[e]at A;simp at A;rw[A]
theorem zq7(l:List (Int×ByteArray))(b:Int):zai b (zax (·.1) l b)=none:=by
 refine zly ?_;rw[List.any_eq_false];intro x A;have:=(zd6.1 A).2
 simpa using this
theorem zw2(l:List Int)(b:Int):zay (zax id l b) b=false:=by
 cases e:zay (zax id l b) b with
 |false=>rfl
 |true=>exact absurd rfl (zd6.1 (zd9.2 e)).2
theorem ze0(t:Tx)(h b:Int):(nameT t h b).seq=t.seq:=by
 unfold nameT ze6;split
 ·rfl
 ·split
  ·rfl
  ·split<;>rfl
theorem zn4{t:Tx}{h b:Int}(hg:zba t=true)(hh:h=0∨h=1∨h=2)(hn:nameE t h b=0)(ho:(zes t h).on=true):
  hdB (nameT t h b).h0=true∧hdB (nameT t h b).h1=true∧hdB (nameT t h b).h2=true:=by
 have A:=((za9 t).1 hg).2.2.2.2;unfold nameT;by_cases e:zcq t b=true
 ·rw[if_pos e];exact A
 ·rw[if_neg e];rw[nameE,if_neg e]at hn;have hk:=(zer _).1 (zl9 hg h);have hl:(zes t h).left≠0:=by intro e;rw[if_pos e]at hn;cases hn
  have B:hdB ⟨(zes t h).on,(zes t h).left - 1⟩=true:=(zer _).2 ⟨by show 0≤(zes t h).left - 1;omega,by show(zes t h).left - 1≤24;omega,fun e=>by rw[ho]at e;cases e⟩;rcases hh with rfl|rfl|rfl
  ·exact⟨B,A.2.1,A.2.2⟩
  ·exact⟨A.1,B,A.2.2⟩
  ·exact⟨A.1,A.2.1,B⟩
theorem zmb(t:Tx)(h b:Int)(hh:h=0∨h=1∨h=2):(nameT t h b).h0.left+(nameT t h b).h1.left+(nameT t h b).h2.left=t.h0.left+t.h1.left+t.h2.left - (if zcq t b=true then 0 else 1):=by
 unfold nameT
 cases zcq t b with
 |true=>simp
 |false=>rcases hh with rfl|rfl|rfl<;>simp[ze6,zes]<;>omega
theorem zjj{t:Tx}{h b:Int}{s:ByteArray}(e:changeE t h b s=0):reachE t h b=0∧zbb s=true∧(zai b t.data).isSome=false∧nameE t h b=0:=by
 unfold changeE at e;by_cases h1:reachE t h b=0
 ·rw[if_neg (by simpa using h1)]at e
  cases h2:zbb s with
  |false=>rw[if_pos h2]at e;cases e
  |true=>
   rw[if_neg (by rw[h2];simp)]at e
   cases h3:(zai b t.data).isSome with
   |true=>rw[if_pos h3]at e;cases e
   |false=>rw[if_neg (by rw[h3];simp)]at e;exact⟨h1,rfl,rfl,e⟩
 ·rw[if_pos h1]at e;exact absurd e h1
theorem ztl{t:Tx}{h b:Int}{s:ByteArray}(e:fillE t h b s=0):reachE t h b=0∧zbb s=true∧zcq t b=false:=by
 unfold fillE at e;by_cases h1:reachE t h b=0
 ·rw[if_neg (by simpa using h1)]at e
  cases h2:zbb s with
  |false=>rw[if_pos h2]at e;cases e
  |true=>
   rw[if_neg (by rw[h2];simp)]at e
   cases h3:zcq t b with
   |true=>rw[if_pos h3]at e;cases e
   |false=>exact⟨h1,rfl,rfl⟩
 ·rw[if_pos h1]at e;exact absurd e h1
theorem zjk{t:Tx}{h b:Int}(e:revokeE t h b=0):reachE t h b=0∧zay t.rev b=false∧nameE t h b=0:=by
 unfold revokeE at e;by_cases h1:reachE t h b=0
 ·rw[if_neg (by simpa using h1)]at e
  cases h3:zay t.rev b with
  |true=>rw[if_pos h3]at e;cases e
  |false=>rw[if_neg (by rw[h3];simp)]at e;exact⟨h1,rfl,e⟩
 ·rw[if_pos h1]at e;exact absurd e h1
theorem zpb{t:Tx}(h1:1≤t.seq∧t.seq≤2147483647)(h2:zb6 t.info=true)(h3:zb6 t.data=true)(h4:zbk (blksOf t.info)=true)(h5:zbk (blksOf t.data)=true)(h6:zbk t.rev=true)(h7:zz5 t)(h8:hdB t.h0=true∧hdB t.h1=true∧hdB t.h2=true):zba t=true:=
 (za9 t).2 ⟨h1,⟨h2,h3⟩,⟨h4,h5,h6⟩,(zn2 h4 h5 h6).2 h7,h8⟩
theorem ze1{t:Tx}(h:zba t=true):zz5 t:=by
 have:=(za9 t).1 h;exact(zn2 this.2.2.1.1 this.2.2.1.2.1 this.2.2.1.2.2).1 this.2.2.2.1
theorem zkn{t:Tx}{h b:Int}{s:ByteArray}(e:changeE t h b s=0):zba (zet t h b s)=true:=by
 obtain⟨N,O,hd,M⟩:=zjj e;obtain⟨D,Q,J,L,K⟩:=zcc N;have A:=(za9 t).1 D;have E:=ze1 D;refine zpb (t:=zet t h b s) ?_ (zvc A.2.1.1 b O) ?_ (zq6 A.2.2.1.1 L K s) ?_ (ztk A.2.2.1.2.2 b) ?_ (zn4 D Q M J)
 ·show 1≤(nameT t h b).seq∧(nameT t h b).seq≤2147483647;rw[ze0];exact A.1
 ·show zb6 (nameT t h b).data=true;rw[(zei t h b).2.1];exact A.2.1.2
 ·show zbk (blksOf (nameT t h b).data)=true;rw[(zei t h b).2.1];exact A.2.2.1.2.1
 ·have C:(zet t h b s).data=t.data:=(zei t h b).2.1;have I:b∉blksOf t.data:=fun e=>by rw[zpa,hd]at e;cases e
  refine⟨fun x hx=>⟨?_,?_⟩,fun x hx=>?_⟩
  ·rw[C];rcases zji.1 hx with rfl|⟨h1,_⟩
   ·exact I
   ·exact(E.1 x h1).1
  ·intro B;have F:=zd6.1 B;rcases zji.1 hx with rfl|⟨h1,_⟩
   ·exact F.2 rfl
   ·exact(E.1 x h1).2 F.1
  ·rw[C]at hx;intro B;exact E.2 x hx (zd6.1 B).1
theorem zko{t:Tx}{h b:Int}(e:revokeE t h b=0):zba (zeu t h b)=true:=by
 obtain⟨L,hd,K⟩:=zjk e;obtain⟨D,M,F,J,I⟩:=zcc L;have B:=(za9 t).1 D;have E:=ze1 D;refine zpb (t:=zeu t h b) ?_ (zn3 B.2.1.1 b) (zn3 B.2.1.2 b) (zma B.2.2.1.1 b) (zma B.2.2.1.2.1 b) (zw1 B.2.2.1.2.2 J I) ?_ (zn4 D M K F)
 ·show 1≤(nameT t h b).seq∧(nameT t h b).seq≤2147483647;rw[ze0];exact B.1
 ·refine⟨fun x hx=>⟨?_,?_⟩,fun x hx=>?_⟩
  ·intro A;exact(E.1 x (zhd.1 hx).1).1 (zhd.1 A).1
  ·intro A;have C:=zhd.1 hx;rcases zfj.1 A with rfl|⟨h2,_⟩
   ·exact C.2 rfl
   ·exact(E.1 x C.1).2 h2
  ·intro A;have C:=zhd.1 hx;rcases zfj.1 A with rfl|⟨h2,_⟩
   ·exact C.2 rfl
   ·exact E.2 x C.1 h2
theorem zw3{t:Tx}{h b:Int}{s:ByteArray}(e:fillE t h b s=0):zba {t with data:=zbj (·.1) t.data b (b,s)}=true:=by
 obtain⟨J,K,hd⟩:=ztl e;obtain⟨E,hh,ho,I,F⟩:=zcc J;have B:=(za9 t).1 E;have D:=ze1 E;have C:(zai b t.info).isSome=false∧zay t.rev b=false:=by rw[zcq]at hd;simpa using hd
 refine zpb (t:={t with data:=zbj (·.1) t.data b (b,s)}) B.1 B.2.1.1 (zvc B.2.1.2 b K) B.2.2.1.1 (zq6 B.2.2.1.2.1 I F s) B.2.2.1.2.2 ?_ B.2.2.2.2;refine⟨fun x hx=>⟨?_,(D.1 x hx).2⟩,fun x hx=>?_⟩
 ·intro A;rcases zji.1 A with rfl|⟨h2,_⟩
  ·rw[zpa,C.1]at hx;cases hx
  ·exact(D.1 x hx).1 h2
 ·intro A;rcases zji.1 hx with rfl|⟨h1,_⟩
  ·rw[zd9]at A;rw[C.2]at A;cases A
  ·exact D.2 x h1 A
theorem zj4{t:Tx}{h:Int}{x:Hd}(hg:zba t=true)(hx:hdB x=true):zba (ze6 t h x)=true:=by
 have A:=(za9 t).1 hg;unfold ze6;split
 ·exact(za9 _).2 ⟨A.1,A.2.1,A.2.2.1,A.2.2.2.1,hx,A.2.2.2.2.2⟩
 ·split
  ·exact(za9 _).2 ⟨A.1,A.2.1,A.2.2.1,A.2.2.2.1,A.2.2.2.2.1,hx,A.2.2.2.2.2.2⟩
  ·exact(za9 _).2 ⟨A.1,A.2.1,A.2.2.1,A.2.2.2.1,A.2.2.2.2.1,A.2.2.2.2.2.1,hx⟩
theorem zpc{t:Tx}{h b:Int}{s:ByteArray}(e:changeE t h b s=0):zb2 (zet t h b s)=zb2 t:=by
 have I:=zkn e;obtain⟨N,hs,hd,hn⟩:=zjj e;obtain⟨D,O,ho,b0,b1⟩:=zcc N;have E:=(za9 t).1 D;have J:=ze1 D;have u1:Up (·.1) t.info:=(zfo _ _).1 ((za8 _).1 E.2.2.1.1).2;have u3:Up id t.rev:=((za8 _).1 E.2.2.1.2.2).2;rw[(zc9 I).1,(zc9 D).1];have C:=zhz u1 b;have A:=zhz u3 b;have M:=zz6 (·.1) t.info b (b,s);have K:=zmb t h b O;have x1:(zet t h b s).info.length=(zax (·.1) t.info b).length+1:=M;have x3:(zet t h b s).rev.length=(zax id t.rev b).length:=rfl;have B:(zet t h b s).h0.left+(zet t h b s).h1.left+(zet t h b s).h2.left=t.h0.left+t.h1.left+t.h2.left - (if zcq t b=true then 0 else 1):=K;have L:(t.info.any fun x=>x.1==b)=(zai b t.info).isSome:=(zld t.info b).symm;have F:(t.rev.any fun x=>id x==b)=zay t.rev b:=rfl;rw[L]at C;rw[F]at A;have Q:¬((zai b t.info).isSome=true∧zay t.rev b=true):=fun⟨e1,e2⟩=>(J.1 b (zpa.2 e1)).2 (zd9.2 e2);unfold zcq at B
 cases c1:(zai b t.info).isSome with
 |true=>
  cases c3:zay t.rev b with
  |true=>exact absurd ⟨c1,c3⟩ Q
  |false=>rw[c1]at C;rw[c3]at A;rw[c1]at B;simp at C A B;omega
 |false=>
  cases c3:zay t.rev b with
  |true=>rw[c1]at C;rw[c3]at A;rw[c1,c3]at B;simp at C A B;omega
  |false=>rw[c1]at C;rw[c3]at A;rw[c1,c3]at B;simp at C A B;omega
theorem zpd{t:Tx}{h b:Int}(e:revokeE t h b=0):zb2 (zeu t h b)=zb2 t:=by
 have I:=zko e;obtain⟨L,hd,hn⟩:=zjk e;obtain⟨E,M,ho,b0,b1⟩:=zcc L;have D:=(za9 t).1 E;have u1:Up (·.1) t.info:=(zfo _ _).1 ((za8 _).1 D.2.2.1.1).2;have u3:Up id t.rev:=((za8 _).1 D.2.2.1.2.2).2;rw[(zc9 I).1,(zc9 E).1];have B:=zhz u1 b;have C:=zhz u3 b;have p3:=zz6 id t.rev b b;have J:=zmb t h b M;have x1:(zeu t h b).info.length=(zax (·.1) t.info b).length:=rfl;have x3:(zeu t h b).rev.length=(zax id t.rev b).length+1:=p3;have A:(zeu t h b).h0.left+(zeu t h b).h1.left+(zeu t h b).h2.left=t.h0.left+t.h1.left+t.h2.left - (if zcq t b=true then 0 else 1):=J;have K:(t.info.any fun x=>x.1==b)=(zai b t.info).isSome:=(zld t.info b).symm;have F:(t.rev.any fun x=>id x==b)=zay t.rev b:=rfl;rw[K]at B;rw[F,hd]at C;unfold zcq at A;rw[hd,Bool.or_false]at A
 cases c1:(zai b t.info).isSome with
 |true=>rw[c1]at B;rw[c1]at A;simp at B C A;omega
 |false=>rw[c1]at B;rw[c1]at A;simp at B C A;omega
def zcz (t:Tx)(k h b n free:Int)(s:ByteArray):Int:=
 if k=0 then zbc t h n free else if k=1 then changeE t h b s else if k=2 then fillE t h b s else if k=3 then revokeE t h b else zda t h
def zcm (t:Tx)(k h b n free:Int)(s:ByteArray):Tx:=
 if k=0 then zaw t h n free else if k=1 then zaf t h b s else if k=2 then zao t h b s else if k=3 then zag t h b else zb3 t h
theorem zw5{a b:Int}(h:a≤b):clampN a≤clampN b:=by unfold clampN;split<;>split<;>(try split)<;>(try split)<;>omega
theorem zz8{a b:Int}(h:a≤b):ze5 a≤ze5 b:=by
 have h1:=zw5 h;unfold ze5;generalize clampN a=x at *;generalize clampN b=y at *;have e1:(if 0<x then(1:Int) else 0)≤if 0<y then 1 else 0:=by split<;>split<;>omega
 have e2:(if 10<x then(1:Int) else 0)≤if 10<y then 1 else 0:=by split<;>split<;>omega
 have e3:(if 20<x then(1:Int) else 0)≤if 20<y then 1 else 0:=by split<;>split<;>omega
 omega
theorem zmc(t:Tx)(h:Int)(x:Hd):(ze6 t h x).info=t.info∧(ze6 t h x).rev=t.rev:=by
 unfold ze6;split
 ·exact⟨rfl,rfl⟩
 ·split<;>exact⟨rfl,rfl⟩
theorem zmd{t:Tx}{h:Int}{x:Hd}(hg:zba t=true)(hx:hdB x=true):zb2 (ze6 t h x)=zb2 t - (zes t h).left+x.left:=by
 have e:=(zc9 (zj4 (h:=h) hg hx)).1;have A:=(zc9 hg).1;rw[e,A,(zmc t h x).1,(zmc t h x).2];unfold ze6 zes;split
 ·show _+_+x.left+t.h1.left+t.h2.left=_;omega
 ·split
  ·show _+_+t.h0.left+x.left+t.h2.left=_;omega
  ·show _+_+t.h0.left+t.h1.left+x.left=_;omega
theorem z2u{t:Tx}{h n free:Int}(e:zbc t h n free=0):zba t=true∧(zes t h).on=false∧(0≤n∧n≤12)∧zb2 t+n≤24∧ze5 (zb2 t+n)≤free:=by
 unfold zbc at e
 cases hg:zba t with
 |false=>rw[if_pos hg]at e;cases e
 |true=>
  rw[if_neg (by rw[hg];simp)]at e;by_cases h1:h<0∨2<h
  ·rw[if_pos h1]at e;cases e
  ·rw[if_neg h1]at e
   cases ho:(zes t h).on with
   |true=>rw[if_pos ho]at e;cases e
   |false=>
    rw[if_neg (by rw[ho];simp)]at e;by_cases h2:n<0∨12<n
    ·rw[if_pos h2]at e;cases e
    ·rw[if_neg h2]at e;by_cases h3:24<zb2 t+n∨free<ze5 (zb2 t+n)
     ·rw[if_pos h3]at e;cases e
     ·exact⟨rfl,rfl,by omega,by omega,by omega⟩
theorem ztn{t:Tx}{k h b n free:Int}{s:ByteArray}(he:¬zcz t k h b n free s=0):zcm t k h b n free s=t:=by
 unfold zcz at he;unfold zcm;split
 ·rename_i A;rw[if_pos A]at he;rw[zaw,if_neg he]
 ·rename_i A;rw[if_neg A]at he;split
  ·rename_i A;rw[if_pos A]at he;rw[zaf,if_neg he]
  ·rename_i A;rw[if_neg A]at he;split
   ·rename_i A;rw[if_pos A]at he;rw[zao,if_neg he]
   ·rename_i A;rw[if_neg A]at he;split
    ·rename_i A;rw[if_pos A]at he;rw[zag,if_neg he]
    ·rename_i A;rw[if_neg A]at he;rw[zb3,if_neg he]
theorem zq9{t:Tx}{k h b n free:Int}{s:ByteArray}(hg:zba t=true):
  zba (zcm t k h b n free s)=true∧(k≠0→zb2 (zcm t k h b n free s)≤zb2 t)∧(zcz t k h b n free s=0→k=0→ze5 (zb2 (zcm t k h b n free s))≤free):=by
 by_cases he:zcz t k h b n free s=0
 ·have I:=(zer _).1 (zl9 hg h);unfold zcz at he;unfold zcm;split
  ·rename_i A;rw[if_pos A]at he;obtain⟨_,J,L,A0,M⟩:=z2u he;have E:hdB ⟨true,n⟩=true:=(zer _).2 ⟨L.1,by show n≤24;omega,fun e=>by cases e⟩;have K:(zes t h).left=0:=I.2.2 J;have F:=zmd (h:=h) hg E;rw[K]at F;rw[zaw,if_pos he];refine⟨zj4 hg E,fun e=>absurd A e,fun _ _=>?_⟩;rw[F,show zb2 t - 0+(Hd.mk true n).left=zb2 t+n from by show _ - 0+n=_;omega];exact M
  ·rename_i A;rw[if_neg A]at he;split
   ·rename_i B;rw[if_pos B]at he;rw[zaf,if_pos he];exact⟨zkn he,fun _=>by rw[zpc he];omega,fun _ e=>absurd e A⟩
   ·rename_i B;rw[if_neg B]at he;split
    ·rename_i D;rw[if_pos D]at he;rw[zao,if_pos he];refine⟨zw3 he,fun _=>?_,fun _ e=>absurd e A⟩;exact Int.le_of_eq rfl
    ·rename_i D;rw[if_neg D]at he;split
     ·rename_i C;rw[if_pos C]at he;rw[zag,if_pos he];exact⟨zko he,fun _=>by rw[zpd he];omega,fun _ e=>absurd e A⟩
     ·rename_i C;rw[if_neg C]at he;have E:hdB ⟨false,0⟩=true:=rfl;have F:=zmd (h:=h) hg E;rw[zb3,if_pos he];refine⟨zj4 hg E,fun _=>?_,fun _ e=>absurd e A⟩;rw[F];show zb2 t - (zes t h).left+0≤_;omega
 ·rw[ztn he];exact⟨hg,fun _=>Int.le_refl _,fun e=>absurd e he⟩
open Go.Proofs.Tryz
def zpf (base:Nat)(v:Value)(t:Tx):Prop:=
 ∃a c a' c' r d,v=.agg #[.int .i64 t.seq,.slice a t.info.length c,.slice a' t.data.length c',.slice r t.rev.length d,.bool t.h0.on,.int .i64 t.h0.left,.bool t.h1.on,.int .i64 t.h1.left,.bool t.h2.on,.int .i64 t.h2.left]∧
  (∀x off,a=some ⟨x,off,none⟩→base≤x)∧(∀x off,a'=some ⟨x,off,none⟩→base≤x)∧∀x off,r=some ⟨x,off,none⟩→base≤x
theorem BoxTx.from{w:World}{B base:Nat}{t:Tx}{va vd vr:Value}(h:BoxTx w B t va vd vr)(hb:base≤B+1):
  zpf base (.agg #[.int .i64 t.seq,va,vd,vr,.bool t.h0.on,.int .i64 t.h0.left,.bool t.h1.on,.int .i64 t.h1.left,.bool t.h2.on,.int .i64 t.h2.left]) t:=by
 obtain⟨a,c,rfl,_,h1⟩:=SegC.of_owns h.2.1;obtain⟨A,D,rfl,_,h2⟩:=SegC.of_owns h.2.2.1;obtain⟨r,d,rfl,_,C⟩:=SegI.of_owns h.2.2.2;exact⟨a,c,A,D,r,d,rfl,fun x o e=>Nat.le_trans hb (h1 x o e),fun x o e=>Nat.le_trans hb (h2 x o e),fun x o e=>Nat.le_trans hb (C x o e)⟩
def za2 (base:Nat)(v:Value)(t:Tx):Prop:=zpf base v t∧RoomTx v
theorem zpg{w:World}{base sz k n c:Nat}{e:TypeId}{a:Option Addr}{xs:List Value}(h:w.ownsRow base e sz (.slice a n c) k xs):n≤c:=by
 rcases h.2 with⟨e,_⟩|⟨g,cap,cur,e,_,_,h1,_⟩
 ·simp only[Value.slice.injEq]at e;omega
 ·simp only[Value.slice.injEq]at e;omega
theorem BoxTx.fromR{w:World}{B base:Nat}{t:Tx}{va vd vr:Value}(h:BoxTx w B t va vd vr)(hb:base≤B+1):
  za2 base (.agg #[.int .i64 t.seq,va,vd,vr,.bool t.h0.on,.int .i64 t.h0.left,.bool t.h1.on,.int .i64 t.h1.left,.bool t.h2.on,.int .i64 t.h2.left]) t:=by
 refine⟨h.from hb,?_⟩;obtain⟨_,D,A,C⟩:=h;obtain⟨a,c,rfl,_,_⟩:=SegC.of_owns D;obtain⟨a',c',rfl,_,_⟩:=SegC.of_owns A;obtain⟨r,d,rfl,_,_⟩:=SegI.of_owns C;exact⟨_,_,_,_,_,_,_,_,_,_,_,_,_,_,_,_,rfl,zpg D,zpg A,zpg C⟩
theorem BoxTx.other{w:World}{B:Nat}{t:Tx}{va vd vr:Value}(h:BoxTx w B t va vd vr){p:Addr}(hp:p.block<B)(u:Value):BoxTx (w.setCell p u) B t va vd vr:=
 ⟨(Below.heap_setCell _ _ _ _ (by omega)).trans h.1,ownsRow_setCell_below h.2.1 (by omega) _,ownsRow_setCell_below h.2.2.1 (by omega) _,ownsRow_setCell_below h.2.2.2 (by omega) _⟩
theorem zxb(v:Value)(t:Tx)(h n free:Int)(w:World)(hT:IsTx w v t)(r1:t.info.length*24≤140737488355328)(r2:t.data.length*24≤140737488355328)(hg:zba t=false):
  Calls prog 80 #[v,.int .i64 h,.int .i64 n,.int .i64 free] w fun e w'=>∃v2,e=.returned (.tuple #[v2,.int .i64 (zbc t h n free)])∧IsTx w' v2 (zaw t h n free)∧Below w.heap.size w w'∧(v2=v∨za2 w.heap.size v2 (zaw t h n free)):=by
 have J:=zab hT;obtain⟨a,c,Q,M,r,d,rfl,b,Z,i,E,C,K⟩:=hT;have N1:=zab E;have N2:=zab C;have N3:=zab K;clear b Z i E C K;go_enter func80,ntmps80;go_wp2_with fail;refine(zb7 _ t _ (J.o.below (zae (zaa _ _) (zaa _ _))) r1 r2).mono ?_;rintro e D ⟨rfl,A⟩;have A1:w.heap.size+1<D.heap.size:=by have:=A.size;simp at this;omega
 have A0:w.heap.size<D.heap.size:=by omega
 have l:=zab (zgr A);have L:=zab (zhl A);obtain⟨⟨x0,x1,x2,x3,x4,x5,x6,x7,x8,x9⟩,_⟩:=zaj l.o;obtain⟨⟨R,X,O,j,k,Y,U,m,S,N⟩,ff⟩:=zaj L.o;have B:=zab (zae (zae (zaa _ _) (zaa _ _)) A);clear A;have I:Hid (zbc t h n free=2):=by rw[Hid,zbc,if_pos hg]
 have F:Hid (zaw t h n free=t):=by rw[Hid,zaw,I.o];rfl
 go_wp2;refine bodyPost_ret (v:=.tuple #[.agg #[.int .i64 t.seq,.slice a t.info.length c,.slice Q t.data.length M,.slice r t.rev.length d,.bool t.h0.on,.int .i64 t.h0.left,.bool t.h1.on,.int .i64 t.h1.left,.bool t.h2.on,.int .i64 t.h2.left],.int .i64 2]) (by simp[results,results80,go_sem,R,X,O,j,k,Y,U,m,S,N]) rfl ⟨_,by rw[I.o],?_⟩;refine⟨?_,?_,.inl rfl⟩
 ·rw[F.o];refine J.o.below ?_
  repeat refine Below.setCell ?_ (by simp) _
  exact B.o
 ·repeat refine Below.setCell ?_ (by simp) _
  exact B.o
theorem ztp(v:Value)(t:Tx)(h n free:Int)(w:World)(hT:IsTx w v t)(r1:t.info.length*24≤140737488355328)(r2:t.data.length*24≤140737488355328)(hg:zba t=true)(hw:zap h 0 2=false):
  Calls prog 80 #[v,.int .i64 h,.int .i64 n,.int .i64 free] w fun e w'=>∃v2,e=.returned (.tuple #[v2,.int .i64 (zbc t h n free)])∧IsTx w' v2 (zaw t h n free)∧Below w.heap.size w w'∧(v2=v∨za2 w.heap.size v2 (zaw t h n free)):=by
 have K:=zab hT;obtain⟨a,c,R,N,r,d,rfl,i,b,j,F,D,L⟩:=hT;have N1:=zab F;have N2:=zab D;have N3:=zab L;clear i b j F D L;go_enter func80,ntmps80;go_wp2_with fail;refine(zb7 _ t _ (K.o.below (zae (zaa _ _) (zaa _ _))) r1 r2).mono ?_;rintro e E ⟨rfl,A⟩;have A1:w.heap.size+1<E.heap.size:=by have:=A.size;simp at this;omega
 have A0:w.heap.size<E.heap.size:=by omega
 have m:=zab (zgr A);have M:=zab (zhl A);obtain⟨⟨x0,x1,x2,x3,x4,x5,x6,x7,x8,x9⟩,_⟩:=zaj m.o;obtain⟨⟨S,Y,Q,k,l,Z,X,p,U,O⟩,ff⟩:=zaj M.o;have C:=zab (zae (zae (zaa _ _) (zaa _ _)) A);clear A
 have B:h<0∨2<h:=by
  by_cases e:0≤h∧h≤2
  ·rw[zbe.2 e]at hw;cases hw
  ·omega
 have J:Hid (zbc t h n free=4):=by rw[Hid,zbc,if_neg (by rw[hg];simp),if_pos B]
 have I:Hid (zaw t h n free=t):=by rw[Hid,zaw,J.o];rfl
 clear B;go_wp2_with (go_at_call 117;refine(zbm _ _).mono ?_;rintro e w' ⟨rfl,rfl⟩);refine bodyPost_ret (v:=.tuple #[.agg #[.int .i64 t.seq,.slice a t.info.length c,.slice R t.data.length N,.slice r t.rev.length d,.bool t.h0.on,.int .i64 t.h0.left,.bool t.h1.on,.int .i64 t.h1.left,.bool t.h2.on,.int .i64 t.h2.left],.int .i64 4]) (by simp[results,results80,go_sem,S,Y,Q,k,l,Z,X,p,U,O]) rfl ⟨_,by rw[J.o],?_⟩;refine⟨?_,?_,.inl rfl⟩
 ·rw[I.o];refine K.o.below ?_
  repeat refine Below.setCell ?_ (by simp) _
  exact C.o
 ·repeat refine Below.setCell ?_ (by simp) _
  exact C.o
theorem zxc(v:Value)(t:Tx)(n free:Int)(w:World)(hT:IsTx w v t)(r1:t.info.length*24≤140737488355328)(r2:t.data.length*24≤140737488355328)(hg:zba t=true)(ho:t.h0.on=true):
  Calls prog 80 #[v,.int .i64 0,.int .i64 n,.int .i64 free] w fun e w'=>∃v2,e=.returned (.tuple #[v2,.int .i64 (zbc t 0 n free)])∧IsTx w' v2 (zaw t 0 n free)∧Below w.heap.size w w'∧(v2=v∨za2 w.heap.size v2 (zaw t 0 n free)):=by
 have h:=zab ho;clear ho;have J:=zab hT;obtain⟨a,c,Q,M,r,d,rfl,b,Z,i,E,C,K⟩:=hT;have N1:=zab E;have N2:=zab C;have N3:=zab K;clear b Z i E C K;go_enter func80,ntmps80;go_wp2_with fail;refine(zb7 _ t _ (J.o.below (zae (zaa _ _) (zaa _ _))) r1 r2).mono ?_;rintro e D ⟨rfl,A⟩;have A1:w.heap.size+1<D.heap.size:=by have:=A.size;simp at this;omega
 have A0:w.heap.size<D.heap.size:=by omega
 have l:=zab (zgr A);have L:=zab (zhl A);obtain⟨⟨x0,x1,x2,x3,x4,x5,x6,x7,x8,x9⟩,_⟩:=zaj l.o;obtain⟨⟨R,X,O,j,k,Y,U,m,S,N⟩,ff⟩:=zaj L.o;have B:=zab (zae (zae (zaa _ _) (zaa _ _)) A);clear A;have ho:=h.o;have I:Hid (zbc t 0 n free=5):=by rw[Hid,zbc,if_neg (by rw[hg];simp),if_neg (by omega),show zes t 0=t.h0 from rfl,if_pos ho]
 have F:Hid (zaw t 0 n free=t):=by rw[Hid,zaw,I.o];rfl
 have hw:zap 0 0 2=true:=rfl;go_wp2_with (go_at_call 117;refine(zbm _ _).mono ?_;rintro e w' ⟨rfl,rfl⟩);refine bodyPost_ret (v:=.tuple #[.agg #[.int .i64 t.seq,.slice a t.info.length c,.slice Q t.data.length M,.slice r t.rev.length d,.bool t.h0.on,.int .i64 t.h0.left,.bool t.h1.on,.int .i64 t.h1.left,.bool t.h2.on,.int .i64 t.h2.left],.int .i64 5]) (by simp[results,results80,go_sem,R,X,O,j,k,Y,U,m,S,N,ho]) rfl ⟨_,by rw[I.o],?_⟩;refine⟨?_,?_,.inl rfl⟩
 ·rw[F.o];refine J.o.below ?_
  repeat refine Below.setCell ?_ (by simp) _
  exact B.o
 ·repeat refine Below.setCell ?_ (by simp) _
  exact B.o
theorem ztq(v:Value)(t:Tx)(n free:Int)(w:World)(hT:IsTx w v t)(r1:t.info.length*24≤140737488355328)(r2:t.data.length*24≤140737488355328)(hg:zba t=true)(ho:t.h0.on=false):
  Calls prog 80 #[v,.int .i64 0,.int .i64 n,.int .i64 free] w fun e w'=>∃v2,e=.returned (.tuple #[v2,.int .i64 (zbc t 0 n free)])∧IsTx w' v2 (zaw t 0 n free)∧Below w.heap.size w w'∧(v2=v∨za2 w.heap.size v2 (zaw t 0 n free)):=by
 have A4:=zaz hg;have i:=zc9 hg;have HO:=zab ho;clear ho;have l:=zab hT;obtain⟨a,c,a',c',r,d,rfl,hM,hD,hR,n1,n2,n3⟩:=hT;have N1:=zab n1;have N2:=zab n2;have N3:=zab n3;clear hM hD hR n1 n2 n3;go_enter func80,ntmps80;go_wp2_with fail;refine(zb7 _ t _ (l.o.below (zae (zaa _ _) (zaa _ _))) r1 r2).mono ?_;rintro e w1 ⟨rfl,J⟩;have A7:w.heap.size+1<w1.heap.size:=by have:=J.size;simp at this;omega
 have A1:w.heap.size<w1.heap.size:=by omega
 have K1:=zab (zgr J);have K2:=zab (zhl J);obtain⟨⟨z,x1,x2,x3,x4,x5,x6,x7,x8,x9⟩,_⟩:=zaj K1.o;obtain⟨⟨O,R,b,U,X,S,h,Y,Q,Z⟩,p⟩:=zaj K2.o;have N:=zab (zae (zae (zaa _ _) (zaa _ _)) J);clear J;have ho:=HO.o;have s:¬zba t=false:=by rw[hg];simp
 have m:¬(zes t 0).on=true:=by rw[show zes t 0=t.h0 from rfl,ho];simp
 have u:Hid (IsTx w (.agg #[.int .i64 t.seq,.slice a t.info.length c,.slice a' t.data.length c',.slice r t.rev.length d,.bool false,.int .i64 t.h0.left,.bool t.h1.on,.int .i64 t.h1.left,.bool t.h2.on,.int .i64 t.h2.left]) t):=by have:=l.o;rw[ho]at this;exact this
 have hw:zap 0 0 2=true:=rfl
 cases hq:zap n 0 12 with
 |false=>
  have y:n<0∨12<n:=by
   by_cases e:0≤n∧n≤12
   ·rw[zbe.2 e]at hq;cases hq
   ·omega
  have I:Hid (zbc t 0 n free=2):=by rw[Hid,zbc,if_neg s,if_neg (by omega),if_neg m,if_pos y]
  have E:Hid (zaw t 0 n free=t):=by rw[Hid,zaw,I.o];rfl
  clear s m y i A4;go_wp2_with (first|(go_at_call 117;refine(zbm _ _).mono ?_;rintro e w' ⟨rfl,rfl⟩)|(go_at_call 59;refine(za0 _ _ _ _).mono ?_;rintro e w' ⟨rfl,rfl⟩));refine bodyPost_ret (v:=.tuple #[.agg #[.int .i64 t.seq,.slice a t.info.length c,.slice a' t.data.length c',.slice r t.rev.length d,.bool t.h0.on,.int .i64 t.h0.left,.bool t.h1.on,.int .i64 t.h1.left,.bool t.h2.on,.int .i64 t.h2.left],.int .i64 2]) (by simp[results,results80,go_sem,O,R,b,U,X,S,h,Y,Q,Z,ho]) rfl ⟨_,by rw[I.o],?_⟩;refine⟨?_,?_,.inl rfl⟩
  ·rw[E.o];refine l.o.below ?_
   repeat refine Below.setCell ?_ (by simp) _
   exact N.o
  ·repeat refine Below.setCell ?_ (by simp) _
   exact N.o
 |true=>
  have B0:=zbe.1 hq;have NN:¬(n<0∨12<n):=by omega
  go_wp2_with (first|(go_at_call 117;refine(zbm _ _).mono ?_;rintro e w' ⟨rfl,rfl⟩)|(go_at_call 59;refine(za0 _ _ _ _).mono ?_;rintro e w' ⟨rfl,rfl⟩));refine(zj3 _ t _ (u.o.below N.o)).mono ?_;rintro e F ⟨rfl,M⟩;have A6:w.heap.size+1<F.heap.size:=by have:=M.size;omega
  have A9:w.heap.size<F.heap.size:=by omega
  have A8:=zab (zad M A1 K1.o);have x:=zab (zad M A7 K2.o);have D:=zab (zae N.o M);clear z x1 x2 x3 x4 x5 x6 x7 x8 x9 O R b U X S h Y Q Z p M K1 K2 N;obtain⟨⟨z,x1,x2,x3,x4,x5,x6,x7,x8,x9⟩,_⟩:=zaj A8.o;obtain⟨⟨O,R,b,U,X,S,h,Y,Q,Z⟩,p⟩:=zaj x.o;have A5:=i.2.1;have A2:=i.2.2;have L:Hid (zbc t 0 n free=if 24<zb2 t+n∨free<ze5 (zb2 t+n) then 6 else 0):=by rw[Hid,zbc,if_neg s,if_neg (by omega),if_neg m,if_neg NN]
  obtain⟨q,k⟩:∃q,q=zb2 t:=⟨_,rfl⟩;rw[←k]at L A5 A2;rw[←k];clear i s m NN k hq
  cases hrm:(decide (q+n≤24)&&decide (ze5 (q+n)≤free)) with
  |false=>
   have I:Hid (zbc t 0 n free=6):=by
    rw[Hid,L.o,if_pos];by_cases e:q+n≤24
    ·rw[show decide (q+n≤24)=true from by simpa using e,Bool.true_and]at hrm;simp at hrm;omega
    ·omega
   have E:Hid (zaw t 0 n free=t):=by rw[Hid,zaw,I.o];rfl
   have A:=zhx (q+n) free F;rw[hrm]at A;clear hrm L;go_wp2_with fail;refine A.mono ?_;rintro e w3 ⟨rfl,rfl⟩;go_wp2;refine bodyPost_ret (v:=.tuple #[.agg #[.int .i64 t.seq,.slice a t.info.length c,.slice a' t.data.length c',.slice r t.rev.length d,.bool t.h0.on,.int .i64 t.h0.left,.bool t.h1.on,.int .i64 t.h1.left,.bool t.h2.on,.int .i64 t.h2.left],.int .i64 6]) (by simp[results,results80,go_sem,O,R,b,U,X,S,h,Y,Q,Z,ho]) rfl ⟨_,by rw[I.o],?_⟩;refine⟨?_,?_,.inl rfl⟩
   ·rw[E.o];refine l.o.below ?_
    repeat refine Below.setCell ?_ (by simp) _
    exact D.o
   ·repeat refine Below.setCell ?_ (by simp) _
    exact D.o
  |true=>
   have I:Hid (zbc t 0 n free=0):=by
    rw[Hid,L.o,if_neg];simp at hrm;omega
   have E:Hid (zaw t 0 n free={t with h0:=⟨true,n⟩}):=by rw[Hid,zaw,I.o];rfl
   have A:=zhx (q+n) free F;rw[hrm]at A;clear hrm L;go_wp2_with fail;refine A.mono ?_;rintro e w3 ⟨rfl,rfl⟩;go_wp2_with fail;refine(zcy _ t _ (u.o.below D.o) (by omega) (by omega) (by omega)).mono ?_;rintro e w4 ⟨va,vd,vr,rfl,C,j⟩;obtain⟨a1,c1,rfl,_,_⟩:=SegC.of_owns C.2.1;obtain⟨a2,c2,rfl,_,_⟩:=SegC.of_owns C.2.2.1;obtain⟨a3,c3,rfl,_,_⟩:=SegI.of_owns C.2.2.2;have K:=zab C;have B1:=C.lt;have A3:=zab (zae D.o j);have A0:=zab (zad j A6 x.o);clear z x1 x2 x3 x4 x5 x6 x7 x8 x9 O R b U X S h Y Q Z p j C D;obtain⟨⟨O,R,b,U,X,S,h,Y,Q,Z⟩,p⟩:=zaj A0.o;obtain⟨⟨z0,z1,z2,z3,z4,z5,z6,z7,z8,z9⟩,gf⟩:=zaj K.o.1;have HX:Hid (BoxTx ((w4.setCell ⟨F.heap.size,4,none⟩ (.bool true)).setCell ⟨F.heap.size,5,none⟩ (.int .i64 n)) F.heap.size {t with h0:=⟨true,n⟩} (.slice a1 t.info.length c1) (.slice a2 t.data.length c2) (.slice a3 t.rev.length c3)):=(K.o.set (t':={t with h0:=⟨true,t.h0.left⟩}) 4 (.bool true) rfl K.o.2.1 K.o.2.2.1 K.o.2.2.2).set (t':={t with h0:=⟨true,n⟩}) 5 (.int .i64 n) rfl (ownsRow_setCell_below K.o.2.1 (by simp) _) (ownsRow_setCell_below K.o.2.2.1 (by simp) _) (ownsRow_setCell_below K.o.2.2.2 (by simp) _);go_wp2;refine bodyPost_ret (v:=.tuple #[.agg #[.int .i64 t.seq,.slice a1 t.info.length c1,.slice a2 t.data.length c2,.slice a3 t.rev.length c3,.bool true,.int .i64 n,.bool t.h1.on,.int .i64 t.h1.left,.bool t.h2.on,.int .i64 t.h2.left],.int .i64 0]) (by simp[results,results80,go_sem,O,R,b,U,X,S,h,Y,Q,Z]) rfl ⟨_,by rw[I.o],?_⟩;rw[E.o];refine⟨?_,?_,.inr (HX.o.fromR (t:={t with h0:=⟨true,n⟩}) (by omega))⟩
   ·refine BoxTx.is (t:={t with h0:=⟨true,n⟩}) (B:=F.heap.size) ?_ N1.o N2.o N3.o
    repeat refine BoxTx.other ?_ (by simp;omega) _
    exact HX.o
   ·repeat refine Below.setCell ?_ (by simp;try omega) _
    exact A3.o
theorem zxd(v:Value)(t:Tx)(n free:Int)(w:World)(hT:IsTx w v t)(r1:t.info.length*24≤140737488355328)(r2:t.data.length*24≤140737488355328)(hg:zba t=true)(ho:t.h1.on=true):
  Calls prog 80 #[v,.int .i64 1,.int .i64 n,.int .i64 free] w fun e w'=>∃v2,e=.returned (.tuple #[v2,.int .i64 (zbc t 1 n free)])∧IsTx w' v2 (zaw t 1 n free)∧Below w.heap.size w w'∧(v2=v∨za2 w.heap.size v2 (zaw t 1 n free)):=by
 have h:=zab ho;clear ho;have J:=zab hT;obtain⟨a,c,Q,M,r,d,rfl,b,Z,i,E,C,K⟩:=hT;have N1:=zab E;have N2:=zab C;have N3:=zab K;clear b Z i E C K;go_enter func80,ntmps80;go_wp2_with fail;refine(zb7 _ t _ (J.o.below (zae (zaa _ _) (zaa _ _))) r1 r2).mono ?_;rintro e D ⟨rfl,A⟩;have A1:w.heap.size+1<D.heap.size:=by have:=A.size;simp at this;omega
 have A0:w.heap.size<D.heap.size:=by omega
 have l:=zab (zgr A);have L:=zab (zhl A);obtain⟨⟨x0,x1,x2,x3,x4,x5,x6,x7,x8,x9⟩,_⟩:=zaj l.o;obtain⟨⟨R,X,O,j,k,Y,U,m,S,N⟩,ff⟩:=zaj L.o;have B:=zab (zae (zae (zaa _ _) (zaa _ _)) A);clear A;have ho:=h.o;have I:Hid (zbc t 1 n free=5):=by rw[Hid,zbc,if_neg (by rw[hg];simp),if_neg (by omega),show zes t 1=t.h1 from rfl,if_pos ho]
 have F:Hid (zaw t 1 n free=t):=by rw[Hid,zaw,I.o];rfl
 have hw:zap 1 0 2=true:=rfl;go_wp2_with (go_at_call 117;refine(zbm _ _).mono ?_;rintro e w' ⟨rfl,rfl⟩);refine bodyPost_ret (v:=.tuple #[.agg #[.int .i64 t.seq,.slice a t.info.length c,.slice Q t.data.length M,.slice r t.rev.length d,.bool t.h0.on,.int .i64 t.h0.left,.bool t.h1.on,.int .i64 t.h1.left,.bool t.h2.on,.int .i64 t.h2.left],.int .i64 5]) (by simp[results,results80,go_sem,R,X,O,j,k,Y,U,m,S,N,ho]) rfl ⟨_,by rw[I.o],?_⟩;refine⟨?_,?_,.inl rfl⟩
 ·rw[F.o];refine J.o.below ?_
  repeat refine Below.setCell ?_ (by simp) _
  exact B.o
 ·repeat refine Below.setCell ?_ (by simp) _
  exact B.o
theorem ztr(v:Value)(t:Tx)(n free:Int)(w:World)(hT:IsTx w v t)(r1:t.info.length*24≤140737488355328)(r2:t.data.length*24≤140737488355328)(hg:zba t=true)(ho:t.h1.on=false):
  Calls prog 80 #[v,.int .i64 1,.int .i64 n,.int .i64 free] w fun e w'=>∃v2,e=.returned (.tuple #[v2,.int .i64 (zbc t 1 n free)])∧IsTx w' v2 (zaw t 1 n free)∧Below w.heap.size w w'∧(v2=v∨za2 w.heap.size v2 (zaw t 1 n free)):=by
 have A4:=zaz hg;have i:=zc9 hg;have HO:=zab ho;clear ho;have l:=zab hT;obtain⟨a,c,a',c',r,d,rfl,hM,hD,hR,n1,n2,n3⟩:=hT;have N1:=zab n1;have N2:=zab n2;have N3:=zab n3;clear hM hD hR n1 n2 n3;go_enter func80,ntmps80;go_wp2_with fail;refine(zb7 _ t _ (l.o.below (zae (zaa _ _) (zaa _ _))) r1 r2).mono ?_;rintro e w1 ⟨rfl,J⟩;have A7:w.heap.size+1<w1.heap.size:=by have:=J.size;simp at this;omega
 have A1:w.heap.size<w1.heap.size:=by omega
 have K1:=zab (zgr J);have K2:=zab (zhl J);obtain⟨⟨z,x1,x2,x3,x4,x5,x6,x7,x8,x9⟩,_⟩:=zaj K1.o;obtain⟨⟨O,R,b,U,X,S,h,Y,Q,Z⟩,p⟩:=zaj K2.o;have N:=zab (zae (zae (zaa _ _) (zaa _ _)) J);clear J;have ho:=HO.o;have s:¬zba t=false:=by rw[hg];simp
 have m:¬(zes t 1).on=true:=by rw[show zes t 1=t.h1 from rfl,ho];simp
 have u:Hid (IsTx w (.agg #[.int .i64 t.seq,.slice a t.info.length c,.slice a' t.data.length c',.slice r t.rev.length d,.bool t.h0.on,.int .i64 t.h0.left,.bool false,.int .i64 t.h1.left,.bool t.h2.on,.int .i64 t.h2.left]) t):=by have:=l.o;rw[ho]at this;exact this
 have hw:zap 1 0 2=true:=rfl
 cases hq:zap n 0 12 with
 |false=>
  have y:n<0∨12<n:=by
   by_cases e:0≤n∧n≤12
   ·rw[zbe.2 e]at hq;cases hq
   ·omega
  have I:Hid (zbc t 1 n free=2):=by rw[Hid,zbc,if_neg s,if_neg (by omega),if_neg m,if_pos y]
  have E:Hid (zaw t 1 n free=t):=by rw[Hid,zaw,I.o];rfl
  clear s m y i A4;go_wp2_with (first|(go_at_call 117;refine(zbm _ _).mono ?_;rintro e w' ⟨rfl,rfl⟩)|(go_at_call 59;refine(za0 _ _ _ _).mono ?_;rintro e w' ⟨rfl,rfl⟩));refine bodyPost_ret (v:=.tuple #[.agg #[.int .i64 t.seq,.slice a t.info.length c,.slice a' t.data.length c',.slice r t.rev.length d,.bool t.h0.on,.int .i64 t.h0.left,.bool t.h1.on,.int .i64 t.h1.left,.bool t.h2.on,.int .i64 t.h2.left],.int .i64 2]) (by simp[results,results80,go_sem,O,R,b,U,X,S,h,Y,Q,Z,ho]) rfl ⟨_,by rw[I.o],?_⟩;refine⟨?_,?_,.inl rfl⟩
  ·rw[E.o];refine l.o.below ?_
   repeat refine Below.setCell ?_ (by simp) _
   exact N.o
  ·repeat refine Below.setCell ?_ (by simp) _
   exact N.o
 |true=>
  have B0:=zbe.1 hq;have NN:¬(n<0∨12<n):=by omega
  go_wp2_with (first|(go_at_call 117;refine(zbm _ _).mono ?_;rintro e w' ⟨rfl,rfl⟩)|(go_at_call 59;refine(za0 _ _ _ _).mono ?_;rintro e w' ⟨rfl,rfl⟩));refine(zj3 _ t _ (u.o.below N.o)).mono ?_;rintro e F ⟨rfl,M⟩;have A6:w.heap.size+1<F.heap.size:=by have:=M.size;omega
  have A9:w.heap.size<F.heap.size:=by omega
  have A8:=zab (zad M A1 K1.o);have x:=zab (zad M A7 K2.o);have D:=zab (zae N.o M);clear z x1 x2 x3 x4 x5 x6 x7 x8 x9 O R b U X S h Y Q Z p M K1 K2 N;obtain⟨⟨z,x1,x2,x3,x4,x5,x6,x7,x8,x9⟩,_⟩:=zaj A8.o;obtain⟨⟨O,R,b,U,X,S,h,Y,Q,Z⟩,p⟩:=zaj x.o;have A5:=i.2.1;have A2:=i.2.2;have L:Hid (zbc t 1 n free=if 24<zb2 t+n∨free<ze5 (zb2 t+n) then 6 else 0):=by rw[Hid,zbc,if_neg s,if_neg (by omega),if_neg m,if_neg NN]
  obtain⟨q,k⟩:∃q,q=zb2 t:=⟨_,rfl⟩;rw[←k]at L A5 A2;rw[←k];clear i s m NN k hq
  cases hrm:(decide (q+n≤24)&&decide (ze5 (q+n)≤free)) with
  |false=>
   have I:Hid (zbc t 1 n free=6):=by
    rw[Hid,L.o,if_pos];by_cases e:q+n≤24
    ·rw[show decide (q+n≤24)=true from by simpa using e,Bool.true_and]at hrm;simp at hrm;omega
    ·omega
   have E:Hid (zaw t 1 n free=t):=by rw[Hid,zaw,I.o];rfl
   have A:=zhx (q+n) free F;rw[hrm]at A;clear hrm L;go_wp2_with fail;refine A.mono ?_;rintro e w3 ⟨rfl,rfl⟩;go_wp2;refine bodyPost_ret (v:=.tuple #[.agg #[.int .i64 t.seq,.slice a t.info.length c,.slice a' t.data.length c',.slice r t.rev.length d,.bool t.h0.on,.int .i64 t.h0.left,.bool t.h1.on,.int .i64 t.h1.left,.bool t.h2.on,.int .i64 t.h2.left],.int .i64 6]) (by simp[results,results80,go_sem,O,R,b,U,X,S,h,Y,Q,Z,ho]) rfl ⟨_,by rw[I.o],?_⟩;refine⟨?_,?_,.inl rfl⟩
   ·rw[E.o];refine l.o.below ?_
    repeat refine Below.setCell ?_ (by simp) _
    exact D.o
   ·repeat refine Below.setCell ?_ (by simp) _
    exact D.o
  |true=>
   have I:Hid (zbc t 1 n free=0):=by
    rw[Hid,L.o,if_neg];simp at hrm;omega
   have E:Hid (zaw t 1 n free={t with h1:=⟨true,n⟩}):=by rw[Hid,zaw,I.o];rfl
   have A:=zhx (q+n) free F;rw[hrm]at A;clear hrm L;go_wp2_with fail;refine A.mono ?_;rintro e w3 ⟨rfl,rfl⟩;go_wp2_with fail;refine(zcy _ t _ (u.o.below D.o) (by omega) (by omega) (by omega)).mono ?_;rintro e w4 ⟨va,vd,vr,rfl,C,j⟩;obtain⟨a1,c1,rfl,_,_⟩:=SegC.of_owns C.2.1;obtain⟨a2,c2,rfl,_,_⟩:=SegC.of_owns C.2.2.1;obtain⟨a3,c3,rfl,_,_⟩:=SegI.of_owns C.2.2.2;have K:=zab C;have B1:=C.lt;have A3:=zab (zae D.o j);have A0:=zab (zad j A6 x.o);clear z x1 x2 x3 x4 x5 x6 x7 x8 x9 O R b U X S h Y Q Z p j C D;obtain⟨⟨O,R,b,U,X,S,h,Y,Q,Z⟩,p⟩:=zaj A0.o;obtain⟨⟨z0,z1,z2,z3,z4,z5,z6,z7,z8,z9⟩,gf⟩:=zaj K.o.1;have HX:Hid (BoxTx ((w4.setCell ⟨F.heap.size,6,none⟩ (.bool true)).setCell ⟨F.heap.size,7,none⟩ (.int .i64 n)) F.heap.size {t with h1:=⟨true,n⟩} (.slice a1 t.info.length c1) (.slice a2 t.data.length c2) (.slice a3 t.rev.length c3)):=(K.o.set (t':={t with h1:=⟨true,t.h1.left⟩}) 6 (.bool true) rfl K.o.2.1 K.o.2.2.1 K.o.2.2.2).set (t':={t with h1:=⟨true,n⟩}) 7 (.int .i64 n) rfl (ownsRow_setCell_below K.o.2.1 (by simp) _) (ownsRow_setCell_below K.o.2.2.1 (by simp) _) (ownsRow_setCell_below K.o.2.2.2 (by simp) _);go_wp2;refine bodyPost_ret (v:=.tuple #[.agg #[.int .i64 t.seq,.slice a1 t.info.length c1,.slice a2 t.data.length c2,.slice a3 t.rev.length c3,.bool t.h0.on,.int .i64 t.h0.left,.bool true,.int .i64 n,.bool t.h2.on,.int .i64 t.h2.left],.int .i64 0]) (by simp[results,results80,go_sem,O,R,b,U,X,S,h,Y,Q,Z]) rfl ⟨_,by rw[I.o],?_⟩;rw[E.o];refine⟨?_,?_,.inr (HX.o.fromR (t:={t with h1:=⟨true,n⟩}) (by omega))⟩
   ·refine BoxTx.is (t:={t with h1:=⟨true,n⟩}) (B:=F.heap.size) ?_ N1.o N2.o N3.o
    repeat refine BoxTx.other ?_ (by simp;omega) _
    exact HX.o
   ·repeat refine Below.setCell ?_ (by simp;try omega) _
    exact A3.o
theorem zxe(v:Value)(t:Tx)(n free:Int)(w:World)(hT:IsTx w v t)(r1:t.info.length*24≤140737488355328)(r2:t.data.length*24≤140737488355328)(hg:zba t=true)(ho:t.h2.on=true):
  Calls prog 80 #[v,.int .i64 2,.int .i64 n,.int .i64 free] w fun e w'=>∃v2,e=.returned (.tuple #[v2,.int .i64 (zbc t 2 n free)])∧IsTx w' v2 (zaw t 2 n free)∧Below w.heap.size w w'∧(v2=v∨za2 w.heap.size v2 (zaw t 2 n free)):=by
 have h:=zab ho;clear ho;have J:=zab hT;obtain⟨a,c,Q,M,r,d,rfl,b,Z,i,E,C,K⟩:=hT;have N1:=zab E;have N2:=zab C;have N3:=zab K;clear b Z i E C K;go_enter func80,ntmps80;go_wp2_with fail;refine(zb7 _ t _ (J.o.below (zae (zaa _ _) (zaa _ _))) r1 r2).mono ?_;rintro e D ⟨rfl,A⟩;have A1:w.heap.size+1<D.heap.size:=by have:=A.size;simp at this;omega
 have A0:w.heap.size<D.heap.size:=by omega
 have l:=zab (zgr A);have L:=zab (zhl A);obtain⟨⟨x0,x1,x2,x3,x4,x5,x6,x7,x8,x9⟩,_⟩:=zaj l.o;obtain⟨⟨R,X,O,j,k,Y,U,m,S,N⟩,ff⟩:=zaj L.o;have B:=zab (zae (zae (zaa _ _) (zaa _ _)) A);clear A;have ho:=h.o;have I:Hid (zbc t 2 n free=5):=by rw[Hid,zbc,if_neg (by rw[hg];simp),if_neg (by omega),show zes t 2=t.h2 from rfl,if_pos ho]
 have F:Hid (zaw t 2 n free=t):=by rw[Hid,zaw,I.o];rfl
 have hw:zap 2 0 2=true:=rfl;go_wp2_with (go_at_call 117;refine(zbm _ _).mono ?_;rintro e w' ⟨rfl,rfl⟩);refine bodyPost_ret (v:=.tuple #[.agg #[.int .i64 t.seq,.slice a t.info.length c,.slice Q t.data.length M,.slice r t.rev.length d,.bool t.h0.on,.int .i64 t.h0.left,.bool t.h1.on,.int .i64 t.h1.left,.bool t.h2.on,.int .i64 t.h2.left],.int .i64 5]) (by simp[results,results80,go_sem,R,X,O,j,k,Y,U,m,S,N,ho]) rfl ⟨_,by rw[I.o],?_⟩;refine⟨?_,?_,.inl rfl⟩
 ·rw[F.o];refine J.o.below ?_
  repeat refine Below.setCell ?_ (by simp) _
  exact B.o
 ·repeat refine Below.setCell ?_ (by simp) _
  exact B.o
theorem zts(v:Value)(t:Tx)(n free:Int)(w:World)(hT:IsTx w v t)(r1:t.info.length*24≤140737488355328)(r2:t.data.length*24≤140737488355328)(hg:zba t=true)(ho:t.h2.on=false):
  Calls prog 80 #[v,.int .i64 2,.int .i64 n,.int .i64 free] w fun e w'=>∃v2,e=.returned (.tuple #[v2,.int .i64 (zbc t 2 n free)])∧IsTx w' v2 (zaw t 2 n free)∧Below w.heap.size w w'∧(v2=v∨za2 w.heap.size v2 (zaw t 2 n free)):=by
 have A4:=zaz hg;have i:=zc9 hg;have HO:=zab ho;clear ho;have l:=zab hT;obtain⟨a,c,a',c',r,d,rfl,hM,hD,hR,n1,n2,n3⟩:=hT;have N1:=zab n1;have N2:=zab n2;have N3:=zab n3;clear hM hD hR n1 n2 n3;go_enter func80,ntmps80;go_wp2_with fail;refine(zb7 _ t _ (l.o.below (zae (zaa _ _) (zaa _ _))) r1 r2).mono ?_;rintro e w1 ⟨rfl,J⟩;have A7:w.heap.size+1<w1.heap.size:=by have:=J.size;simp at this;omega
 have A1:w.heap.size<w1.heap.size:=by omega
 have K1:=zab (zgr J);have K2:=zab (zhl J);obtain⟨⟨z,x1,x2,x3,x4,x5,x6,x7,x8,x9⟩,_⟩:=zaj K1.o;obtain⟨⟨O,R,b,U,X,S,h,Y,Q,Z⟩,p⟩:=zaj K2.o;have N:=zab (zae (zae (zaa _ _) (zaa _ _)) J);clear J;have ho:=HO.o;have s:¬zba t=false:=by rw[hg];simp
 have m:¬(zes t 2).on=true:=by rw[show zes t 2=t.h2 from rfl,ho];simp
 have u:Hid (IsTx w (.agg #[.int .i64 t.seq,.slice a t.info.length c,.slice a' t.data.length c',.slice r t.rev.length d,.bool t.h0.on,.int .i64 t.h0.left,.bool t.h1.on,.int .i64 t.h1.left,.bool false,.int .i64 t.h2.left]) t):=by have:=l.o;rw[ho]at this;exact this
 have hw:zap 2 0 2=true:=rfl
 cases hq:zap n 0 12 with
 |false=>
  have y:n<0∨12<n:=by
   by_cases e:0≤n∧n≤12
   ·rw[zbe.2 e]at hq;cases hq
   ·omega
  have I:Hid (zbc t 2 n free=2):=by rw[Hid,zbc,if_neg s,if_neg (by omega),if_neg m,if_pos y]
  have E:Hid (zaw t 2 n free=t):=by rw[Hid,zaw,I.o];rfl
  clear s m y i A4;go_wp2_with (first|(go_at_call 117;refine(zbm _ _).mono ?_;rintro e w' ⟨rfl,rfl⟩)|(go_at_call 59;refine(za0 _ _ _ _).mono ?_;rintro e w' ⟨rfl,rfl⟩));refine bodyPost_ret (v:=.tuple #[.agg #[.int .i64 t.seq,.slice a t.info.length c,.slice a' t.data.length c',.slice r t.rev.length d,.bool t.h0.on,.int .i64 t.h0.left,.bool t.h1.on,.int .i64 t.h1.left,.bool t.h2.on,.int .i64 t.h2.left],.int .i64 2]) (by simp[results,results80,go_sem,O,R,b,U,X,S,h,Y,Q,Z,ho]) rfl ⟨_,by rw[I.o],?_⟩;refine⟨?_,?_,.inl rfl⟩
  ·rw[E.o];refine l.o.below ?_
   repeat refine Below.setCell ?_ (by simp) _
   exact N.o
  ·repeat refine Below.setCell ?_ (by simp) _
   exact N.o
 |true=>
  have B0:=zbe.1 hq;have NN:¬(n<0∨12<n):=by omega
  go_wp2_with (first|(go_at_call 117;refine(zbm _ _).mono ?_;rintro e w' ⟨rfl,rfl⟩)|(go_at_call 59;refine(za0 _ _ _ _).mono ?_;rintro e w' ⟨rfl,rfl⟩));refine(zj3 _ t _ (u.o.below N.o)).mono ?_;rintro e F ⟨rfl,M⟩;have A6:w.heap.size+1<F.heap.size:=by have:=M.size;omega
  have A9:w.heap.size<F.heap.size:=by omega
  have A8:=zab (zad M A1 K1.o);have x:=zab (zad M A7 K2.o);have D:=zab (zae N.o M);clear z x1 x2 x3 x4 x5 x6 x7 x8 x9 O R b U X S h Y Q Z p M K1 K2 N;obtain⟨⟨z,x1,x2,x3,x4,x5,x6,x7,x8,x9⟩,_⟩:=zaj A8.o;obtain⟨⟨O,R,b,U,X,S,h,Y,Q,Z⟩,p⟩:=zaj x.o;have A5:=i.2.1;have A2:=i.2.2;have L:Hid (zbc t 2 n free=if 24<zb2 t+n∨free<ze5 (zb2 t+n) then 6 else 0):=by rw[Hid,zbc,if_neg s,if_neg (by omega),if_neg m,if_neg NN]
  obtain⟨q,k⟩:∃q,q=zb2 t:=⟨_,rfl⟩;rw[←k]at L A5 A2;rw[←k];clear i s m NN k hq
  cases hrm:(decide (q+n≤24)&&decide (ze5 (q+n)≤free)) with
  |false=>
   have I:Hid (zbc t 2 n free=6):=by
    rw[Hid,L.o,if_pos];by_cases e:q+n≤24
    ·rw[show decide (q+n≤24)=true from by simpa using e,Bool.true_and]at hrm;simp at hrm;omega
    ·omega
   have E:Hid (zaw t 2 n free=t):=by rw[Hid,zaw,I.o];rfl
   have A:=zhx (q+n) free F;rw[hrm]at A;clear hrm L;go_wp2_with fail;refine A.mono ?_;rintro e w3 ⟨rfl,rfl⟩;go_wp2;refine bodyPost_ret (v:=.tuple #[.agg #[.int .i64 t.seq,.slice a t.info.length c,.slice a' t.data.length c',.slice r t.rev.length d,.bool t.h0.on,.int .i64 t.h0.left,.bool t.h1.on,.int .i64 t.h1.left,.bool t.h2.on,.int .i64 t.h2.left],.int .i64 6]) (by simp[results,results80,go_sem,O,R,b,U,X,S,h,Y,Q,Z,ho]) rfl ⟨_,by rw[I.o],?_⟩;refine⟨?_,?_,.inl rfl⟩
   ·rw[E.o];refine l.o.below ?_
    repeat refine Below.setCell ?_ (by simp) _
    exact D.o
   ·repeat refine Below.setCell ?_ (by simp) _
    exact D.o
  |true=>
   have I:Hid (zbc t 2 n free=0):=by
    rw[Hid,L.o,if_neg];simp at hrm;omega
   have E:Hid (zaw t 2 n free={t with h2:=⟨true,n⟩}):=by rw[Hid,zaw,I.o];rfl
   have A:=zhx (q+n) free F;rw[hrm]at A;clear hrm L;go_wp2_with fail;refine A.mono ?_;rintro e w3 ⟨rfl,rfl⟩;go_wp2_with fail;refine(zcy _ t _ (u.o.below D.o) (by omega) (by omega) (by omega)).mono ?_;rintro e w4 ⟨va,vd,vr,rfl,C,j⟩;obtain⟨a1,c1,rfl,_,_⟩:=SegC.of_owns C.2.1;obtain⟨a2,c2,rfl,_,_⟩:=SegC.of_owns C.2.2.1;obtain⟨a3,c3,rfl,_,_⟩:=SegI.of_owns C.2.2.2;have K:=zab C;have B1:=C.lt;have A3:=zab (zae D.o j);have A0:=zab (zad j A6 x.o);clear z x1 x2 x3 x4 x5 x6 x7 x8 x9 O R b U X S h Y Q Z p j C D;obtain⟨⟨O,R,b,U,X,S,h,Y,Q,Z⟩,p⟩:=zaj A0.o;obtain⟨⟨z0,z1,z2,z3,z4,z5,z6,z7,z8,z9⟩,gf⟩:=zaj K.o.1;have HX:Hid (BoxTx ((w4.setCell ⟨F.heap.size,8,none⟩ (.bool true)).setCell ⟨F.heap.size,9,none⟩ (.int .i64 n)) F.heap.size {t with h2:=⟨true,n⟩} (.slice a1 t.info.length c1) (.slice a2 t.data.length c2) (.slice a3 t.rev.length c3)):=(K.o.set (t':={t with h2:=⟨true,t.h2.left⟩}) 8 (.bool true) rfl K.o.2.1 K.o.2.2.1 K.o.2.2.2).set (t':={t with h2:=⟨true,n⟩}) 9 (.int .i64 n) rfl (ownsRow_setCell_below K.o.2.1 (by simp) _) (ownsRow_setCell_below K.o.2.2.1 (by simp) _) (ownsRow_setCell_below K.o.2.2.2 (by simp) _);go_wp2;refine bodyPost_ret (v:=.tuple #[.agg #[.int .i64 t.seq,.slice a1 t.info.length c1,.slice a2 t.data.length c2,.slice a3 t.rev.length c3,.bool t.h0.on,.int .i64 t.h0.left,.bool t.h1.on,.int .i64 t.h1.left,.bool true,.int .i64 n],.int .i64 0]) (by simp[results,results80,go_sem,O,R,b,U,X,S,h,Y,Q,Z]) rfl ⟨_,by rw[I.o],?_⟩;rw[E.o];refine⟨?_,?_,.inr (HX.o.fromR (t:={t with h2:=⟨true,n⟩}) (by omega))⟩
   ·refine BoxTx.is (t:={t with h2:=⟨true,n⟩}) (B:=F.heap.size) ?_ N1.o N2.o N3.o
    repeat refine BoxTx.other ?_ (by simp;omega) _
    exact HX.o
   ·repeat refine Below.setCell ?_ (by simp;try omega) _
    exact A3.o
theorem ztt(v:Value)(t:Tx)(h n free:Int)(w:World)(hT:IsTx w v t)(r1:t.info.length*24≤140737488355328)(r2:t.data.length*24≤140737488355328):
  Calls prog 80 #[v,.int .i64 h,.int .i64 n,.int .i64 free] w fun e w'=>∃v2,e=.returned (.tuple #[v2,.int .i64 (zbc t h n free)])∧IsTx w' v2 (zaw t h n free)∧Below w.heap.size w w'∧(v2=v∨za2 w.heap.size v2 (zaw t h n free)):=by
 cases hg:zba t with
 |false=>exact zxb v t h n free w hT r1 r2 hg
 |true=>
  cases hw:zap h 0 2 with
  |false=>exact ztp v t h n free w hT r1 r2 hg hw
  |true=>
   have hr:=zbe.1 hw;have A:h=0∨h=1∨h=2:=by omega
   rcases A with rfl|rfl|rfl
   ·cases ho:t.h0.on with
    |true=>exact zxc v t n free w hT r1 r2 hg ho
    |false=>exact ztq v t n free w hT r1 r2 hg ho
   ·cases ho:t.h1.on with
    |true=>exact zxd v t n free w hT r1 r2 hg ho
    |false=>exact ztr v t n free w hT r1 r2 hg ho
   ·cases ho:t.h2.on with
    |true=>exact zxe v t n free w hT r1 r2 hg ho
    |false=>exact zts v t n free w hT r1 r2 hg ho
def zik (t:Tx)(h b:Int):Tx:=if nameE t h b=0 then nameT t h b else t
theorem z5n(B:Nat)(t:Tx)(va vd vr:Value)(b:Int)(w:World)(hbx:BoxTx w B t va vd vr)(r1:t.info.length≤1000)(r2:t.data.length≤1000)(r3:t.rev.length≤1000)(hl:0≤t.h0.left∧t.h0.left≤24):
  Calls prog 154 #[.pointer (some ⟨B,0,none⟩),.int .i64 0,.int .i64 b] w fun e w'=>e=.returned (.int .i64 (nameE t 0 b))∧BoxTx w' B (zik t 0 b) va vd vr∧Below B w w':=by
 have Z:=zab (hbx.is (by unfold maxLen;omega) (by unfold maxLen;omega) (by unfold maxLen;omega));obtain⟨a1,c1,rfl,_,_⟩:=SegC.of_owns hbx.2.1;obtain⟨a2,c2,rfl,_,_⟩:=SegC.of_owns hbx.2.2.1;obtain⟨a3,c3,rfl,_,_⟩:=SegI.of_owns hbx.2.2.2;have X:=zab hbx;have A0:=hbx.lt;clear hbx r1 r2 r3;obtain⟨⟨I,K,R,N,Q,S,J,M,L,O⟩,U⟩:=zaj X.o.1;go_enter func154,ntmps154;go_wp2_with fail;refine(zg6 _ t b _ Z.o).mono ?_;rintro e Y ⟨rfl,E⟩;have A:=zab (X.o.below E);have D:Hid (Below B w Y):=E.mono (by omega);clear I K R N Q S J M L O U E;obtain⟨⟨I,K,R,N,Q,S,J,M,L,O⟩,U⟩:=zaj A.o.1
 cases hn:zcq t b with
 |true=>
  have C:Hid (nameE t 0 b=0):=by rw[Hid,nameE,if_pos hn]
  have F:Hid (nameT t 0 b=t):=by rw[Hid,nameT,if_pos hn]
  go_wp2;go_ret;exact⟨by rw[C.o];rfl,by rw[zik,if_pos C.o,F.o];exact A.o,D.o⟩
 |false=>
  by_cases h0:t.h0.left=0
  ·have C:Hid (nameE t 0 b=7):=by rw[Hid,nameE,if_neg (by rw[hn];simp),if_pos (show(zes t 0).left=0 from h0)]
   have H0:=zab h0;clear hn;go_wp2;go_ret;exact⟨by rw[C.o];rfl,by rw[zik,if_neg (by rw[C.o];decide)];exact A.o,D.o⟩
  ·have C:Hid (nameE t 0 b=0):=by rw[Hid,nameE,if_neg (by rw[hn];simp),if_neg (show¬(zes t 0).left=0 from h0)]
   have F:Hid (nameT t 0 b={t with h0:=⟨t.h0.on,t.h0.left - 1⟩}):=by rw[Hid,nameT,if_neg (by rw[hn];simp)];rfl
   go_wp2;go_ret;refine⟨by rw[C.o];rfl,?_,D.o.setCell (by simp) _⟩;rw[zik,if_pos C.o,F.o];exact A.o.set (t':={t with h0:=⟨t.h0.on,t.h0.left - 1⟩}) 5 (.int .i64 (t.h0.left - 1)) rfl A.o.2.1 A.o.2.2.1 A.o.2.2.2
theorem z5o(B:Nat)(t:Tx)(va vd vr:Value)(b:Int)(w:World)(hbx:BoxTx w B t va vd vr)(r1:t.info.length≤1000)(r2:t.data.length≤1000)(r3:t.rev.length≤1000)(hl:0≤t.h1.left∧t.h1.left≤24):
  Calls prog 154 #[.pointer (some ⟨B,0,none⟩),.int .i64 1,.int .i64 b] w fun e w'=>e=.returned (.int .i64 (nameE t 1 b))∧BoxTx w' B (zik t 1 b) va vd vr∧Below B w w':=by
 have Z:=zab (hbx.is (by unfold maxLen;omega) (by unfold maxLen;omega) (by unfold maxLen;omega));obtain⟨a1,c1,rfl,_,_⟩:=SegC.of_owns hbx.2.1;obtain⟨a2,c2,rfl,_,_⟩:=SegC.of_owns hbx.2.2.1;obtain⟨a3,c3,rfl,_,_⟩:=SegI.of_owns hbx.2.2.2;have X:=zab hbx;have A0:=hbx.lt;clear hbx r1 r2 r3;obtain⟨⟨I,K,R,N,Q,S,J,M,L,O⟩,U⟩:=zaj X.o.1;go_enter func154,ntmps154;go_wp2_with fail;refine(zg6 _ t b _ Z.o).mono ?_;rintro e Y ⟨rfl,E⟩;have A:=zab (X.o.below E);have D:Hid (Below B w Y):=E.mono (by omega);clear I K R N Q S J M L O U E;obtain⟨⟨I,K,R,N,Q,S,J,M,L,O⟩,U⟩:=zaj A.o.1
 cases hn:zcq t b with
 |true=>
  have C:Hid (nameE t 1 b=0):=by rw[Hid,nameE,if_pos hn]
  have F:Hid (nameT t 1 b=t):=by rw[Hid,nameT,if_pos hn]
  go_wp2;go_ret;exact⟨by rw[C.o];rfl,by rw[zik,if_pos C.o,F.o];exact A.o,D.o⟩
 |false=>
  by_cases h0:t.h1.left=0
  ·have C:Hid (nameE t 1 b=7):=by rw[Hid,nameE,if_neg (by rw[hn];simp),if_pos (show(zes t 1).left=0 from h0)]
   have H0:=zab h0;clear hn;go_wp2;go_ret;exact⟨by rw[C.o];rfl,by rw[zik,if_neg (by rw[C.o];decide)];exact A.o,D.o⟩
  ·have C:Hid (nameE t 1 b=0):=by rw[Hid,nameE,if_neg (by rw[hn];simp),if_neg (show¬(zes t 1).left=0 from h0)]
   have F:Hid (nameT t 1 b={t with h1:=⟨t.h1.on,t.h1.left - 1⟩}):=by rw[Hid,nameT,if_neg (by rw[hn];simp)];rfl
   go_wp2;go_ret;refine⟨by rw[C.o];rfl,?_,D.o.setCell (by simp) _⟩;rw[zik,if_pos C.o,F.o];exact A.o.set (t':={t with h1:=⟨t.h1.on,t.h1.left - 1⟩}) 7 (.int .i64 (t.h1.left - 1)) rfl A.o.2.1 A.o.2.2.1 A.o.2.2.2
theorem z5p(B:Nat)(t:Tx)(va vd vr:Value)(b:Int)(w:World)(hbx:BoxTx w B t va vd vr)(r1:t.info.length≤1000)(r2:t.data.length≤1000)(r3:t.rev.length≤1000)(hl:0≤t.h2.left∧t.h2.left≤24):
  Calls prog 154 #[.pointer (some ⟨B,0,none⟩),.int .i64 2,.int .i64 b] w fun e w'=>e=.returned (.int .i64 (nameE t 2 b))∧BoxTx w' B (zik t 2 b) va vd vr∧Below B w w':=by
 have Z:=zab (hbx.is (by unfold maxLen;omega) (by unfold maxLen;omega) (by unfold maxLen;omega));obtain⟨a1,c1,rfl,_,_⟩:=SegC.of_owns hbx.2.1;obtain⟨a2,c2,rfl,_,_⟩:=SegC.of_owns hbx.2.2.1;obtain⟨a3,c3,rfl,_,_⟩:=SegI.of_owns hbx.2.2.2;have X:=zab hbx;have A0:=hbx.lt;clear hbx r1 r2 r3;obtain⟨⟨I,K,R,N,Q,S,J,M,L,O⟩,U⟩:=zaj X.o.1;go_enter func154,ntmps154;go_wp2_with fail;refine(zg6 _ t b _ Z.o).mono ?_;rintro e Y ⟨rfl,E⟩;have A:=zab (X.o.below E);have D:Hid (Below B w Y):=E.mono (by omega);clear I K R N Q S J M L O U E;obtain⟨⟨I,K,R,N,Q,S,J,M,L,O⟩,U⟩:=zaj A.o.1
 cases hn:zcq t b with
 |true=>
  have C:Hid (nameE t 2 b=0):=by rw[Hid,nameE,if_pos hn]
  have F:Hid (nameT t 2 b=t):=by rw[Hid,nameT,if_pos hn]
  go_wp2;go_ret;exact⟨by rw[C.o];rfl,by rw[zik,if_pos C.o,F.o];exact A.o,D.o⟩
 |false=>
  by_cases h0:t.h2.left=0
  ·have C:Hid (nameE t 2 b=7):=by rw[Hid,nameE,if_neg (by rw[hn];simp),if_pos (show(zes t 2).left=0 from h0)]
   have H0:=zab h0;clear hn;go_wp2;go_ret;exact⟨by rw[C.o];rfl,by rw[zik,if_neg (by rw[C.o];decide)];exact A.o,D.o⟩
  ·have C:Hid (nameE t 2 b=0):=by rw[Hid,nameE,if_neg (by rw[hn];simp),if_neg (show¬(zes t 2).left=0 from h0)]
   have F:Hid (nameT t 2 b={t with h2:=⟨t.h2.on,t.h2.left - 1⟩}):=by rw[Hid,nameT,if_neg (by rw[hn];simp)];rfl
   go_wp2;go_ret;refine⟨by rw[C.o];rfl,?_,D.o.setCell (by simp) _⟩;rw[zik,if_pos C.o,F.o];exact A.o.set (t':={t with h2:=⟨t.h2.on,t.h2.left - 1⟩}) 9 (.int .i64 (t.h2.left - 1)) rfl A.o.2.1 A.o.2.2.1 A.o.2.2.2
theorem zlj(B:Nat)(t:Tx)(va vd vr:Value)(h b:Int)(w:World)(hbx:BoxTx w B t va vd vr)(hg:zba t=true)(hh:h=0∨h=1∨h=2):
  Calls prog 154 #[.pointer (some ⟨B,0,none⟩),.int .i64 h,.int .i64 b] w fun e w'=>e=.returned (.int .i64 (nameE t h b))∧BoxTx w' B (zik t h b) va vd vr∧Below B w w':=by
 have hs:=zaz hg;rcases hh with rfl|rfl|rfl
 ·have:=(zer _).1 (zl9 hg 0);exact z5n B t va vd vr b w hbx (by omega) (by omega) (by omega) ⟨this.1,this.2.1⟩
 ·have:=(zer _).1 (zl9 hg 1);exact z5o B t va vd vr b w hbx (by omega) (by omega) (by omega) ⟨this.1,this.2.1⟩
 ·have:=(zer _).1 (zl9 hg 2);exact z5p B t va vd vr b w hbx (by omega) (by omega) (by omega) ⟨this.1,this.2.1⟩
theorem zj8{α:Type}(key:α→Int)(l:List α)(b:Int)(x:α):(zbj key l b x).length≤2*l.length+1:=by
 have h1:=List.length_filter_le (fun y=>decide (key y<b)) l;have h2:=List.length_filter_le (fun y=>decide (b<key y)) l;simp[zbj];omega
theorem zim{α:Type}(key:α→Int)(l:List α)(b:Int):(zax key l b).length≤2*l.length:=by
 have h1:=List.length_filter_le (fun y=>decide (key y<b)) l;have h2:=List.length_filter_le (fun y=>decide (b<key y)) l;simp[zax];omega
theorem zxf(v:Value)(t:Tx)(h b:Int)(s:ByteArray)(w:World)(hT:IsTx w v t)(r1:t.info.length*24≤140737488355328)(r2:t.data.length*24≤140737488355328)(hr:¬reachE t h b=0):
  Calls prog 121 #[v,.int .i64 h,.int .i64 b,.string s] w fun e w'=>∃v2,e=.returned (.tuple #[v2,.int .i64 (changeE t h b s)])∧IsTx w' v2 (zaf t h b s)∧Below w.heap.size w w'∧(v2=v∨za2 w.heap.size v2 (zaf t h b s)):=by
 have M:=zab hT;obtain⟨a,c,U,Q,r,d,rfl,J,I,L,E,C,N⟩:=hT;have HM:=zab J;have HD:=zab I;have HR:=zab L;have N1:=zab E;have N2:=zab C;have N3:=zab N;clear J I L E C N;go_enter func121,ntmps121;go_wp2_with fail;refine(zcg _ t h b _ (M.o.below (zae (zaa _ _) (zaa _ _))) r1 r2).mono ?_;rintro e D ⟨rfl,A⟩;have A1:w.heap.size+1<D.heap.size:=by have:=A.size;simp at this;omega
 have A0:w.heap.size<D.heap.size:=by omega
 have m:=zab (zgr A);have O:=zab (zhl A);obtain⟨⟨x0,x1,x2,x3,x4,x5,x6,x7,x8,x9⟩,_⟩:=zaj m.o;obtain⟨⟨X,i,S,k,l,j,Z,n,Y,R⟩,ff⟩:=zaj O.o;have B:=zab (zae (zae (zaa _ _) (zaa _ _)) A);clear A;have K:Hid (changeE t h b s=reachE t h b):=by rw[Hid,changeE,if_pos hr]
 have F:Hid (zaf t h b s=t):=by rw[Hid,zaf,if_neg (by rw[K.o];exact hr)]
 generalize reachE t h b=z at *;go_wp2;refine bodyPost_ret (v:=.tuple #[.agg #[.int .i64 t.seq,.slice a t.info.length c,.slice U t.data.length Q,.slice r t.rev.length d,.bool t.h0.on,.int .i64 t.h0.left,.bool t.h1.on,.int .i64 t.h1.left,.bool t.h2.on,.int .i64 t.h2.left],.int .i64 z]) (by simp[results,results121,go_sem,X,i,S,k,l,j,Z,n,Y,R]) rfl ⟨_,by rw[K.o],?_⟩;refine⟨?_,?_,.inl rfl⟩
 ·rw[F.o];refine M.o.below ?_
  repeat refine Below.setCell ?_ (by simp) _
  exact B.o
 ·repeat refine Below.setCell ?_ (by simp) _
  exact B.o
theorem zrk(v:Value)(t:Tx)(h b:Int)(s:ByteArray)(w:World)(hT:IsTx w v t)(r1:t.info.length*24≤140737488355328)(r2:t.data.length*24≤140737488355328)(hr:reachE t h b=0)(hs:zbb s=false):
  Calls prog 121 #[v,.int .i64 h,.int .i64 b,.string s] w fun e w'=>∃v2,e=.returned (.tuple #[v2,.int .i64 (changeE t h b s)])∧IsTx w' v2 (zaf t h b s)∧Below w.heap.size w w'∧(v2=v∨za2 w.heap.size v2 (zaf t h b s)):=by
 have M:=zab hT;obtain⟨a,c,U,Q,r,d,rfl,J,I,L,E,C,N⟩:=hT;have HM:=zab J;have HD:=zab I;have HR:=zab L;have N1:=zab E;have N2:=zab C;have N3:=zab N;clear J I L E C N;go_enter func121,ntmps121;go_wp2_with fail;refine(zcg _ t h b _ (M.o.below (zae (zaa _ _) (zaa _ _))) r1 r2).mono ?_;rintro e D ⟨rfl,A⟩;have A1:w.heap.size+1<D.heap.size:=by have:=A.size;simp at this;omega
 have A0:w.heap.size<D.heap.size:=by omega
 have m:=zab (zgr A);have O:=zab (zhl A);obtain⟨⟨x0,x1,x2,x3,x4,x5,x6,x7,x8,x9⟩,_⟩:=zaj m.o;obtain⟨⟨X,i,S,k,l,j,Z,n,Y,R⟩,ff⟩:=zaj O.o;have B:=zab (zae (zae (zaa _ _) (zaa _ _)) A);clear A;have K:Hid (changeE t h b s=1):=by rw[Hid,changeE,if_neg (by rw[hr];simp),if_pos hs]
 have F:Hid (zaf t h b s=t):=by rw[Hid,zaf,if_neg (by rw[K.o];decide)]
 have hz:¬(s.size:Int)=32:=by simpa[zbb] using hs
 clear hs;go_wp2;refine bodyPost_ret (v:=.tuple #[.agg #[.int .i64 t.seq,.slice a t.info.length c,.slice U t.data.length Q,.slice r t.rev.length d,.bool t.h0.on,.int .i64 t.h0.left,.bool t.h1.on,.int .i64 t.h1.left,.bool t.h2.on,.int .i64 t.h2.left],.int .i64 1]) (by simp[results,results121,go_sem,X,i,S,k,l,j,Z,n,Y,R]) rfl ⟨_,by rw[K.o],?_⟩;refine⟨?_,?_,.inl rfl⟩
 ·rw[F.o];refine M.o.below ?_
  repeat refine Below.setCell ?_ (by simp) _
  exact B.o
 ·repeat refine Below.setCell ?_ (by simp) _
  exact B.o
theorem zrl(v:Value)(t:Tx)(h b:Int)(s:ByteArray)(w:World)(hT:IsTx w v t)(r1:t.info.length*24≤140737488355328)(r2:t.data.length*24≤140737488355328)(hr:reachE t h b=0)(hs:zbb s=true)(hd:(zai b t.data).isSome=true):
  Calls prog 121 #[v,.int .i64 h,.int .i64 b,.string s] w fun e w'=>∃v2,e=.returned (.tuple #[v2,.int .i64 (changeE t h b s)])∧IsTx w' v2 (zaf t h b s)∧Below w.heap.size w w'∧(v2=v∨za2 w.heap.size v2 (zaf t h b s)):=by
 have HT:=zab hT;obtain⟨a,c,k,Z,r,d,rfl,hM,hD,hR,n,j,n3⟩:=hT;have HM:=zab hM;have HD:=zab hD;have HR:=zab hR;have N1:=zab n;have N2:=zab j;have N3:=zab n3;clear hM hD hR n j n3;go_enter func121,ntmps121;go_wp2_with fail;refine(zcg _ t h b _ (HT.o.below (zae (zaa _ _) (zaa _ _))) r1 r2).mono ?_;rintro e l ⟨rfl,B⟩;have A1:w.heap.size+1<l.heap.size:=by have:=B.size;simp at this;omega
 have N:w.heap.size<l.heap.size:=by omega
 have S:=zab (zgr B);have E:=zab (zhl B);obtain⟨⟨m,q,y,x3,u,X,Y,x7,z,p⟩,_⟩:=zaj S.o;obtain⟨⟨J,M,I,Q,R,O,L,U,K,F⟩,i⟩:=zaj E.o;have C:=zab (zae (zae (zaa _ _) (zaa _ _)) B);clear B;have HE:Hid (changeE t h b s=8):=by rw[Hid,changeE,if_neg (by rw[hr];simp),if_neg (by rw[hs];simp),if_pos hd]
 have x:Hid (zaf t h b s=t):=by rw[Hid,zaf,if_neg (by rw[HE.o];decide)]
 have hz:(s.size:Int)=32:=by simpa[zbb] using hs
 clear hs;go_wp2_with fail;refine(zja k Z t.data b _ (HD.o.below C.o) N2.o).mono ?_;rintro e w2 ⟨rfl,A⟩;have A4:w.heap.size+1<w2.heap.size:=by have:=A.size;omega
 have A3:w.heap.size<w2.heap.size:=by omega
 have A2:=zab (zad A N S.o);have A0:=zab (zad A A1 E.o);have D:=zab (zae C.o A);clear m q y x3 u X Y x7 z p J M I Q R O L U K F i A S E C;obtain⟨⟨m,q,y,x3,u,X,Y,x7,z,p⟩,_⟩:=zaj A2.o;obtain⟨⟨J,M,I,Q,R,O,L,U,K,F⟩,i⟩:=zaj A0.o;go_wp2;refine bodyPost_ret (v:=.tuple #[.agg #[.int .i64 t.seq,.slice a t.info.length c,.slice k t.data.length Z,.slice r t.rev.length d,.bool t.h0.on,.int .i64 t.h0.left,.bool t.h1.on,.int .i64 t.h1.left,.bool t.h2.on,.int .i64 t.h2.left],.int .i64 8]) (by simp[results,results121,go_sem,J,M,I,Q,R,O,L,U,K,F]) rfl ⟨_,by rw[HE.o],?_⟩;refine⟨?_,?_,.inl rfl⟩
 ·rw[x.o];refine HT.o.below ?_
  repeat refine Below.setCell ?_ (by simp) _
  exact D.o
 ·repeat refine Below.setCell ?_ (by simp) _
  exact D.o
theorem zm5(v:Value)(t:Tx)(h b:Int)(s:ByteArray)(w:World)(hT:IsTx w v t)(r1:t.info.length*24≤140737488355328)(r2:t.data.length*24≤140737488355328)(hr:reachE t h b=0)(hs:zbb s=true)(hd:(zai b t.data).isSome=false)(hn:¬nameE t h b=0):
  Calls prog 121 #[v,.int .i64 h,.int .i64 b,.string s] w fun e w'=>∃v2,e=.returned (.tuple #[v2,.int .i64 (changeE t h b s)])∧IsTx w' v2 (zaf t h b s)∧Below w.heap.size w w'∧(v2=v∨za2 w.heap.size v2 (zaf t h b s)):=by
 have Z:=zcc hr;have hg:=Z.1;have hh:=Z.2.1;clear Z;have B2:=zaz hg;have HT:=zab hT;obtain⟨a,c,a',c',r,d,rfl,hM,hD,hR,n1,n2,n3⟩:=hT;have HM:=zab hM;have HD:=zab hD;have HR:=zab hR;have N1:=zab n1;have N2:=zab n2;have N3:=zab n3;clear hM hD hR n1 n2 n3;go_enter func121,ntmps121;go_wp2_with fail;refine(zcg _ t h b _ (HT.o.below (zae (zaa _ _) (zaa _ _))) r1 r2).mono ?_;rintro e w1 ⟨rfl,B⟩;have B1:w.heap.size+1<w1.heap.size:=by have:=B.size;simp at this;omega
 have A5:w.heap.size<w1.heap.size:=by omega
 have K1:=zab (zgr B);have K2:=zab (zhl B);obtain⟨⟨j,q,m,p,k,u,x,n,l,x9⟩,_⟩:=zaj K1.o;obtain⟨⟨J,L,U,O,Q,M,X,R,K,S⟩,y⟩:=zaj K2.o;have Y:=zab (zae (zae (zaa _ _) (zaa _ _)) B);clear B;have HE:Hid (changeE t h b s=nameE t h b):=by rw[Hid,changeE,if_neg (by rw[hr];simp),if_neg (by rw[hs];simp),if_neg (by rw[hd];simp)]
 have A6:Hid (zaf t h b s=t):=by rw[Hid,zaf,if_neg (by rw[HE.o];exact hn)]
 have hz:(s.size:Int)=32:=by simpa[zbb] using hs
 clear hs;go_wp2_with fail;refine(zja a' c' t.data b _ (HD.o.below Y.o) N2.o).mono ?_;rintro e w2 ⟨rfl,C⟩;have B0:w.heap.size+1<w2.heap.size:=by have:=C.size;omega
 have A4:w.heap.size<w2.heap.size:=by omega
 have i:=zab (zad C A5 K1.o);have N:=zab (zad C B1 K2.o);have I:=zab (zae Y.o C);clear j q m p k u x n l x9 J L U O Q M X R K S y C K1 K2 Y;obtain⟨⟨j,q,m,p,k,u,x,n,l,x9⟩,_⟩:=zaj i.o;obtain⟨⟨J,L,U,O,Q,M,X,R,K,S⟩,y⟩:=zaj N.o;go_wp2_with fail;refine(zcy _ t _ (HT.o.below I.o) (by omega) (by omega) (by omega)).mono ?_;rintro e w4 ⟨va,vd,vr,rfl,A,F⟩;obtain⟨a1,c1,rfl,_,_⟩:=SegC.of_owns A.2.1;obtain⟨a2,c2,rfl,_,_⟩:=SegC.of_owns A.2.2.1;obtain⟨a3,c3,rfl,_,_⟩:=SegI.of_owns A.2.2.2;have BX:=zab A;have B4:=A.lt;have A1:=zab (zae I.o F);have A0:=zab (zad F A4 i.o);have A2:=zab (zad F B0 N.o);clear j q m p k u x n l x9 J L U O Q M X R K S y F A I i N;obtain⟨⟨z0,z1,z2,z3,z4,z5,z6,z7,z8,z9⟩,gf⟩:=zaj BX.o.1;go_wp2_with fail;refine(zlj w2.heap.size t _ _ _ h b w4 BX.o hg hh).mono ?_;rintro e w5 ⟨rfl,D,E⟩;have A9:=zab D;have B3:=D.lt;have A7:=zab ((E.block w.heap.size (by omega)).trans A0.o);have A8:=zab ((E.block (w.heap.size+1) (by omega)).trans A2.o);have A3:=zab (A1.o.trans (E.mono (by omega)));clear z0 z1 z2 z3 z4 z5 z6 z7 z8 z9 gf E D A1 A0 A2 BX;obtain⟨⟨j,q,m,p,k,u,x,n,l,x9⟩,_⟩:=zaj A7.o;obtain⟨⟨J,L,U,O,Q,M,X,R,K,S⟩,y⟩:=zaj A8.o;clear A9;generalize nameE t h b=z at *;go_wp2;refine bodyPost_ret (v:=.tuple #[.agg #[.int .i64 t.seq,.slice a t.info.length c,.slice a' t.data.length c',.slice r t.rev.length d,.bool t.h0.on,.int .i64 t.h0.left,.bool t.h1.on,.int .i64 t.h1.left,.bool t.h2.on,.int .i64 t.h2.left],.int .i64 z]) (by simp[results,results121,go_sem,J,L,U,O,Q,M,X,R,K,S]) rfl ⟨_,by rw[HE.o],?_⟩;refine⟨?_,?_,.inl rfl⟩
 ·rw[A6.o];refine HT.o.below ?_
  repeat refine Below.setCell ?_ (by simp) _
  exact A3.o
 ·repeat refine Below.setCell ?_ (by simp) _
  exact A3.o
theorem zxg(v:Value)(t:Tx)(h b:Int)(s:ByteArray)(w:World)(hT:IsTx w v t)(r1:t.info.length*24≤140737488355328)(r2:t.data.length*24≤140737488355328)(hr:reachE t h b=0)(hs:zbb s=true)(hd:(zai b t.data).isSome=false)(hn:nameE t h b=0):
  Calls prog 121 #[v,.int .i64 h,.int .i64 b,.string s] w fun e w'=>∃v2,e=.returned (.tuple #[v2,.int .i64 (changeE t h b s)])∧IsTx w' v2 (zaf t h b s)∧Below w.heap.size w w'∧(v2=v∨za2 w.heap.size v2 (zaf t h b s)):=by
 have A9:=zcc hr;have hg:=A9.1;have hh:=A9.2.1;clear A9;have m:=(za9 t).1 hg;have C6:Up (·.1) t.info:=(zfo _ _).1 ((za8 _).1 m.2.2.1.1).2;have D9:Up (·.1) t.data:=(zfo _ _).1 ((za8 _).1 m.2.2.1.2.1).2;have C3:Up id t.rev:=((za8 _).1 m.2.2.1.2.2).2;have D6:=zaz hg;clear m;have HT:=zab hT;obtain⟨a,c,a',c',r,d,rfl,hM,hD,hR,n1,n2,n3⟩:=hT;have HM:=zab hM;have HD:=zab hD;have HR:=zab hR;have N1:=zab n1;have N2:=zab n2;have N3:=zab n3;clear hM hD hR n1 n2 n3;go_enter func121,ntmps121;go_wp2_with fail;refine(zcg _ t h b _ (HT.o.below (zae (zaa _ _) (zaa _ _))) r1 r2).mono ?_;rintro e w1 ⟨rfl,Y⟩;have D1:w.heap.size+1<w1.heap.size:=by have:=Y.size;simp at this;omega
 have C2:w.heap.size<w1.heap.size:=by omega
 have K1:=zab (zgr Y);have K2:=zab (zhl Y);obtain⟨⟨x0,x1,x2,x3,x4,x5,x6,x7,x8,x9⟩,_⟩:=zaj K1.o;obtain⟨⟨F,J,Q,L,M,K,S,N,I,O⟩,Z⟩:=zaj K2.o;have A8:=zab (zae (zae (zaa _ _) (zaa _ _)) Y);clear Y;have HE:Hid (changeE t h b s=0):=by rw[Hid,changeE,if_neg (by rw[hr];simp),if_neg (by rw[hs];simp),if_neg (by rw[hd];simp),hn]
 have B3:Hid (zaf t h b s={{nameT t h b with info:=zbj (·.1) t.info b (b,s)} with rev:=zax id t.rev b}):=by rw[Hid,zaf,if_pos HE.o];rfl
 have hz:(s.size:Int)=32:=by simpa[zbb] using hs
 clear hs;go_wp2_with fail;refine(zja a' c' t.data b _ (HD.o.below A8.o) N2.o).mono ?_;rintro e A ⟨rfl,j⟩;have C8:w.heap.size+1<A.heap.size:=by have:=j.size;omega
 have C1:w.heap.size<A.heap.size:=by omega
 have B0:=zab (zad j C2 K1.o);have A2:=zab (zad j D1 K2.o);have A0:=zab (zae A8.o j);clear x0 x1 x2 x3 x4 x5 x6 x7 x8 x9 F J Q L M K S N I O Z j K1 K2 A8;obtain⟨⟨x0,x1,x2,x3,x4,x5,x6,x7,x8,x9⟩,_⟩:=zaj B0.o;obtain⟨⟨F,J,Q,L,M,K,S,N,I,O⟩,Z⟩:=zaj A2.o;go_wp2_with fail;refine(zcy _ t _ (HT.o.below A0.o) (by omega) (by omega) (by omega)).mono ?_;rintro e w4 ⟨va,vd,vr,rfl,D,n⟩;obtain⟨a1,c1,rfl,_,_⟩:=SegC.of_owns D.2.1;obtain⟨a2,c2,rfl,_,_⟩:=SegC.of_owns D.2.2.1;obtain⟨a3,c3,rfl,_,_⟩:=SegI.of_owns D.2.2.2;have BX:=zab D;have E0:=D.lt;have B4:=zab (zae A0.o n);have B1:=zab (zad n C1 B0.o);have B5:=zab (zad n C8 A2.o);clear x0 x1 x2 x3 x4 x5 x6 x7 x8 x9 F J Q L M K S N I O Z n D A0 B0 A2;obtain⟨⟨z0,z1,z2,x,z,z5,z6,u,q,y⟩,gf⟩:=zaj BX.o.1;go_wp2_with fail;refine(zlj A.heap.size t _ _ _ h b w4 BX.o hg hh).mono ?_;rintro e w5 ⟨rfl,k,l⟩;have C:=zab k;have D8:=k.lt;have D4:=zab ((l.block w.heap.size (by omega)).trans B1.o);have A5:=zab ((l.block (w.heap.size+1) (by omega)).trans B5.o);have B6:=zab (B4.o.trans (l.mono (by omega)));clear z0 z1 z2 x z z5 z6 u q y gf l k B4 B1 B5 BX;rw[zik,if_pos hn]at C;have i:=zei t h b;obtain⟨t',B2⟩:∃t',t'=nameT t h b:=⟨_,rfl⟩;rw[←B2]at C B3 i;have C7:Hid (t'.info=t.info):=i.1;have D2:Hid (t'.data=t.data):=i.2.1;have C5:Hid (t'.rev=t.rev):=i.2.2;clear B2 i;have o6:=C.o.2.1;rw[C7.o]at o6;obtain⟨⟨z0,z1,z2,x,z,z5,z6,u,q,y⟩,gf⟩:=zaj C.o.1;obtain⟨⟨F,J,Q,L,M,K,S,N,I,O⟩,Z⟩:=zaj A5.o;go_wp2_with fail;refine(zrg (A.heap.size+1) _ t.info b s _ o6 (by omega) C6).mono ?_;clear o6;rintro e w6 ⟨v6,rfl,A1,U⟩;obtain⟨p6,q6,rfl,_,_⟩:=SegC.of_owns A1;have D5:=U.size;have D3:A.heap.size<w6.heap.size:=by omega
 have R:=zab (C.o.below U);have A4:Hid (w6.ownsRow (A.heap.size+1) 84 2 (.slice p6 (zbj (·.1) t.info b (b,s)).length q6) (zbj (·.1) t.info b (b,s)).length (cellsC (zbj (·.1) t.info b (b,s)))):=za6 A1 (by omega);have A7:=zab (R.o.set (t':={t' with info:=zbj (·.1) t.info b (b,s)}) 1 (.slice p6 (zbj (·.1) t.info b (b,s)).length q6) rfl A4.o R.o.2.2.1 R.o.2.2.2);have B7:=zab (zad U (by omega) A5.o);have K6:Hid ((w6.setCell ⟨A.heap.size,1,none⟩ (.slice p6 (zbj (·.1) t.info b (b,s)).length q6)).heap[w.heap.size+1]?=_):=(Below.heap_setCell _ _ _ _ (by simp;omega)).trans B7.o;have B9:=zab ((B6.o.trans (U.mono (by omega))).setCell (p:=⟨A.heap.size,1,none⟩) (by simp;omega) (.slice p6 (zbj (·.1) t.info b (b,s)).length q6));clear z0 z1 z2 x z z5 z6 u q y gf F J Q L M K S N I O Z U A1 A4 C B6 A5;have o7:=A7.o.2.2.2;dsimp only at o7;rw[C5.o]at o7;obtain⟨⟨z0,z1,z2,x,z,z5,z6,u,q,y⟩,gf⟩:=zaj R.o.1;obtain⟨⟨F,J,Q,L,M,K,S,N,I,O⟩,Z⟩:=zaj B7.o;go_wp2_with fail;refine(zrj (A.heap.size+1) _ t.rev b _ o7 (by omega) C3).mono ?_;clear o7;rintro e w7 ⟨v7,rfl,A6,X⟩;obtain⟨p7,q7,rfl,_,_⟩:=SegI.of_owns A6;have C9:=X.size;simp only[World.size_setCell]at C9;have D7:A.heap.size<w7.heap.size:=by omega
 have E:=zab (A7.o.below X);have A3:Hid (w7.ownsRow (A.heap.size+1) 3 1 (.slice p7 (zax id t.rev b).length q7) (zax id t.rev b).length (cellsI (zax id t.rev b))):=za6 A6 (by simp;omega);have B8:=zab (E.o.set (t':={{t' with info:=zbj (·.1) t.info b (b,s)} with rev:=zax id t.rev b}) 3 (.slice p7 (zax id t.rev b).length q7) rfl E.o.2.1 E.o.2.2.1 A3.o);have C0:=zab (zad X (by simp;omega) K6.o);have K7:Hid ((w7.setCell ⟨A.heap.size,3,none⟩ (.slice p7 (zax id t.rev b).length q7)).heap[w.heap.size+1]?=_):=(Below.heap_setCell _ _ _ _ (by simp;omega)).trans C0.o;have C4:=zab ((B9.o.trans (X.mono (by simp;omega))).setCell (p:=⟨A.heap.size,3,none⟩) (by simp;omega) (.slice p7 (zax id t.rev b).length q7));clear z0 z1 z2 x z z5 z6 u q y gf F J Q L M K S N I O Z X A6 A3 A7 B9 K6;obtain⟨⟨z0,z1,z2,x,z,z5,z6,u,q,y⟩,gf⟩:=zaj E.o.1;obtain⟨⟨F,J,Q,L,M,K,S,N,I,O⟩,Z⟩:=zaj C0.o;go_wp2;refine bodyPost_ret (v:=.tuple #[.agg #[.int .i64 t'.seq,(.slice p6 (zbj (·.1) t.info b (b,s)).length q6),(.slice a2 t.data.length c2),(.slice p7 (zax id t.rev b).length q7),.bool t'.h0.on,.int .i64 t'.h0.left,.bool t'.h1.on,.int .i64 t'.h1.left,.bool t'.h2.on,.int .i64 t'.h2.left],.int .i64 0]) (by simp[results,results121,go_sem,F,J,Q,L,M,K,S,N,I,O]) rfl ⟨_,by rw[HE.o],?_⟩;rw[B3.o];refine⟨?_,?_,.inr (B8.o.fromR (t:={{t' with info:=zbj (·.1) t.info b (b,s)} with rev:=zax id t.rev b}) (by omega))⟩
 ·refine BoxTx.is (t:={{t' with info:=zbj (·.1) t.info b (b,s)} with rev:=zax id t.rev b}) (B:=A.heap.size) ?_ (by have:=zj8 (·.1) t.info b (b,s);unfold maxLen;dsimp only at this⊢;omega) (by have:=D2.o;unfold maxLen;dsimp only;rw[this];omega) (by have:=zim id t.rev b;unfold maxLen;dsimp only;omega)
  repeat refine BoxTx.other ?_ (by simp;omega) _
  exact B8.o
 ·iterate 10 (refine Below.setCell ?_ (by simp;try omega) _)
  exact C4.o
theorem zrm(v:Value)(t:Tx)(h b:Int)(s:ByteArray)(w:World)(hT:IsTx w v t)(r1:t.info.length*24≤140737488355328)(r2:t.data.length*24≤140737488355328):
  Calls prog 121 #[v,.int .i64 h,.int .i64 b,.string s] w fun e w'=>∃v2,e=.returned (.tuple #[v2,.int .i64 (changeE t h b s)])∧IsTx w' v2 (zaf t h b s)∧Below w.heap.size w w'∧(v2=v∨za2 w.heap.size v2 (zaf t h b s)):=by
 by_cases hr:reachE t h b=0
 ·cases hs:zbb s with
  |false=>exact zrk v t h b s w hT r1 r2 hr hs
  |true=>
   cases hd:(zai b t.data).isSome with
   |true=>exact zrl v t h b s w hT r1 r2 hr hs hd
   |false=>
    by_cases hn:nameE t h b=0
    ·exact zxg v t h b s w hT r1 r2 hr hs hd hn
    ·exact zm5 v t h b s w hT r1 r2 hr hs hd hn
 ·exact zxf v t h b s w hT r1 r2 hr
theorem z3e(v:Value)(t:Tx)(h b:Int)(s:ByteArray)(w:World)(hT:IsTx w v t)(r1:t.info.length*24≤140737488355328)(r2:t.data.length*24≤140737488355328)(hr:¬reachE t h b=0):
  Calls prog 122 #[v,.int .i64 h,.int .i64 b,.string s] w fun e w'=>∃v2,e=.returned (.tuple #[v2,.int .i64 (fillE t h b s)])∧IsTx w' v2 (zao t h b s)∧Below w.heap.size w w'∧(v2=v∨za2 w.heap.size v2 (zao t h b s)):=by
 have M:=zab hT;obtain⟨a,c,U,Q,r,d,rfl,J,I,L,E,C,N⟩:=hT;have HM:=zab J;have HD:=zab I;have HR:=zab L;have N1:=zab E;have N2:=zab C;have N3:=zab N;clear J I L E C N;go_enter func122,ntmps122;go_wp2_with fail;refine(zcg _ t h b _ (M.o.below (zae (zaa _ _) (zaa _ _))) r1 r2).mono ?_;rintro e D ⟨rfl,A⟩;have A1:w.heap.size+1<D.heap.size:=by have:=A.size;simp at this;omega
 have A0:w.heap.size<D.heap.size:=by omega
 have m:=zab (zgr A);have O:=zab (zhl A);obtain⟨⟨x0,x1,x2,x3,x4,x5,x6,x7,x8,x9⟩,_⟩:=zaj m.o;obtain⟨⟨X,i,S,k,l,j,Z,n,Y,R⟩,ff⟩:=zaj O.o;have B:=zab (zae (zae (zaa _ _) (zaa _ _)) A);clear A;have K:Hid (fillE t h b s=reachE t h b):=by rw[Hid,fillE,if_pos hr]
 have F:Hid (zao t h b s=t):=by rw[Hid,zao,if_neg (by rw[K.o];exact hr)]
 generalize reachE t h b=z at *;go_wp2;refine bodyPost_ret (v:=.tuple #[.agg #[.int .i64 t.seq,.slice a t.info.length c,.slice U t.data.length Q,.slice r t.rev.length d,.bool t.h0.on,.int .i64 t.h0.left,.bool t.h1.on,.int .i64 t.h1.left,.bool t.h2.on,.int .i64 t.h2.left],.int .i64 z]) (by simp[results,results122,go_sem,X,i,S,k,l,j,Z,n,Y,R]) rfl ⟨_,by rw[K.o],?_⟩;refine⟨?_,?_,.inl rfl⟩
 ·rw[F.o];refine M.o.below ?_
  repeat refine Below.setCell ?_ (by simp) _
  exact B.o
 ·repeat refine Below.setCell ?_ (by simp) _
  exact B.o
theorem zxh(v:Value)(t:Tx)(h b:Int)(s:ByteArray)(w:World)(hT:IsTx w v t)(r1:t.info.length*24≤140737488355328)(r2:t.data.length*24≤140737488355328)(hr:reachE t h b=0)(hs:zbb s=false):
  Calls prog 122 #[v,.int .i64 h,.int .i64 b,.string s] w fun e w'=>∃v2,e=.returned (.tuple #[v2,.int .i64 (fillE t h b s)])∧IsTx w' v2 (zao t h b s)∧Below w.heap.size w w'∧(v2=v∨za2 w.heap.size v2 (zao t h b s)):=by
 have M:=zab hT;obtain⟨a,c,U,Q,r,d,rfl,J,I,L,E,C,N⟩:=hT;have HM:=zab J;have HD:=zab I;have HR:=zab L;have N1:=zab E;have N2:=zab C;have N3:=zab N;clear J I L E C N;go_enter func122,ntmps122;go_wp2_with fail;refine(zcg _ t h b _ (M.o.below (zae (zaa _ _) (zaa _ _))) r1 r2).mono ?_;rintro e D ⟨rfl,A⟩;have A1:w.heap.size+1<D.heap.size:=by have:=A.size;simp at this;omega
 have A0:w.heap.size<D.heap.size:=by omega
 have m:=zab (zgr A);have O:=zab (zhl A);obtain⟨⟨x0,x1,x2,x3,x4,x5,x6,x7,x8,x9⟩,_⟩:=zaj m.o;obtain⟨⟨X,i,S,k,l,j,Z,n,Y,R⟩,ff⟩:=zaj O.o;have B:=zab (zae (zae (zaa _ _) (zaa _ _)) A);clear A;have K:Hid (fillE t h b s=1):=by rw[Hid,fillE,if_neg (by rw[hr];simp),if_pos hs]
 have F:Hid (zao t h b s=t):=by rw[Hid,zao,if_neg (by rw[K.o];decide)]
 have hz:¬(s.size:Int)=32:=by simpa[zbb] using hs
 clear hs;go_wp2;refine bodyPost_ret (v:=.tuple #[.agg #[.int .i64 t.seq,.slice a t.info.length c,.slice U t.data.length Q,.slice r t.rev.length d,.bool t.h0.on,.int .i64 t.h0.left,.bool t.h1.on,.int .i64 t.h1.left,.bool t.h2.on,.int .i64 t.h2.left],.int .i64 1]) (by simp[results,results122,go_sem,X,i,S,k,l,j,Z,n,Y,R]) rfl ⟨_,by rw[K.o],?_⟩;refine⟨?_,?_,.inl rfl⟩
 ·rw[F.o];refine M.o.below ?_
  repeat refine Below.setCell ?_ (by simp) _
  exact B.o
 ·repeat refine Below.setCell ?_ (by simp) _
  exact B.o
theorem zxi(v:Value)(t:Tx)(h b:Int)(s:ByteArray)(w:World)(hT:IsTx w v t)(r1:t.info.length*24≤140737488355328)(r2:t.data.length*24≤140737488355328)(hr:reachE t h b=0)(hs:zbb s=true)(hd:zcq t b=true):
  Calls prog 122 #[v,.int .i64 h,.int .i64 b,.string s] w fun e w'=>∃v2,e=.returned (.tuple #[v2,.int .i64 (fillE t h b s)])∧IsTx w' v2 (zao t h b s)∧Below w.heap.size w w'∧(v2=v∨za2 w.heap.size v2 (zao t h b s)):=by
 have Q:=zab hT;obtain⟨a,c,a',c',r,d,rfl,hM,hD,hR,m,j,n3⟩:=hT;have HM:=zab hM;have HD:=zab hD;have HR:=zab hR;have N1:=zab m;have N2:=zab j;have N3:=zab n3;clear hM hD hR m j n3;go_enter func122,ntmps122;go_wp2_with fail;refine(zcg _ t h b _ (Q.o.below (zae (zaa _ _) (zaa _ _))) r1 r2).mono ?_;rintro e k ⟨rfl,B⟩;have A0:w.heap.size+1<k.heap.size:=by have:=B.size;simp at this;omega
 have N:w.heap.size<k.heap.size:=by omega
 have U:=zab (zgr B);have E:=zab (zhl B);obtain⟨⟨l,p,x,x3,q,Y,Z,x7,y,n⟩,_⟩:=zaj U.o;obtain⟨⟨J,M,I,R,S,O,L,X,K,F⟩,i⟩:=zaj E.o;have C:=zab (zae (zae (zaa _ _) (zaa _ _)) B);clear B;have HE:Hid (fillE t h b s=8):=by rw[Hid,fillE,if_neg (by rw[hr];simp),if_neg (by rw[hs];simp),if_pos hd]
 have u:Hid (zao t h b s=t):=by rw[Hid,zao,if_neg (by rw[HE.o];decide)]
 have hz:(s.size:Int)=32:=by simpa[zbb] using hs
 clear hs;go_wp2_with fail;refine(zg6 _ t b _ (Q.o.below C.o)).mono ?_;rintro e w2 ⟨rfl,A⟩;have A3:w.heap.size+1<w2.heap.size:=by have:=A.size;omega
 have A2:w.heap.size<w2.heap.size:=by omega
 have A1:=zab (zad A N U.o);have z:=zab (zad A A0 E.o);have D:=zab (zae C.o A);clear l p x x3 q Y Z x7 y n J M I R S O L X K F i A U E C;obtain⟨⟨l,p,x,x3,q,Y,Z,x7,y,n⟩,_⟩:=zaj A1.o;obtain⟨⟨J,M,I,R,S,O,L,X,K,F⟩,i⟩:=zaj z.o;go_wp2;refine bodyPost_ret (v:=.tuple #[.agg #[.int .i64 t.seq,.slice a t.info.length c,.slice a' t.data.length c',.slice r t.rev.length d,.bool t.h0.on,.int .i64 t.h0.left,.bool t.h1.on,.int .i64 t.h1.left,.bool t.h2.on,.int .i64 t.h2.left],.int .i64 8]) (by simp[results,results122,go_sem,J,M,I,R,S,O,L,X,K,F]) rfl ⟨_,by rw[HE.o],?_⟩;refine⟨?_,?_,.inl rfl⟩
 ·rw[u.o];refine Q.o.below ?_
  repeat refine Below.setCell ?_ (by simp) _
  exact D.o
 ·repeat refine Below.setCell ?_ (by simp) _
  exact D.o
theorem z3f(v:Value)(t:Tx)(h b:Int)(s:ByteArray)(w:World)(hT:IsTx w v t)(r1:t.info.length*24≤140737488355328)(r2:t.data.length*24≤140737488355328)(hr:reachE t h b=0)(hs:zbb s=true)(hd:zcq t b=false):
  Calls prog 122 #[v,.int .i64 h,.int .i64 b,.string s] w fun e w'=>∃v2,e=.returned (.tuple #[v2,.int .i64 (fillE t h b s)])∧IsTx w' v2 (zao t h b s)∧Below w.heap.size w w'∧(v2=v∨za2 w.heap.size v2 (zao t h b s)):=by
 have A2:=zcc hr;have hg:=A2.1;clear A2;have X:=(za9 t).1 hg;have B5:Up (·.1) t.info:=(zfo _ _).1 ((za8 _).1 X.2.2.1.1).2;have A8:Up (·.1) t.data:=(zfo _ _).1 ((za8 _).1 X.2.2.1.2.1).2;have B2:Up id t.rev:=((za8 _).1 X.2.2.1.2.2).2;have B4:=zaz hg;clear X;have HT:=zab hT;obtain⟨a,c,a',c',r,d,rfl,hM,hD,hR,n1,n2,n3⟩:=hT;have HM:=zab hM;have HD:=zab hD;have HR:=zab hR;have N1:=zab n1;have N2:=zab n2;have N3:=zab n3;clear hM hD hR n1 n2 n3;go_enter func122,ntmps122;go_wp2_with fail;refine(zcg _ t h b _ (HT.o.below (zae (zaa _ _) (zaa _ _))) r1 r2).mono ?_;rintro e w1 ⟨rfl,F⟩;have A9:w.heap.size+1<w1.heap.size:=by have:=F.size;simp at this;omega
 have A4:w.heap.size<w1.heap.size:=by omega
 have K1:=zab (zgr F);have K2:=zab (zhl F);obtain⟨⟨x0,x1,x2,x3,x4,x5,x6,x7,x8,x9⟩,_⟩:=zaj K1.o;obtain⟨⟨J,L,S,N,O,M,U,Q,K,R⟩,Z⟩:=zaj K2.o;have q:=zab (zae (zae (zaa _ _) (zaa _ _)) F);clear F;have HE:Hid (fillE t h b s=0):=by rw[Hid,fillE,if_neg (by rw[hr];simp),if_neg (by rw[hs];simp),if_neg (by rw[hd];simp)]
 have A5:Hid (zao t h b s={t with data:=zbj (·.1) t.data b (b,s)}):=by rw[Hid,zao,if_pos HE.o]
 have hz:(s.size:Int)=32:=by simpa[zbb] using hs
 clear hs;go_wp2_with fail;refine(zg6 _ t b _ (HT.o.below q.o)).mono ?_;rintro e E ⟨rfl,I⟩;have A6:w.heap.size+1<E.heap.size:=by have:=I.size;omega
 have A3:w.heap.size<E.heap.size:=by omega
 have x:=zab (zad I A4 K1.o);have k:=zab (zad I A9 K2.o);have i:=zab (zae q.o I);clear x0 x1 x2 x3 x4 x5 x6 x7 x8 x9 J L S N O M U Q K R Z I K1 K2 q;obtain⟨⟨x0,x1,x2,x3,x4,x5,x6,x7,x8,x9⟩,_⟩:=zaj x.o;obtain⟨⟨J,L,S,N,O,M,U,Q,K,R⟩,Z⟩:=zaj k.o;go_wp2_with fail;refine(zcy _ t _ (HT.o.below i.o) (by omega) (by omega) (by omega)).mono ?_;rintro e w4 ⟨va,vd,vr,rfl,A,Y⟩;obtain⟨a1,c1,rfl,_,_⟩:=SegC.of_owns A.2.1;obtain⟨a2,c2,rfl,_,_⟩:=SegC.of_owns A.2.2.1;obtain⟨a3,c3,rfl,_,_⟩:=SegI.of_owns A.2.2.2;have y:=zab A;have B6:=A.lt;have z:=zab (zae i.o Y);have B0:=zab (zad Y A3 x.o);have l:=zab (zad Y A6 k.o);clear x0 x1 x2 x3 x4 x5 x6 x7 x8 x9 J L S N O M U Q K R Z Y A i x k;have o6:=y.o.2.2.1;obtain⟨⟨z0,z1,z2,z3,z4,z5,z6,z7,z8,z9⟩,gf⟩:=zaj y.o.1;obtain⟨⟨J,L,S,N,O,M,U,Q,K,R⟩,Z⟩:=zaj l.o;go_wp2_with fail;refine(zrg (E.heap.size+1) _ t.data b s _ o6 (by omega) A8).mono ?_;clear o6;rintro e w6 ⟨v6,rfl,j,D⟩;obtain⟨u,m,rfl,_,_⟩:=SegC.of_owns j;have B3:=D.size;have B1:E.heap.size<w6.heap.size:=by omega
 have C:=zab (y.o.below D);have n:Hid (w6.ownsRow (E.heap.size+1) 84 2 (.slice u (zbj (·.1) t.data b (b,s)).length m) (zbj (·.1) t.data b (b,s)).length (cellsC (zbj (·.1) t.data b (b,s)))):=za6 j (by omega);have A1:=zab (C.o.set (t':={t with data:=zbj (·.1) t.data b (b,s)}) 2 (.slice u (zbj (·.1) t.data b (b,s)).length m) rfl C.o.2.1 n.o C.o.2.2.2);have A0:=zab (zad D (by omega) l.o);have K6:Hid ((w6.setCell ⟨E.heap.size,2,none⟩ (.slice u (zbj (·.1) t.data b (b,s)).length m)).heap[w.heap.size+1]?=_):=(Below.heap_setCell _ _ _ _ (by simp;omega)).trans A0.o;have A7:=zab ((z.o.trans (D.mono (by omega))).setCell (p:=⟨E.heap.size,2,none⟩) (by simp;omega) (.slice u (zbj (·.1) t.data b (b,s)).length m));clear z0 z1 z2 z3 z4 z5 z6 z7 z8 z9 gf J L S N O M U Q K R Z D j n y z l;obtain⟨⟨z0,z1,z2,z3,z4,z5,z6,z7,z8,z9⟩,gf⟩:=zaj C.o.1;obtain⟨⟨J,L,S,N,O,M,U,Q,K,R⟩,Z⟩:=zaj A0.o;go_wp2;refine bodyPost_ret (v:=.tuple #[.agg #[.int .i64 t.seq,(.slice a1 t.info.length c1),(.slice u (zbj (·.1) t.data b (b,s)).length m),(.slice a3 t.rev.length c3),.bool t.h0.on,.int .i64 t.h0.left,.bool t.h1.on,.int .i64 t.h1.left,.bool t.h2.on,.int .i64 t.h2.left],.int .i64 0]) (by simp[results,results122,go_sem,J,L,S,N,O,M,U,Q,K,R]) rfl ⟨_,by rw[HE.o],?_⟩;rw[A5.o];refine⟨?_,?_,.inr (A1.o.fromR (t:={t with data:=zbj (·.1) t.data b (b,s)}) (by omega))⟩
 ·refine BoxTx.is (t:={t with data:=zbj (·.1) t.data b (b,s)}) (B:=E.heap.size) ?_ (by exact N1.o) (by have:=zj8 (·.1) t.data b (b,s);unfold maxLen;dsimp only at this⊢;omega) (by exact N3.o)
  repeat refine BoxTx.other ?_ (by simp;omega) _
  exact A1.o
 ·iterate 10 (refine Below.setCell ?_ (by simp;try omega) _)
  exact A7.o
theorem zxj(v:Value)(t:Tx)(h b:Int)(s:ByteArray)(w:World)(hT:IsTx w v t)(r1:t.info.length*24≤140737488355328)(r2:t.data.length*24≤140737488355328):
  Calls prog 122 #[v,.int .i64 h,.int .i64 b,.string s] w fun e w'=>∃v2,e=.returned (.tuple #[v2,.int .i64 (fillE t h b s)])∧IsTx w' v2 (zao t h b s)∧Below w.heap.size w w'∧(v2=v∨za2 w.heap.size v2 (zao t h b s)):=by
 by_cases hr:reachE t h b=0
 ·cases hs:zbb s with
  |false=>exact zxh v t h b s w hT r1 r2 hr hs
  |true=>
   cases hd:zcq t b with
   |true=>exact zxi v t h b s w hT r1 r2 hr hs hd
   |false=>exact z3f v t h b s w hT r1 r2 hr hs hd
 ·exact z3e v t h b s w hT r1 r2 hr
theorem zxk(v:Value)(t:Tx)(h b:Int)(w:World)(hT:IsTx w v t)(r1:t.info.length*24≤140737488355328)(r2:t.data.length*24≤140737488355328)(hr:¬reachE t h b=0):
  Calls prog 123 #[v,.int .i64 h,.int .i64 b] w fun e w'=>∃v2,e=.returned (.tuple #[v2,.int .i64 (revokeE t h b)])∧IsTx w' v2 (zag t h b)∧Below w.heap.size w w'∧(v2=v∨za2 w.heap.size v2 (zag t h b)):=by
 have M:=zab hT;obtain⟨a,c,U,Q,r,d,rfl,J,I,L,E,C,N⟩:=hT;have HM:=zab J;have HD:=zab I;have HR:=zab L;have N1:=zab E;have N2:=zab C;have N3:=zab N;clear J I L E C N;go_enter func123,ntmps123;go_wp2_with fail;refine(zcg _ t h b _ (M.o.below (zae (zaa _ _) (zaa _ _))) r1 r2).mono ?_;rintro e D ⟨rfl,A⟩;have A1:w.heap.size+1<D.heap.size:=by have:=A.size;simp at this;omega
 have A0:w.heap.size<D.heap.size:=by omega
 have m:=zab (zgr A);have O:=zab (zhl A);obtain⟨⟨x0,x1,x2,x3,x4,x5,x6,x7,x8,x9⟩,_⟩:=zaj m.o;obtain⟨⟨X,i,S,k,l,j,Z,n,Y,R⟩,ff⟩:=zaj O.o;have B:=zab (zae (zae (zaa _ _) (zaa _ _)) A);clear A;have K:Hid (revokeE t h b=reachE t h b):=by rw[Hid,revokeE,if_pos hr]
 have F:Hid (zag t h b=t):=by rw[Hid,zag,if_neg (by rw[K.o];exact hr)]
 generalize reachE t h b=z at *;go_wp2;refine bodyPost_ret (v:=.tuple #[.agg #[.int .i64 t.seq,.slice a t.info.length c,.slice U t.data.length Q,.slice r t.rev.length d,.bool t.h0.on,.int .i64 t.h0.left,.bool t.h1.on,.int .i64 t.h1.left,.bool t.h2.on,.int .i64 t.h2.left],.int .i64 z]) (by simp[results,results123,go_sem,X,i,S,k,l,j,Z,n,Y,R]) rfl ⟨_,by rw[K.o],?_⟩;refine⟨?_,?_,.inl rfl⟩
 ·rw[F.o];refine M.o.below ?_
  repeat refine Below.setCell ?_ (by simp) _
  exact B.o
 ·repeat refine Below.setCell ?_ (by simp) _
  exact B.o
theorem zph(v:Value)(t:Tx)(h b:Int)(w:World)(hT:IsTx w v t)(r1:t.info.length*24≤140737488355328)(r2:t.data.length*24≤140737488355328)(hr:reachE t h b=0)(hd:zay t.rev b=true):
  Calls prog 123 #[v,.int .i64 h,.int .i64 b] w fun e w'=>∃v2,e=.returned (.tuple #[v2,.int .i64 (revokeE t h b)])∧IsTx w' v2 (zag t h b)∧Below w.heap.size w w'∧(v2=v∨za2 w.heap.size v2 (zag t h b)):=by
 have M:=zab hT;obtain⟨a,c,U,Q,r,d,rfl,J,I,L,E,C,N⟩:=hT;have HM:=zab J;have HD:=zab I;have q:=zab L;have N1:=zab E;have N2:=zab C;have j:=zab N;clear J I L E C N;go_enter func123,ntmps123;go_wp2_with fail;refine(zcg _ t h b _ (M.o.below (zae (zaa _ _) (zaa _ _))) r1 r2).mono ?_;rintro e D ⟨rfl,A⟩;have A1:w.heap.size+1<D.heap.size:=by have:=A.size;simp at this;omega
 have A0:w.heap.size<D.heap.size:=by omega
 have n:=zab (zgr A);have O:=zab (zhl A);obtain⟨⟨x0,x1,x2,x3,x4,x5,x6,x7,x8,x9⟩,_⟩:=zaj n.o;obtain⟨⟨X,i,S,l,m,k,Z,p,Y,R⟩,ff⟩:=zaj O.o;have B:=zab (zae (zae (zaa _ _) (zaa _ _)) A);clear A;have K:Hid (revokeE t h b=5):=by rw[Hid,revokeE,if_neg (by rw[hr];simp),if_pos hd]
 have F:Hid (zag t h b=t):=by rw[Hid,zag,if_neg (by rw[K.o];decide)]
 go_wp2_with fail;refine(zc7 r d t.rev b _ (q.o.below B.o) j.o).mono ?_;rintro e w2 ⟨rfl,rfl⟩;go_wp2;refine bodyPost_ret (v:=.tuple #[.agg #[.int .i64 t.seq,.slice a t.info.length c,.slice U t.data.length Q,.slice r t.rev.length d,.bool t.h0.on,.int .i64 t.h0.left,.bool t.h1.on,.int .i64 t.h1.left,.bool t.h2.on,.int .i64 t.h2.left],.int .i64 5]) (by simp[results,results123,go_sem,X,i,S,l,m,k,Z,p,Y,R]) rfl ⟨_,by rw[K.o],?_⟩;refine⟨?_,?_,.inl rfl⟩
 ·rw[F.o];refine M.o.below ?_
  repeat refine Below.setCell ?_ (by simp) _
  exact B.o
 ·repeat refine Below.setCell ?_ (by simp) _
  exact B.o
theorem zm6(v:Value)(t:Tx)(h b:Int)(w:World)(hT:IsTx w v t)(r1:t.info.length*24≤140737488355328)(r2:t.data.length*24≤140737488355328)(hr:reachE t h b=0)(hd:zay t.rev b=false)(hn:¬nameE t h b=0):
  Calls prog 123 #[v,.int .i64 h,.int .i64 b] w fun e w'=>∃v2,e=.returned (.tuple #[v2,.int .i64 (revokeE t h b)])∧IsTx w' v2 (zag t h b)∧Below w.heap.size w w'∧(v2=v∨za2 w.heap.size v2 (zag t h b)):=by
 have N:=zcc hr;have hg:=N.1;have hh:=N.2.1;clear N;have A6:=zaz hg;have HT:=zab hT;obtain⟨a,c,a',c',r,d,rfl,hM,hD,hR,n1,n2,n3⟩:=hT;have HM:=zab hM;have HD:=zab hD;have HR:=zab hR;have N1:=zab n1;have N2:=zab n2;have N3:=zab n3;clear hM hD hR n1 n2 n3;go_enter func123,ntmps123;go_wp2_with fail;refine(zcg _ t h b _ (HT.o.below (zae (zaa _ _) (zaa _ _))) r1 r2).mono ?_;rintro e J ⟨rfl,B⟩;have M:w.heap.size+1<J.heap.size:=by have:=B.size;simp at this;omega
 have D:w.heap.size<J.heap.size:=by omega
 have m:=zab (zgr B);have i:=zab (zhl B);obtain⟨⟨x0,x1,x2,x3,x4,x5,x6,x7,x8,x9⟩,_⟩:=zaj m.o;obtain⟨⟨O,R,k,X,Y,S,l,Z,Q,j⟩,ff⟩:=zaj i.o;have I:=zab (zae (zae (zaa _ _) (zaa _ _)) B);clear B;have HE:Hid (revokeE t h b=nameE t h b):=by rw[Hid,revokeE,if_neg (by rw[hr];simp),if_neg (by rw[hd];simp)]
 have A1:Hid (zag t h b=t):=by rw[Hid,zag,if_neg (by rw[HE.o];exact hn)]
 go_wp2_with fail;refine(zc7 r d t.rev b _ (HR.o.below I.o) N3.o).mono ?_;rintro e U ⟨rfl,rfl⟩;have x:Below J.heap.size J J:=Below.refl _ _;obtain⟨U,L⟩:∃U,U=J:=⟨_,rfl⟩;rw[←L]at x M D m i I x0 x1 x2 x3 x4 x5 x6 x7 x8 x9 O R k X Y S l Z Q j ff;rw[←L];clear L;have y:=m;have q:=i;have K:=I;have A5:=M;have A0:=D;clear x m i I M D;go_wp2_with fail;refine(zcy _ t _ (HT.o.below K.o) (by omega) (by omega) (by omega)).mono ?_;rintro e w4 ⟨va,vd,vr,rfl,A,F⟩;obtain⟨a1,c1,rfl,_,_⟩:=SegC.of_owns A.2.1;obtain⟨a2,c2,rfl,_,_⟩:=SegC.of_owns A.2.2.1;obtain⟨a3,c3,rfl,_,_⟩:=SegI.of_owns A.2.2.2;have BX:=zab A;have A8:=A.lt;have p:=zab (zae K.o F);have n:=zab (zad F A0 y.o);have s:=zab (zad F A5 q.o);clear x0 x1 x2 x3 x4 x5 x6 x7 x8 x9 O R k X Y S l Z Q j ff F A K y q;obtain⟨⟨z0,z1,z2,z3,z4,z5,z6,z7,z8,z9⟩,gf⟩:=zaj BX.o.1;go_wp2_with fail;refine(zlj U.heap.size t _ _ _ h b w4 BX.o hg hh).mono ?_;rintro e w5 ⟨rfl,C,E⟩;have A4:=zab C;have A7:=C.lt;have A2:=zab ((E.block w.heap.size (by omega)).trans n.o);have A3:=zab ((E.block (w.heap.size+1) (by omega)).trans s.o);have u:=zab (p.o.trans (E.mono (by omega)));clear z0 z1 z2 z3 z4 z5 z6 z7 z8 z9 gf E C p n s BX;obtain⟨⟨x0,x1,x2,x3,x4,x5,x6,x7,x8,x9⟩,_⟩:=zaj A2.o;obtain⟨⟨O,R,k,X,Y,S,l,Z,Q,j⟩,ff⟩:=zaj A3.o;clear A4;generalize nameE t h b=z at *;go_wp2;refine bodyPost_ret (v:=.tuple #[.agg #[.int .i64 t.seq,.slice a t.info.length c,.slice a' t.data.length c',.slice r t.rev.length d,.bool t.h0.on,.int .i64 t.h0.left,.bool t.h1.on,.int .i64 t.h1.left,.bool t.h2.on,.int .i64 t.h2.left],.int .i64 z]) (by simp[results,results123,go_sem,O,R,k,X,Y,S,l,Z,Q,j]) rfl ⟨_,by rw[HE.o],?_⟩;refine⟨?_,?_,.inl rfl⟩
 ·rw[A1.o];refine HT.o.below ?_
  repeat refine Below.setCell ?_ (by simp) _
  exact u.o
 ·repeat refine Below.setCell ?_ (by simp) _
  exact u.o
theorem zxl(v:Value)(t:Tx)(h b:Int)(w:World)(hT:IsTx w v t)(r1:t.info.length*24≤140737488355328)(r2:t.data.length*24≤140737488355328)(hr:reachE t h b=0)(hd:zay t.rev b=false)(hn:nameE t h b=0):
  Calls prog 123 #[v,.int .i64 h,.int .i64 b] w fun e w'=>∃v2,e=.returned (.tuple #[v2,.int .i64 (revokeE t h b)])∧IsTx w' v2 (zag t h b)∧Below w.heap.size w w'∧(v2=v∨za2 w.heap.size v2 (zag t h b)):=by
 have B2:=zcc hr;have hg:=B2.1;have hh:=B2.2.1;clear B2;have A2:=(za9 t).1 hg;have D8:Up (·.1) t.info:=(zfo _ _).1 ((za8 _).1 A2.2.2.1.1).2;have E4:Up (·.1) t.data:=(zfo _ _).1 ((za8 _).1 A2.2.2.1.2.1).2;have E0:Up id t.rev:=((za8 _).1 A2.2.2.1.2.2).2;have E8:=zaz hg;clear A2;have HT:=zab hT;obtain⟨a,c,a',c',r,d,rfl,hM,hD,hR,n1,n2,n3⟩:=hT;have HM:=zab hM;have HD:=zab hD;have HR:=zab hR;have N1:=zab n1;have N2:=zab n2;have N3:=zab n3;clear hM hD hR n1 n2 n3;go_enter func123,ntmps123;go_wp2_with fail;refine(zcg _ t h b _ (HT.o.below (zae (zaa _ _) (zaa _ _))) r1 r2).mono ?_;rintro e w1 ⟨rfl,k⟩;have B1:w.heap.size+1<w1.heap.size:=by have:=k.size;simp at this;omega
 have A1:w.heap.size<w1.heap.size:=by omega
 have K1:=zab (zgr k);have K2:=zab (zhl k);obtain⟨⟨x0,x1,x2,x3,x4,x5,x6,x7,x8,x9⟩,_⟩:=zaj K1.o;obtain⟨⟨C,I,M,F,J,E,N,K,D,L⟩,R⟩:=zaj K2.o;have A5:=zab (zae (zae (zaa _ _) (zaa _ _)) k);clear k;have HE:Hid (revokeE t h b=0):=by rw[Hid,revokeE,if_neg (by rw[hr];simp),if_neg (by rw[hd];simp),hn]
 have C7:Hid (zag t h b={{{nameT t h b with info:=zax (·.1) t.info b} with data:=zax (·.1) t.data b} with rev:=zbj id t.rev b b}):=by rw[Hid,zag,if_pos HE.o];rfl
 go_wp2_with fail;refine(zc7 r d t.rev b _ (HR.o.below A5.o) N3.o).mono ?_;rintro e A ⟨rfl,rfl⟩;have C3:Below w1.heap.size w1 w1:=Below.refl _ _;obtain⟨A,B8⟩:∃A,A=w1:=⟨_,rfl⟩;rw[←B8]at C3 B1 A1 K1 K2 A5 x0 x1 x2 x3 x4 x5 x6 x7 x8 x9 C I M F J E N K D L R;rw[←B8];clear B8;have D4:=K1;have C8:=K2;have A6:=A5;have D9:=B1;have D5:=A1;clear C3 K1 K2 A5 B1 A1;go_wp2_with fail;refine(zcy _ t _ (HT.o.below A6.o) (by omega) (by omega) (by omega)).mono ?_;rintro e w4 ⟨va,vd,vr,rfl,O,A3⟩;obtain⟨a1,c1,rfl,_,_⟩:=SegC.of_owns O.2.1;obtain⟨a2,c2,rfl,_,_⟩:=SegC.of_owns O.2.2.1;obtain⟨a3,c3,rfl,_,_⟩:=SegI.of_owns O.2.2.2;have BX:=zab O;have F3:=O.lt;have C0:=zab (zae A6.o A3);have B9:=zab (zad A3 D5 D4.o);have C1:=zab (zad A3 D9 C8.o);clear x0 x1 x2 x3 x4 x5 x6 x7 x8 x9 C I M F J E N K D L R A3 O A6 D4 C8;obtain⟨⟨q,z1,z,l,y,s,z6,j,u,x⟩,m⟩:=zaj BX.o.1;go_wp2_with fail;refine(zlj A.heap.size t _ _ _ h b w4 BX.o hg hh).mono ?_;rintro e w5 ⟨rfl,A0,A4⟩;have Q:=zab A0;have F0:=A0.lt;have F1:=zab ((A4.block w.heap.size (by omega)).trans B9.o);have B6:=zab ((A4.block (w.heap.size+1) (by omega)).trans C1.o);have D2:=zab (C0.o.trans (A4.mono (by omega)));clear q z1 z l y s z6 j u x m A4 A0 C0 B9 C1 BX;rw[zik,if_pos hn]at Q;have n:=zei t h b;obtain⟨t',C6⟩:∃t',t'=nameT t h b:=⟨_,rfl⟩;rw[←C6]at Q C7 n;have E2:Hid (t'.info=t.info):=n.1;have E5:Hid (t'.data=t.data):=n.2.1;have D7:Hid (t'.rev=t.rev):=n.2.2;clear C6 n;have o6:=Q.o.2.1;rw[E2.o]at o6;obtain⟨⟨q,z1,z,l,y,s,z6,j,u,x⟩,m⟩:=zaj Q.o.1;obtain⟨⟨C,I,M,F,J,E,N,K,D,L⟩,R⟩:=zaj B6.o;go_wp2_with fail;refine(zkq (A.heap.size+1) _ t.info b _ o6 (by omega) D8).mono ?_;clear o6;rintro e w6 ⟨v6,rfl,B4,Y⟩;obtain⟨p6,q6,rfl,_,_⟩:=SegC.of_owns B4;have E7:=Y.size;have E6:A.heap.size<w6.heap.size:=by omega
 have S:=zab (Q.o.below Y);have B5:Hid (w6.ownsRow (A.heap.size+1) 84 2 (.slice p6 (zax (·.1) t.info b).length q6) (zax (·.1) t.info b).length (cellsC (zax (·.1) t.info b))):=za6 B4 (by omega);have B7:=zab (S.o.set (t':={t' with info:=zax (·.1) t.info b}) 1 (.slice p6 (zax (·.1) t.info b).length q6) rfl B5.o S.o.2.2.1 S.o.2.2.2);have C2:=zab (zad Y (by omega) B6.o);have K6:Hid ((w6.setCell ⟨A.heap.size,1,none⟩ (.slice p6 (zax (·.1) t.info b).length q6)).heap[w.heap.size+1]?=_):=(Below.heap_setCell _ _ _ _ (by simp;omega)).trans C2.o;have D3:=zab ((D2.o.trans (Y.mono (by omega))).setCell (p:=⟨A.heap.size,1,none⟩) (by simp;omega) (.slice p6 (zax (·.1) t.info b).length q6));clear q z1 z l y s z6 j u x m C I M F J E N K D L R Y B4 B5 Q D2 B6;have o7:=B7.o.2.2.1;dsimp only at o7;rw[E5.o]at o7;obtain⟨⟨q,z1,z,l,y,s,z6,j,u,x⟩,m⟩:=zaj S.o.1;obtain⟨⟨C,I,M,F,J,E,N,K,D,L⟩,R⟩:=zaj C2.o;go_wp2_with fail;refine(zkq (A.heap.size+1) _ t.data b _ o7 (by omega) E4).mono ?_;clear o7;rintro e w7 ⟨v7,rfl,B0,i⟩;obtain⟨p7,q7,rfl,_,_⟩:=SegC.of_owns B0;have E3:=i.size;simp only[World.size_setCell]at E3;have E9:A.heap.size<w7.heap.size:=by omega
 have X:=zab (B7.o.below i);have A8:Hid (w7.ownsRow (A.heap.size+1) 84 2 (.slice p7 (zax (·.1) t.data b).length q7) (zax (·.1) t.data b).length (cellsC (zax (·.1) t.data b))):=za6 B0 (by simp;omega);have A9:=zab (X.o.set (t':={{t' with info:=zax (·.1) t.info b} with data:=zax (·.1) t.data b}) 2 (.slice p7 (zax (·.1) t.data b).length q7) rfl X.o.2.1 A8.o X.o.2.2.2);have C4:=zab (zad i (by simp;omega) K6.o);have K7:Hid ((w7.setCell ⟨A.heap.size,2,none⟩ (.slice p7 (zax (·.1) t.data b).length q7)).heap[w.heap.size+1]?=_):=(Below.heap_setCell _ _ _ _ (by simp;omega)).trans C4.o;have D1:=zab ((D3.o.trans (i.mono (by simp;omega))).setCell (p:=⟨A.heap.size,2,none⟩) (by simp;omega) (.slice p7 (zax (·.1) t.data b).length q7));clear q z1 z l y s z6 j u x m C I M F J E N K D L R i B0 A8 B7 D3 K6;have o8:=A9.o.2.2.2;dsimp only at o8;rw[D7.o]at o8;obtain⟨⟨q,z1,z,l,y,s,z6,j,u,x⟩,m⟩:=zaj X.o.1;obtain⟨⟨C,I,M,F,J,E,N,K,D,L⟩,R⟩:=zaj C4.o;go_wp2_with fail;refine(z0f (A.heap.size+1) _ t.rev b _ o8 (by omega) E0).mono ?_;clear o8;rintro e w8 ⟨v8,rfl,A7,Z⟩;obtain⟨p8,q8,rfl,_,_⟩:=SegI.of_owns A7;have D6:=Z.size;simp only[World.size_setCell]at D6;have F2:A.heap.size<w8.heap.size:=by omega
 have U:=zab (A9.o.below Z);have B3:Hid (w8.ownsRow (A.heap.size+1) 3 1 (.slice p8 (zbj id t.rev b b).length q8) (zbj id t.rev b b).length (cellsI (zbj id t.rev b b))):=za6 A7 (by simp;omega);have C5:=zab (U.o.set (t':={{{t' with info:=zax (·.1) t.info b} with data:=zax (·.1) t.data b} with rev:=zbj id t.rev b b}) 3 (.slice p8 (zbj id t.rev b b).length q8) rfl U.o.2.1 U.o.2.2.1 B3.o);have C9:=zab (zad Z (by simp;omega) K7.o);have K8:Hid ((w8.setCell ⟨A.heap.size,3,none⟩ (.slice p8 (zbj id t.rev b b).length q8)).heap[w.heap.size+1]?=_):=(Below.heap_setCell _ _ _ _ (by simp;omega)).trans C9.o;have E1:=zab ((D1.o.trans (Z.mono (by simp;omega))).setCell (p:=⟨A.heap.size,3,none⟩) (by simp;omega) (.slice p8 (zbj id t.rev b b).length q8));clear q z1 z l y s z6 j u x m C I M F J E N K D L R Z A7 B3 A9 D1 K7;obtain⟨⟨q,z1,z,l,y,s,z6,j,u,x⟩,m⟩:=zaj U.o.1;obtain⟨⟨C,I,M,F,J,E,N,K,D,L⟩,R⟩:=zaj C9.o;go_wp2;refine bodyPost_ret (v:=.tuple #[.agg #[.int .i64 t'.seq,(.slice p6 (zax (·.1) t.info b).length q6),(.slice p7 (zax (·.1) t.data b).length q7),(.slice p8 (zbj id t.rev b b).length q8),.bool t'.h0.on,.int .i64 t'.h0.left,.bool t'.h1.on,.int .i64 t'.h1.left,.bool t'.h2.on,.int .i64 t'.h2.left],.int .i64 0]) (by simp[results,results123,go_sem,C,I,M,F,J,E,N,K,D,L]) rfl ⟨_,by rw[HE.o],?_⟩;rw[C7.o];refine⟨?_,?_,.inr (C5.o.fromR (t:={{{t' with info:=zax (·.1) t.info b} with data:=zax (·.1) t.data b} with rev:=zbj id t.rev b b}) (by omega))⟩
 ·refine BoxTx.is (t:={{{t' with info:=zax (·.1) t.info b} with data:=zax (·.1) t.data b} with rev:=zbj id t.rev b b}) (B:=A.heap.size) ?_ (by have:=zim (·.1) t.info b;unfold maxLen;dsimp only at this⊢;omega) (by have:=zim (·.1) t.data b;unfold maxLen;dsimp only at this⊢;omega) (by have:=zj8 id t.rev b b;unfold maxLen;dsimp only;omega)
  repeat refine BoxTx.other ?_ (by simp;omega) _
  exact C5.o
 ·iterate 10 (refine Below.setCell ?_ (by simp;try omega) _)
  exact E1.o
theorem zrn(v:Value)(t:Tx)(h b:Int)(w:World)(hT:IsTx w v t)(r1:t.info.length*24≤140737488355328)(r2:t.data.length*24≤140737488355328):
  Calls prog 123 #[v,.int .i64 h,.int .i64 b] w fun e w'=>∃v2,e=.returned (.tuple #[v2,.int .i64 (revokeE t h b)])∧IsTx w' v2 (zag t h b)∧Below w.heap.size w w'∧(v2=v∨za2 w.heap.size v2 (zag t h b)):=by
 by_cases hr:reachE t h b=0
 ·cases hd:zay t.rev b with
  |true=>exact zph v t h b w hT r1 r2 hr hd
  |false=>
   by_cases hn:nameE t h b=0
   ·exact zxl v t h b w hT r1 r2 hr hd hn
   ·exact zm6 v t h b w hT r1 r2 hr hd hn
 ·exact zxk v t h b w hT r1 r2 hr
theorem zh2{w:World}{B:Nat}{u0 u1 u2 u3 u4 u5 u6 u7 u8 u9:Value}{t:TypeId}(h:w.heap[B]?=some (.cells #[u0,u1,u2,u3,u4,u5,u6,u7,u8,u9] t (0,0)))(v0 v1 v2 v3 v4 v5 v6 v7 v8 v9:Value):
  ((((((((((w.setCell ⟨B,0,none⟩ v0).setCell ⟨B,1,none⟩ v1).setCell ⟨B,2,none⟩ v2).setCell ⟨B,3,none⟩ v3).setCell ⟨B,4,none⟩ v4).setCell ⟨B,5,none⟩ v5).setCell ⟨B,6,none⟩ v6).setCell ⟨B,7,none⟩ v7).setCell ⟨B,8,none⟩ v8).setCell ⟨B,9,none⟩ v9).heap[B]?=some (.cells #[v0,v1,v2,v3,v4,v5,v6,v7,v8,v9] t (0,0)):=by
 have A:(w.setCell ⟨B,0,none⟩ v0).heap[B]?=some (.cells #[v0,u1,u2,u3,u4,u5,u6,u7,u8,u9] t (0,0)):=heap_setCell_same _ B 0 _ _ v0 h;have M:((w.setCell ⟨B,0,none⟩ v0).setCell ⟨B,1,none⟩ v1).heap[B]?=some (.cells #[v0,v1,u2,u3,u4,u5,u6,u7,u8,u9] t (0,0)):=heap_setCell_same _ B 1 _ _ v1 A;have C:(((w.setCell ⟨B,0,none⟩ v0).setCell ⟨B,1,none⟩ v1).setCell ⟨B,2,none⟩ v2).heap[B]?=some (.cells #[v0,v1,v2,u3,u4,u5,u6,u7,u8,u9] t (0,0)):=heap_setCell_same _ B 2 _ _ v2 M;have K:((((w.setCell ⟨B,0,none⟩ v0).setCell ⟨B,1,none⟩ v1).setCell ⟨B,2,none⟩ v2).setCell ⟨B,3,none⟩ v3).heap[B]?=some (.cells #[v0,v1,v2,v3,u4,u5,u6,u7,u8,u9] t (0,0)):=heap_setCell_same _ B 3 _ _ v3 C;have L:(((((w.setCell ⟨B,0,none⟩ v0).setCell ⟨B,1,none⟩ v1).setCell ⟨B,2,none⟩ v2).setCell ⟨B,3,none⟩ v3).setCell ⟨B,4,none⟩ v4).heap[B]?=some (.cells #[v0,v1,v2,v3,v4,u5,u6,u7,u8,u9] t (0,0)):=heap_setCell_same _ B 4 _ _ v4 K;have D:((((((w.setCell ⟨B,0,none⟩ v0).setCell ⟨B,1,none⟩ v1).setCell ⟨B,2,none⟩ v2).setCell ⟨B,3,none⟩ v3).setCell ⟨B,4,none⟩ v4).setCell ⟨B,5,none⟩ v5).heap[B]?=some (.cells #[v0,v1,v2,v3,v4,v5,u6,u7,u8,u9] t (0,0)):=heap_setCell_same _ B 5 _ _ v5 L;have E:(((((((w.setCell ⟨B,0,none⟩ v0).setCell ⟨B,1,none⟩ v1).setCell ⟨B,2,none⟩ v2).setCell ⟨B,3,none⟩ v3).setCell ⟨B,4,none⟩ v4).setCell ⟨B,5,none⟩ v5).setCell ⟨B,6,none⟩ v6).heap[B]?=some (.cells #[v0,v1,v2,v3,v4,v5,v6,u7,u8,u9] t (0,0)):=heap_setCell_same _ B 6 _ _ v6 D;have J:((((((((w.setCell ⟨B,0,none⟩ v0).setCell ⟨B,1,none⟩ v1).setCell ⟨B,2,none⟩ v2).setCell ⟨B,3,none⟩ v3).setCell ⟨B,4,none⟩ v4).setCell ⟨B,5,none⟩ v5).setCell ⟨B,6,none⟩ v6).setCell ⟨B,7,none⟩ v7).heap[B]?=some (.cells #[v0,v1,v2,v3,v4,v5,v6,v7,u8,u9] t (0,0)):=heap_setCell_same _ B 7 _ _ v7 E;have F:(((((((((w.setCell ⟨B,0,none⟩ v0).setCell ⟨B,1,none⟩ v1).setCell ⟨B,2,none⟩ v2).setCell ⟨B,3,none⟩ v3).setCell ⟨B,4,none⟩ v4).setCell ⟨B,5,none⟩ v5).setCell ⟨B,6,none⟩ v6).setCell ⟨B,7,none⟩ v7).setCell ⟨B,8,none⟩ v8).heap[B]?=some (.cells #[v0,v1,v2,v3,v4,v5,v6,v7,v8,u9] t (0,0)):=heap_setCell_same _ B 8 _ _ v8 J
 have I:((((((((((w.setCell ⟨B,0,none⟩ v0).setCell ⟨B,1,none⟩ v1).setCell ⟨B,2,none⟩ v2).setCell ⟨B,3,none⟩ v3).setCell ⟨B,4,none⟩ v4).setCell ⟨B,5,none⟩ v5).setCell ⟨B,6,none⟩ v6).setCell ⟨B,7,none⟩ v7).setCell ⟨B,8,none⟩ v8).setCell ⟨B,9,none⟩ v9).heap[B]?=some (.cells #[v0,v1,v2,v3,v4,v5,v6,v7,v8,v9] t (0,0)):=heap_setCell_same _ B 9 _ _ v9 F;exact I
theorem Below.set10{b:Nat}{W w:World}{B:Nat}(h:Below b W w)(hp:b≤B)(v0 v1 v2 v3 v4 v5 v6 v7 v8 v9:Value):
  Below b W ((((((((((w.setCell ⟨B,0,none⟩ v0).setCell ⟨B,1,none⟩ v1).setCell ⟨B,2,none⟩ v2).setCell ⟨B,3,none⟩ v3).setCell ⟨B,4,none⟩ v4).setCell ⟨B,5,none⟩ v5).setCell ⟨B,6,none⟩ v6).setCell ⟨B,7,none⟩ v7).setCell ⟨B,8,none⟩ v8).setCell ⟨B,9,none⟩ v9):=
 (((((((((h.setCell hp v0).setCell hp v1).setCell hp v2).setCell hp v3).setCell hp v4).setCell hp v5).setCell hp v6).setCell hp v7).setCell hp v8).setCell hp v9
open Go.Proofs.Tryz
theorem z0v(v:Value)(t:Tx)(h:Int)(w:World)(hT:IsTx w v t)(r1:t.info.length*24≤140737488355328)(r2:t.data.length*24≤140737488355328)(hg:zba t=false):
  Calls prog 81 #[v,.int .i64 h] w fun e w'=>∃v2,e=.returned (.tuple #[v2,.int .i64 (zda t h)])∧IsTx w' v2 (zb3 t h)∧Below w.heap.size w w'∧(v2=v∨za2 w.heap.size v2 (zb3 t h)):=by
 have J:=zab hT;obtain⟨a,c,Q,M,r,d,rfl,b,Z,i,E,C,K⟩:=hT;have N1:=zab E;have N2:=zab C;have N3:=zab K;clear b Z i E C K;go_enter func81,ntmps81;go_wp2_with fail;refine(zb7 _ t _ (J.o.below (zae (zaa _ _) (zaa _ _))) r1 r2).mono ?_;rintro e D ⟨rfl,A⟩;have A1:w.heap.size+1<D.heap.size:=by have:=A.size;simp at this;omega
 have A0:w.heap.size<D.heap.size:=by omega
 have l:=zab (zgr A);have L:=zab (zhl A);obtain⟨⟨x0,x1,x2,x3,x4,x5,x6,x7,x8,x9⟩,_⟩:=zaj l.o;obtain⟨⟨R,X,O,j,k,Y,U,m,S,N⟩,ff⟩:=zaj L.o;have B:=zab (zae (zae (zaa _ _) (zaa _ _)) A);clear A;have I:Hid (zda t h=2):=by rw[Hid,zda,if_pos hg]
 have F:Hid (zb3 t h=t):=by rw[Hid,zb3,I.o];rfl
 go_wp2;refine bodyPost_ret (v:=.tuple #[.agg #[.int .i64 t.seq,.slice a t.info.length c,.slice Q t.data.length M,.slice r t.rev.length d,.bool t.h0.on,.int .i64 t.h0.left,.bool t.h1.on,.int .i64 t.h1.left,.bool t.h2.on,.int .i64 t.h2.left],.int .i64 2]) (by simp[results,results81,go_sem,R,X,O,j,k,Y,U,m,S,N]) rfl ⟨_,by rw[I.o],?_⟩;refine⟨?_,?_,.inl rfl⟩
 ·rw[F.o];refine J.o.below ?_
  repeat refine Below.setCell ?_ (by simp) _
  exact B.o
 ·repeat refine Below.setCell ?_ (by simp) _
  exact B.o
theorem zx3(v:Value)(t:Tx)(h:Int)(w:World)(hT:IsTx w v t)(r1:t.info.length*24≤140737488355328)(r2:t.data.length*24≤140737488355328)(hg:zba t=true)(ho:onB t h=false):
  Calls prog 81 #[v,.int .i64 h] w fun e w'=>∃v2,e=.returned (.tuple #[v2,.int .i64 (zda t h)])∧IsTx w' v2 (zb3 t h)∧Below w.heap.size w w'∧(v2=v∨za2 w.heap.size v2 (zb3 t h)):=by
 have Q:=zab hT;obtain⟨a,c,a',c',r,d,rfl,hM,hD,hR,l,i,n3⟩:=hT;have N1:=zab l;have N2:=zab i;have N3:=zab n3;clear hM hD hR l i n3;go_enter func81,ntmps81;go_wp2_with fail;refine(zb7 _ t _ (Q.o.below (zae (zaa _ _) (zaa _ _))) r1 r2).mono ?_;rintro e j ⟨rfl,B⟩;have z:w.heap.size+1<j.heap.size:=by have:=B.size;simp at this;omega
 have N:w.heap.size<j.heap.size:=by omega
 have U:=zab (zgr B);have E:=zab (zhl B);obtain⟨⟨k,x1,q,x3,n,Y,Z,x7,s,m⟩,_⟩:=zaj U.o;obtain⟨⟨J,M,I,R,S,O,L,X,K,F⟩,b⟩:=zaj E.o;have C:=zab (zae (zae (zaa _ _) (zaa _ _)) B);clear B
 have y:Hid (zda t h=4):=by
  rw[Hid,zda,if_neg (by rw[hg];simp),if_pos];by_cases e:0≤h∧h≤2
  ·rw[onB,zbe.2 e,Bool.true_and]at ho;exact .inr (.inr ho)
  ·omega
 have p:Hid (zb3 t h=t):=by rw[Hid,zb3,y.o];rfl
 go_wp2_with fail;refine(zjh _ t h _ (Q.o.below C.o)).mono ?_;rintro e x ⟨rfl,A⟩;have A2:w.heap.size+1<x.heap.size:=by have:=A.size;omega
 have A1:w.heap.size<x.heap.size:=by omega
 have A0:=zab (zad A N U.o);have u:=zab (zad A z E.o);have D:=zab (zae C.o A);clear k x1 q x3 n Y Z x7 s m J M I R S O L X K F b A U E C;obtain⟨⟨k,x1,q,x3,n,Y,Z,x7,s,m⟩,_⟩:=zaj A0.o;obtain⟨⟨J,M,I,R,S,O,L,X,K,F⟩,b⟩:=zaj u.o;go_wp2;refine bodyPost_ret (v:=.tuple #[.agg #[.int .i64 t.seq,.slice a t.info.length c,.slice a' t.data.length c',.slice r t.rev.length d,.bool t.h0.on,.int .i64 t.h0.left,.bool t.h1.on,.int .i64 t.h1.left,.bool t.h2.on,.int .i64 t.h2.left],.int .i64 4]) (by simp[results,results81,go_sem,J,M,I,R,S,O,L,X,K,F]) rfl ⟨_,by rw[y.o],?_⟩;refine⟨?_,?_,.inl rfl⟩
 ·rw[p.o];refine Q.o.below ?_
  repeat refine Below.setCell ?_ (by simp) _
  exact D.o
 ·repeat refine Below.setCell ?_ (by simp) _
  exact D.o
theorem z0w(v:Value)(t:Tx)(w:World)(hT:IsTx w v t)(r1:t.info.length*24≤140737488355328)(r2:t.data.length*24≤140737488355328)(hg:zba t=true)(ho:onB t 0=true):
  Calls prog 81 #[v,.int .i64 0] w fun e w'=>∃v2,e=.returned (.tuple #[v2,.int .i64 (zda t 0)])∧IsTx w' v2 (zb3 t 0)∧Below w.heap.size w w'∧(v2=v∨za2 w.heap.size v2 (zb3 t 0)):=by
 have A6:=zaz hg;have l:=zab hT;obtain⟨a,c,a',c',r,d,rfl,hM,hD,hR,n1,n2,n3⟩:=hT;have N1:=zab n1;have N2:=zab n2;have N3:=zab n3;clear hM hD hR n1 n2 n3;go_enter func81,ntmps81;go_wp2_with fail;refine(zb7 _ t _ (l.o.below (zae (zaa _ _) (zaa _ _))) r1 r2).mono ?_;rintro e w1 ⟨rfl,C⟩;have A3:w.heap.size+1<w1.heap.size:=by have:=C.size;simp at this;omega
 have z:w.heap.size<w1.heap.size:=by omega
 have K1:=zab (zgr C);have q:=zab (zhl C);obtain⟨⟨h,p,k,n,i,s,u,m,j,y⟩,_⟩:=zaj K1.o;obtain⟨⟨J,L,U,N,Q,M,X,R,K,S⟩,Z⟩:=zaj q.o;have Y:=zab (zae (zae (zaa _ _) (zaa _ _)) C);clear C
 have HE:Hid (zda t 0=0):=by
  rw[Hid,zda,if_neg (by rw[hg];simp),if_neg];have:(zes t 0).on=true:=ho;rw[this];simp
 have A0:Hid (zb3 t 0={t with h0:=⟨false,0⟩}):=by rw[Hid,zb3,HE.o];rfl
 go_wp2_with fail;refine(zjh _ t 0 _ (l.o.below Y.o)).mono ?_;rintro e F ⟨rfl,E⟩;have A2:w.heap.size+1<F.heap.size:=by have:=E.size;omega
 have A5:w.heap.size<F.heap.size:=by omega
 have A4:=zab (zad E z K1.o);have b:=zab (zad E A3 q.o);have I:=zab (zae Y.o E);clear h p k n i s u m j y J L U N Q M X R K S Z E K1 q Y;obtain⟨⟨h,p,k,n,i,s,u,m,j,y⟩,_⟩:=zaj A4.o;obtain⟨⟨J,L,U,N,Q,M,X,R,K,S⟩,Z⟩:=zaj b.o;go_wp2_with fail;refine(zcy _ t _ (l.o.below I.o) (by omega) (by omega) (by omega)).mono ?_;rintro e w4 ⟨va,vd,vr,rfl,A,O⟩;obtain⟨a1,c1,rfl,_,_⟩:=SegC.of_owns A.2.1;obtain⟨a2,c2,rfl,_,_⟩:=SegC.of_owns A.2.2.1;obtain⟨a3,c3,rfl,_,_⟩:=SegI.of_owns A.2.2.2;have D:=zab A;have A7:=A.lt;have A1:=zab (zae I.o O);have x:=zab (zad O A2 b.o);clear h p k n i s u m j y J L U N Q M X R K S Z O A I;obtain⟨⟨J,L,U,N,Q,M,X,R,K,S⟩,Z⟩:=zaj x.o;obtain⟨⟨z0,z1,z2,z3,z4,z5,z6,z7,z8,z9⟩,gf⟩:=zaj D.o.1;have HX:Hid (BoxTx ((w4.setCell ⟨F.heap.size,4,none⟩ (.bool false)).setCell ⟨F.heap.size,5,none⟩ (.int .i64 0)) F.heap.size {t with h0:=⟨false,0⟩} (.slice a1 t.info.length c1) (.slice a2 t.data.length c2) (.slice a3 t.rev.length c3)):=(D.o.set (t':={t with h0:=⟨false,t.h0.left⟩}) 4 (.bool false) rfl D.o.2.1 D.o.2.2.1 D.o.2.2.2).set (t':={t with h0:=⟨false,0⟩}) 5 (.int .i64 0) rfl (ownsRow_setCell_below D.o.2.1 (by simp) _) (ownsRow_setCell_below D.o.2.2.1 (by simp) _) (ownsRow_setCell_below D.o.2.2.2 (by simp) _);go_wp2;refine bodyPost_ret (v:=.tuple #[.agg #[.int .i64 t.seq,.slice a1 t.info.length c1,.slice a2 t.data.length c2,.slice a3 t.rev.length c3,.bool false,.int .i64 0,.bool t.h1.on,.int .i64 t.h1.left,.bool t.h2.on,.int .i64 t.h2.left],.int .i64 0]) (by simp[results,results81,go_sem,J,L,U,N,Q,M,X,R,K,S]) rfl ⟨_,by rw[HE.o],?_⟩;rw[A0.o];refine⟨?_,?_,.inr (HX.o.fromR (t:={t with h0:=⟨false,0⟩}) (by omega))⟩
 ·refine BoxTx.is (t:={t with h0:=⟨false,0⟩}) (B:=F.heap.size) ?_ N1.o N2.o N3.o
  repeat refine BoxTx.other ?_ (by simp;omega) _
  exact HX.o
 ·repeat refine Below.setCell ?_ (by simp;try omega) _
  exact A1.o
theorem z0x(v:Value)(t:Tx)(w:World)(hT:IsTx w v t)(r1:t.info.length*24≤140737488355328)(r2:t.data.length*24≤140737488355328)(hg:zba t=true)(ho:onB t 1=true):
  Calls prog 81 #[v,.int .i64 1] w fun e w'=>∃v2,e=.returned (.tuple #[v2,.int .i64 (zda t 1)])∧IsTx w' v2 (zb3 t 1)∧Below w.heap.size w w'∧(v2=v∨za2 w.heap.size v2 (zb3 t 1)):=by
 have A6:=zaz hg;have l:=zab hT;obtain⟨a,c,a',c',r,d,rfl,hM,hD,hR,n1,n2,n3⟩:=hT;have N1:=zab n1;have N2:=zab n2;have N3:=zab n3;clear hM hD hR n1 n2 n3;go_enter func81,ntmps81;go_wp2_with fail;refine(zb7 _ t _ (l.o.below (zae (zaa _ _) (zaa _ _))) r1 r2).mono ?_;rintro e w1 ⟨rfl,C⟩;have A3:w.heap.size+1<w1.heap.size:=by have:=C.size;simp at this;omega
 have z:w.heap.size<w1.heap.size:=by omega
 have K1:=zab (zgr C);have q:=zab (zhl C);obtain⟨⟨h,p,k,n,i,s,u,m,j,y⟩,_⟩:=zaj K1.o;obtain⟨⟨J,L,U,N,Q,M,X,R,K,S⟩,Z⟩:=zaj q.o;have Y:=zab (zae (zae (zaa _ _) (zaa _ _)) C);clear C
 have HE:Hid (zda t 1=0):=by
  rw[Hid,zda,if_neg (by rw[hg];simp),if_neg];have:(zes t 1).on=true:=ho;rw[this];simp
 have A0:Hid (zb3 t 1={t with h1:=⟨false,0⟩}):=by rw[Hid,zb3,HE.o];rfl
 go_wp2_with fail;refine(zjh _ t 1 _ (l.o.below Y.o)).mono ?_;rintro e F ⟨rfl,E⟩;have A2:w.heap.size+1<F.heap.size:=by have:=E.size;omega
 have A5:w.heap.size<F.heap.size:=by omega
 have A4:=zab (zad E z K1.o);have b:=zab (zad E A3 q.o);have I:=zab (zae Y.o E);clear h p k n i s u m j y J L U N Q M X R K S Z E K1 q Y;obtain⟨⟨h,p,k,n,i,s,u,m,j,y⟩,_⟩:=zaj A4.o;obtain⟨⟨J,L,U,N,Q,M,X,R,K,S⟩,Z⟩:=zaj b.o;go_wp2_with fail;refine(zcy _ t _ (l.o.below I.o) (by omega) (by omega) (by omega)).mono ?_;rintro e w4 ⟨va,vd,vr,rfl,A,O⟩;obtain⟨a1,c1,rfl,_,_⟩:=SegC.of_owns A.2.1;obtain⟨a2,c2,rfl,_,_⟩:=SegC.of_owns A.2.2.1;obtain⟨a3,c3,rfl,_,_⟩:=SegI.of_owns A.2.2.2;have D:=zab A;have A7:=A.lt;have A1:=zab (zae I.o O);have x:=zab (zad O A2 b.o);clear h p k n i s u m j y J L U N Q M X R K S Z O A I;obtain⟨⟨J,L,U,N,Q,M,X,R,K,S⟩,Z⟩:=zaj x.o;obtain⟨⟨z0,z1,z2,z3,z4,z5,z6,z7,z8,z9⟩,gf⟩:=zaj D.o.1;have HX:Hid (BoxTx ((w4.setCell ⟨F.heap.size,6,none⟩ (.bool false)).setCell ⟨F.heap.size,7,none⟩ (.int .i64 0)) F.heap.size {t with h1:=⟨false,0⟩} (.slice a1 t.info.length c1) (.slice a2 t.data.length c2) (.slice a3 t.rev.length c3)):=(D.o.set (t':={t with h1:=⟨false,t.h1.left⟩}) 6 (.bool false) rfl D.o.2.1 D.o.2.2.1 D.o.2.2.2).set (t':={t with h1:=⟨false,0⟩}) 7 (.int .i64 0) rfl (ownsRow_setCell_below D.o.2.1 (by simp) _) (ownsRow_setCell_below D.o.2.2.1 (by simp) _) (ownsRow_setCell_below D.o.2.2.2 (by simp) _);go_wp2;refine bodyPost_ret (v:=.tuple #[.agg #[.int .i64 t.seq,.slice a1 t.info.length c1,.slice a2 t.data.length c2,.slice a3 t.rev.length c3,.bool t.h0.on,.int .i64 t.h0.left,.bool false,.int .i64 0,.bool t.h2.on,.int .i64 t.h2.left],.int .i64 0]) (by simp[results,results81,go_sem,J,L,U,N,Q,M,X,R,K,S]) rfl ⟨_,by rw[HE.o],?_⟩;rw[A0.o];refine⟨?_,?_,.inr (HX.o.fromR (t:={t with h1:=⟨false,0⟩}) (by omega))⟩
 ·refine BoxTx.is (t:={t with h1:=⟨false,0⟩}) (B:=F.heap.size) ?_ N1.o N2.o N3.o
  repeat refine BoxTx.other ?_ (by simp;omega) _
  exact HX.o
 ·repeat refine Below.setCell ?_ (by simp;try omega) _
  exact A1.o
theorem z0y(v:Value)(t:Tx)(w:World)(hT:IsTx w v t)(r1:t.info.length*24≤140737488355328)(r2:t.data.length*24≤140737488355328)(hg:zba t=true)(ho:onB t 2=true):
  Calls prog 81 #[v,.int .i64 2] w fun e w'=>∃v2,e=.returned (.tuple #[v2,.int .i64 (zda t 2)])∧IsTx w' v2 (zb3 t 2)∧Below w.heap.size w w'∧(v2=v∨za2 w.heap.size v2 (zb3 t 2)):=by
 have A6:=zaz hg;have l:=zab hT;obtain⟨a,c,a',c',r,d,rfl,hM,hD,hR,n1,n2,n3⟩:=hT;have N1:=zab n1;have N2:=zab n2;have N3:=zab n3;clear hM hD hR n1 n2 n3;go_enter func81,ntmps81;go_wp2_with fail;refine(zb7 _ t _ (l.o.below (zae (zaa _ _) (zaa _ _))) r1 r2).mono ?_;rintro e w1 ⟨rfl,C⟩;have A3:w.heap.size+1<w1.heap.size:=by have:=C.size;simp at this;omega
 have z:w.heap.size<w1.heap.size:=by omega
 have K1:=zab (zgr C);have q:=zab (zhl C);obtain⟨⟨h,p,k,n,i,s,u,m,j,y⟩,_⟩:=zaj K1.o;obtain⟨⟨J,L,U,N,Q,M,X,R,K,S⟩,Z⟩:=zaj q.o;have Y:=zab (zae (zae (zaa _ _) (zaa _ _)) C);clear C
 have HE:Hid (zda t 2=0):=by
  rw[Hid,zda,if_neg (by rw[hg];simp),if_neg];have:(zes t 2).on=true:=ho;rw[this];simp
 have A0:Hid (zb3 t 2={t with h2:=⟨false,0⟩}):=by rw[Hid,zb3,HE.o];rfl
 go_wp2_with fail;refine(zjh _ t 2 _ (l.o.below Y.o)).mono ?_;rintro e F ⟨rfl,E⟩;have A2:w.heap.size+1<F.heap.size:=by have:=E.size;omega
 have A5:w.heap.size<F.heap.size:=by omega
 have A4:=zab (zad E z K1.o);have b:=zab (zad E A3 q.o);have I:=zab (zae Y.o E);clear h p k n i s u m j y J L U N Q M X R K S Z E K1 q Y;obtain⟨⟨h,p,k,n,i,s,u,m,j,y⟩,_⟩:=zaj A4.o;obtain⟨⟨J,L,U,N,Q,M,X,R,K,S⟩,Z⟩:=zaj b.o;go_wp2_with fail;refine(zcy _ t _ (l.o.below I.o) (by omega) (by omega) (by omega)).mono ?_;rintro e w4 ⟨va,vd,vr,rfl,A,O⟩;obtain⟨a1,c1,rfl,_,_⟩:=SegC.of_owns A.2.1;obtain⟨a2,c2,rfl,_,_⟩:=SegC.of_owns A.2.2.1;obtain⟨a3,c3,rfl,_,_⟩:=SegI.of_owns A.2.2.2;have D:=zab A;have A7:=A.lt;have A1:=zab (zae I.o O);have x:=zab (zad O A2 b.o);clear h p k n i s u m j y J L U N Q M X R K S Z O A I;obtain⟨⟨J,L,U,N,Q,M,X,R,K,S⟩,Z⟩:=zaj x.o;obtain⟨⟨z0,z1,z2,z3,z4,z5,z6,z7,z8,z9⟩,gf⟩:=zaj D.o.1;have HX:Hid (BoxTx ((w4.setCell ⟨F.heap.size,8,none⟩ (.bool false)).setCell ⟨F.heap.size,9,none⟩ (.int .i64 0)) F.heap.size {t with h2:=⟨false,0⟩} (.slice a1 t.info.length c1) (.slice a2 t.data.length c2) (.slice a3 t.rev.length c3)):=(D.o.set (t':={t with h2:=⟨false,t.h2.left⟩}) 8 (.bool false) rfl D.o.2.1 D.o.2.2.1 D.o.2.2.2).set (t':={t with h2:=⟨false,0⟩}) 9 (.int .i64 0) rfl (ownsRow_setCell_below D.o.2.1 (by simp) _) (ownsRow_setCell_below D.o.2.2.1 (by simp) _) (ownsRow_setCell_below D.o.2.2.2 (by simp) _);go_wp2;refine bodyPost_ret (v:=.tuple #[.agg #[.int .i64 t.seq,.slice a1 t.info.length c1,.slice a2 t.data.length c2,.slice a3 t.rev.length c3,.bool t.h0.on,.int .i64 t.h0.left,.bool t.h1.on,.int .i64 t.h1.left,.bool false,.int .i64 0],.int .i64 0]) (by simp[results,results81,go_sem,J,L,U,N,Q,M,X,R,K,S]) rfl ⟨_,by rw[HE.o],?_⟩;rw[A0.o];refine⟨?_,?_,.inr (HX.o.fromR (t:={t with h2:=⟨false,0⟩}) (by omega))⟩
 ·refine BoxTx.is (t:={t with h2:=⟨false,0⟩}) (B:=F.heap.size) ?_ N1.o N2.o N3.o
  repeat refine BoxTx.other ?_ (by simp;omega) _
  exact HX.o
 ·repeat refine Below.setCell ?_ (by simp;try omega) _
  exact A1.o
theorem zx4(v:Value)(t:Tx)(h:Int)(w:World)(hT:IsTx w v t)(r1:t.info.length*24≤140737488355328)(r2:t.data.length*24≤140737488355328):
  Calls prog 81 #[v,.int .i64 h] w fun e w'=>∃v2,e=.returned (.tuple #[v2,.int .i64 (zda t h)])∧IsTx w' v2 (zb3 t h)∧Below w.heap.size w w'∧(v2=v∨za2 w.heap.size v2 (zb3 t h)):=by
 cases hg:zba t with
 |false=>exact z0v v t h w hT r1 r2 hg
 |true=>
  cases ho:onB t h with
  |false=>exact zx3 v t h w hT r1 r2 hg ho
  |true=>
   have B:zap h 0 2=true:=by rw[onB]at ho;exact(Bool.and_eq_true _ _▸ho:_∧_).1
   have hr:=zbe.1 B;have A:h=0∨h=1∨h=2:=by omega
   rcases A with rfl|rfl|rfl
   ·exact z0w v t w hT r1 r2 hg ho
   ·exact z0x v t w hT r1 r2 hg ho
   ·exact z0y v t w hT r1 r2 hg ho
