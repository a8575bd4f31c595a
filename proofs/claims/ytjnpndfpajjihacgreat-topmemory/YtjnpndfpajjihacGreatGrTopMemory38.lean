/-
  
-/
import Derived.Test.YtjnpndfpajjihacGreatGrTopMemory31
import Derived.Test.YtjnpndfpajjihacGreatGrTopMemory37
import Derived.Test.YtjnpndfpajjihacGreatGrTopMemory16
set_option maxRecDepth 100000
set_option maxHeartbeats 40000000
namespace Go.Proofs.YtjnpndfpajjihacGreat
open Go.RowKit
theorem zum (n:Int)(h: -9223372036854775808≤n∧n≤9223372036854775807):wrap64 n=n:=by unfold wrap64;omega
theorem zlp {t:Tx}(h:zba t=true)(k:Int):hdB (zei t k)=true:=by
 have:=((za7 t).1 h).2.2.2.2;unfold zei;split
 ·exact this.1
 ·split
  ·exact this.2.1
  ·exact this.2.2
theorem zc1 {t:Tx}(h:zba t=true):zb0 t=(t.info.length:Int)+(t.rev.length:Int)+t.h0.left+t.h1.left+t.h2.left∧0≤zb0 t∧zb0 t≤96:=by
 have hs:=zaw h;have hh:=((za7 t).1 h).2.2.2.2;have a0:=(zeh _).1 hh.1;have a1:=(zeh _).1 hh.2.1;have a2:=(zeh _).1 hh.2.2
 have e:zb0 t=(t.info.length:Int)+(t.rev.length:Int)+t.h0.left+t.h1.left+t.h2.left:=by
  unfold zb0;rw[zum ((t.info.length:Int)+(t.rev.length:Int)) (by omega),zum ((t.info.length:Int)+(t.rev.length:Int)+t.h0.left) (by omega),zum ((t.info.length:Int)+(t.rev.length:Int)+t.h0.left+t.h1.left) (by omega),zum _ (by omega)]
 rw[e];omega
theorem zcd (v:Value)(t:Tx)(h b:Int)(w:World)(hT:IsTx w v t)(r1:t.info.length*24≤140737488355328)(r2:t.data.length*24≤140737488355328):
  Calls Tryz.prog 152 #[v,.int .i64 h,.int .i64 b] w fun e w'=>e=.returned (.int .i64 (reachE t h b))∧Below w.heap.size w w':=by
 have HT:=zaa hT;obtain⟨a,c,a',c',r,d,rfl,hM,hD,hR,n1,n2,n3⟩:=hT;clear hM hD hR n1 n2 n3;go_enter Tryz.func152,Tryz.ntmps152;go_wp2_with fail;refine(zb5 _ t _ (HT.o.below (zab _ _)) r1 r2).mono ?_;rintro e w1 ⟨rfl,hb1⟩;have hs1:w.heap.size<w1.heap.size:=by have:=hb1.size;simp at this;omega
 obtain⟨⟨x0,x1,x2,x3,x4,x5,x6,x7,x8,x9⟩,_⟩:=zai (z2j hb1);have HB:=zaa (zae (zab _ _) hb1);clear hb1
 cases hg:zba t with
 |false=>
  have HE:Hid (reachE t h b=2):=by rw[Hid,reachE,if_pos hg]
  go_wp2;go_ret;exact⟨by rw[HE.o];rfl,HB.o⟩
 |true=>
  have HG:=zaa hg;go_wp2_with fail;refine(zi4 _ t h _ (HT.o.below HB.o)).mono ?_;rintro e w2 ⟨rfl,hb2⟩;have HB2:=zaa (zae HB.o hb2);clear hb2 x0 x1 x2 x3 x4 x5 x6 x7 x8 x9 hg
  cases ho:onB t h with
  |false=>
   have HE:Hid (reachE t h b=4):=by
    rw[Hid,reachE,if_neg (by rw[HG.o];simp),if_pos];rw[onB] at ho;by_cases hw:0≤h∧h≤2
    ·rw[zbd.2 hw,Bool.true_and] at ho
     exact .inr (.inr (.inl ho))
    ·omega
   go_wp2;go_ret;exact⟨by rw[HE.o];rfl,HB2.o⟩
  |true=>
   have ho':zam h 0 2=true∧(zei t h).on=true:=by rw[onB] at ho;simpa using ho
   have hw:=zbd.1 ho'.1
   cases hq:zam b 0 11 with
   |false=>
    have HE:Hid (reachE t h b=4):=by
     rw[Hid,reachE,if_neg (by rw[HG.o];simp),if_pos];by_cases hb:0≤b∧b≤11
     ·rw[zbd.2 hb] at hq;cases hq
     ·omega
    clear ho' hw;go_wp2_with (go_at_call 59;refine(zay _ _ _ _).mono ?_;rintro e w' ⟨rfl,rfl⟩);go_ret;exact⟨by rw[HE.o];rfl,HB2.o⟩
   |true=>
    have hb:=zbd.1 hq
    have HE:Hid (reachE t h b=0):=by
     rw[Hid,reachE,if_neg (by rw[HG.o];simp),if_neg];rw[ho'.2];simp;omega
    clear ho' hw hb;go_wp2_with (go_at_call 59;refine(zay _ _ _ _).mono ?_;rintro e w' ⟨rfl,rfl⟩);go_ret;exact⟨by rw[HE.o];rfl,HB2.o⟩
theorem zc2 {t:Tx}{h b:Int}(e:reachE t h b=0):zba t=true∧(h=0∨h=1∨h=2)∧(zei t h).on=true∧0≤b∧b≤11:=by
 unfold reachE at e
 cases hg:zba t with
 |false=>rw[if_pos hg] at e;cases e
 |true=>
  rw[if_neg (by rw[hg];simp)] at e;by_cases hc:h<0∨2<h∨(zei t h).on=false∨b<0∨11<b
  ·rw[if_pos hc] at e;cases e
  ·have ho:(zei t h).on=true:=by cases hh:(zei t h).on;exact absurd (.inr (.inr (.inl hh))) hc;rfl
   refine⟨rfl,by omega,ho,by omega,by omega⟩
theorem zfv {l:List Int}(h:zbg l=true):l.Nodup:=by
 rw[za8] at h;exact List.Pairwise.imp (fun h=>by simp only[id] at h;omega) h.2
def zzb (t:Tx):Prop:=(∀x∈blksOf t.info,x∉blksOf t.data∧x∉t.rev)∧∀x∈blksOf t.data,x∉t.rev
theorem zni {t:Tx}(h1:zbg (blksOf t.info)=true)(h2:zbg (blksOf t.data)=true)(h3:zbg t.rev=true):(zkg t).Nodup↔zzb t:=by
 rw[zkg,List.nodup_append,List.nodup_append];constructor
 ·rintro⟨_,⟨_,_,a⟩,b⟩
  refine⟨fun x hx=>⟨fun e=>b x hx x (List.mem_append.2 (.inl e)) rfl,fun e=>b x hx x (List.mem_append.2 (.inr e)) rfl⟩,fun x hx e=>a x hx x e rfl⟩
 ·rintro⟨a,b⟩
  refine⟨zfv h1,⟨zfv h2,zfv h3,fun x hx y hy e=>b x hx (e▸hy)⟩,fun x hx y hy e=>?_⟩;rcases List.mem_append.1 hy with hy|hy
  ·exact(a x hx).1 (e▸hy)
  ·exact(a x hx).2 (e▸hy)
theorem zor {l:List (Int×ByteArray)}{b:Int}:b∈blksOf l↔(zas b l).isSome=true:=by
 rw[zku,List.any_eq_true,blksOf,List.mem_map];constructor
 ·rintro⟨x,hx,rfl⟩;exact⟨x,hx,by simp⟩
 ·rintro⟨x,hx,e⟩;exact⟨x,hx,by simpa using e⟩
theorem zqj {l:List Int}{b:Int}:b∈l↔zbm l b=true:=by
 rw[zbm,List.any_eq_true];constructor
 ·intro h;exact⟨b,h,by simp⟩
 ·rintro⟨x,hx,e⟩
  have:x=b:=by simpa using e
  rw[←this];exact hx
theorem zi5 {l:List (Int×ByteArray)}{b y:Int}{s:ByteArray}:y∈blksOf (zbr (·.1) l b (b,s))↔y=b∨(y∈blksOf l∧y≠b):=by
 simp only[blksOf,List.mem_map];constructor
 ·rintro⟨x,hx,rfl⟩
  rcases zh2.1 hx with rfl|⟨h1,h2⟩
  ·exact .inl rfl
  ·exact .inr ⟨⟨x,h1,rfl⟩,h2⟩
 ·rintro(rfl|⟨⟨x,h1,rfl⟩,h2⟩)
  ·exact⟨_,zh2.2 (.inl rfl),rfl⟩
  ·exact⟨x,zh2.2 (.inr ⟨h1,h2⟩),rfl⟩
theorem zgx {l:List (Int×ByteArray)}{b y:Int}:y∈blksOf (za2 (·.1) l b)↔y∈blksOf l∧y≠b:=by
 simp only[blksOf,List.mem_map];constructor
 ·rintro⟨x,hx,rfl⟩
  have:=zg7.1 hx;exact⟨⟨x,this.1,rfl⟩,this.2⟩
 ·rintro⟨⟨x,h1,rfl⟩,h2⟩
  exact⟨x,zg7.2 ⟨h1,h2⟩,rfl⟩
theorem zqk {l:List (Int×ByteArray)}(h:zbg (blksOf l)=true){b:Int}(h0:0≤b)(h1:b≤11)(s:ByteArray):zbg (blksOf (zbr (·.1) l b (b,s)))=true:=by
 have hh:=(za8 _).1 h;rw[za8];refine⟨fun y hy=>?_,?_⟩
 ·rcases zi5.1 hy with rfl|⟨e,_⟩
  ·exact⟨h0,h1⟩
  ·exact hh.1 y e
 ·rw[blksOf,zgc] at hh⊢
  exact z2n hh.2 rfl
theorem zlq {l:List (Int×ByteArray)}(h:zbg (blksOf l)=true)(b:Int):zbg (blksOf (za2 (·.1) l b))=true:=by
 have hh:=(za8 _).1 h;rw[za8];refine⟨fun y hy=>hh.1 y (zgx.1 hy).1,?_⟩;rw[blksOf,zgc] at hh⊢;exact zxo hh.2 b
theorem zv6 {l:List Int}(h:zbg l=true){b:Int}(h0:0≤b)(h1:b≤11):zbg (zbr id l b b)=true:=by
 rw[za8] at h⊢;refine⟨fun y hy=>?_,z2n h.2 rfl⟩;rcases zh2.1 hy with rfl|⟨e,_⟩
 ·exact⟨h0,h1⟩
 ·exact h.1 y e
theorem zsy {l:List Int}(h:zbg l=true)(b:Int):zbg (za2 id l b)=true:=by
 rw[za8] at h⊢;exact⟨fun y hy=>h.1 y (zg7.1 hy).1,zxo h.2 b⟩
theorem zun {l:List (Int×ByteArray)}(h:zb4 l=true)(b:Int){s:ByteArray}(hs:za9 s=true):zb4 (zbr (·.1) l b (b,s))=true:=by
 unfold zb4 at h⊢;rw[List.all_eq_true] at h⊢;intro x hx;rcases zh2.1 hx with rfl|⟨e,_⟩
 ·exact hs
 ·exact h x e
theorem znj {l:List (Int×ByteArray)}(h:zb4 l=true)(b:Int):zb4 (za2 (·.1) l b)=true:=by
 unfold zb4 at h⊢;rw[List.all_eq_true] at h⊢;intro x hx;exact h x (zg7.1 hx).1
theorem zhk {α:Type}{key:α→Int}{l:List α}(h:Up key l)(b:Int):(za2 key l b).length+(if(l.any fun x=>key x==b)=true then 1 else 0)=l.length:=by
 induction l with
 |nil=>rfl
 |cons x r ih=>
  have hr:=List.pairwise_cons.1 h;have hi:=ih hr.2;have hd:=zxp h b;have hd2:=zxp hr.2 b;rw[hd2] at hi;rw[hd,List.filter_cons,List.any_cons];by_cases e:key x=b
  ·have hno:(r.any fun x=>key x==b)=false:=by
    rw[List.any_eq_false];intro y hy;have:=hr.1 y hy;simp;omega
   rw[hno] at hi;have e':(key x==b)=true:=by simpa using e
   rw[if_neg (by simpa using e),e',hno];simp at hi⊢;omega
  ·have e':(key x==b)=false:=by simpa using e
   rw[if_pos (by simpa using e),e',Bool.false_or,List.length_cons,List.length_cons];omega
theorem zzc {α:Type}(key:α→Int)(l:List α)(b:Int)(x:α):(zbr key l b x).length=(za2 key l b).length+1:=by
 simp[zbr,za2];omega
theorem zi6 (t:Tx)(h b:Int):(nameT t h b).seq=t.seq:=by
 unfold nameT zh1;split
 ·rfl
 ·split
  ·rfl
  ·split<;>rfl
theorem znk {t:Tx}{h b:Int}(hg:zba t=true)(hh:h=0∨h=1∨h=2)(hn:nameE t h b=0)(ho:(zei t h).on=true):
  hdB (nameT t h b).h0=true∧hdB (nameT t h b).h1=true∧hdB (nameT t h b).h2=true:=by
 have hgh:=((za7 t).1 hg).2.2.2.2;unfold nameT;by_cases e:zcm t b=true
 ·rw[if_pos e];exact hgh
 ·rw[if_neg e]
  rw[nameE,if_neg e] at hn;have hk:=(zeh _).1 (zlp hg h);have hl:(zei t h).left≠0:=by intro e;rw[if_pos e] at hn;cases hn
  have hnew:hdB ⟨(zei t h).on,(zei t h).left - 1⟩=true:=(zeh _).2 ⟨by show 0≤(zei t h).left - 1;omega,by show(zei t h).left - 1≤24;omega,fun e=>by rw[ho] at e;cases e⟩;rcases hh with rfl|rfl|rfl
  ·exact⟨hnew,hgh.2.1,hgh.2.2⟩
  ·exact⟨hgh.1,hnew,hgh.2.2⟩
  ·exact⟨hgh.1,hgh.2.1,hnew⟩
theorem zlr (t:Tx)(h b:Int)(hh:h=0∨h=1∨h=2):(nameT t h b).h0.left+(nameT t h b).h1.left+(nameT t h b).h2.left=t.h0.left+t.h1.left+t.h2.left - (if zcm t b=true then 0 else 1):=by
 unfold nameT
 cases zcm t b with
 |true=>simp
 |false=>rcases hh with rfl|rfl|rfl<;>simp[zh1,zei]<;>omega
theorem zls {t:Tx}{h b:Int}{s:ByteArray}(e:changeE t h b s=0):reachE t h b=0∧za9 s=true∧(zas b t.data).isSome=false∧nameE t h b=0:=by
 unfold changeE at e;by_cases h1:reachE t h b=0
 ·rw[if_neg (by simpa using h1)] at e
  cases h2:za9 s with
  |false=>rw[if_pos h2] at e;cases e
  |true=>
   rw[if_neg (by rw[h2];simp)] at e
   cases h3:(zas b t.data).isSome with
   |true=>rw[if_pos h3] at e;cases e
   |false=>rw[if_neg (by rw[h3];simp)] at e;exact⟨h1,rfl,rfl,e⟩
 ·rw[if_pos h1] at e;exact absurd e h1
theorem zzd {t:Tx}{h b:Int}{s:ByteArray}(e:fillE t h b s=0):reachE t h b=0∧za9 s=true∧zcm t b=false:=by
 unfold fillE at e;by_cases h1:reachE t h b=0
 ·rw[if_neg (by simpa using h1)] at e
  cases h2:za9 s with
  |false=>rw[if_pos h2] at e;cases e
  |true=>
   rw[if_neg (by rw[h2];simp)] at e
   cases h3:zcm t b with
   |true=>rw[if_pos h3] at e;cases e
   |false=>exact⟨h1,rfl,rfl⟩
 ·rw[if_pos h1] at e;exact absurd e h1
theorem zlt {t:Tx}{h b:Int}(e:revokeE t h b=0):reachE t h b=0∧zbm t.rev b=false∧nameE t h b=0:=by
 unfold revokeE at e;by_cases h1:reachE t h b=0
 ·rw[if_neg (by simpa using h1)] at e
  cases h3:zbm t.rev b with
  |true=>rw[if_pos h3] at e;cases e
  |false=>rw[if_neg (by rw[h3];simp)] at e;exact⟨h1,rfl,e⟩
 ·rw[if_pos h1] at e;exact absurd e h1
theorem zos {t:Tx}(h1:1≤t.seq∧t.seq≤2147483647)(h2:zb4 t.info=true)(h3:zb4 t.data=true)(h4:zbg (blksOf t.info)=true)(h5:zbg (blksOf t.data)=true)(h6:zbg t.rev=true)(h7:zzb t)(h8:hdB t.h0=true∧hdB t.h1=true∧hdB t.h2=true):zba t=true:=
 (za7 t).2 ⟨h1,⟨h2,h3⟩,⟨h4,h5,h6⟩,(zni h4 h5 h6).2 h7,h8⟩
theorem zeo {t:Tx}(h:zba t=true):zzb t:=by
 have:=(za7 t).1 h;exact(zni this.2.2.1.1 this.2.2.1.2.1 this.2.2.1.2.2).1 this.2.2.2.1
theorem zj5 {t:Tx}{h b:Int}{s:ByteArray}(e:changeE t h b s=0):zba (ze6 t h b s)=true:=by
 obtain⟨hr,hs,hd,hn⟩:=zls e;obtain⟨hg,hh,ho,b0,b1⟩:=zc2 hr;have hi:=(za7 t).1 hg;have hp:=zeo hg;refine zos (t:=ze6 t h b s) ?_ (zun hi.2.1.1 b hs) ?_ (zqk hi.2.2.1.1 b0 b1 s) ?_ (zsy hi.2.2.1.2.2 b) ?_ (znk hg hh hn ho)
 ·show 1≤(nameT t h b).seq∧(nameT t h b).seq≤2147483647
  rw[zi6];exact hi.1
 ·show zb4 (nameT t h b).data=true
  rw[(ze9 t h b).2.1];exact hi.2.1.2
 ·show zbg (blksOf (nameT t h b).data)=true
  rw[(ze9 t h b).2.1];exact hi.2.2.1.2.1
 ·have hdat:(ze6 t h b s).data=t.data:=(ze9 t h b).2.1
  have hbd:b∉blksOf t.data:=fun e=>by rw[zor,hd] at e;cases e
  refine⟨fun x hx=>⟨?_,?_⟩,fun x hx=>?_⟩
  ·rw[hdat]
   rcases zi5.1 hx with rfl|⟨h1,_⟩
   ·exact hbd
   ·exact(hp.1 x h1).1
  ·intro hx2
   have h2:=zg7.1 hx2;rcases zi5.1 hx with rfl|⟨h1,_⟩
   ·exact h2.2 rfl
   ·exact(hp.1 x h1).2 h2.1
  ·rw[hdat] at hx
   intro hx2;exact hp.2 x hx (zg7.1 hx2).1
theorem zj6 {t:Tx}{h b:Int}(e:revokeE t h b=0):zba (zfq t h b)=true:=by
 obtain⟨hr,hd,hn⟩:=zlt e;obtain⟨hg,hh,ho,b0,b1⟩:=zc2 hr;have hi:=(za7 t).1 hg;have hp:=zeo hg;refine zos (t:=zfq t h b) ?_ (znj hi.2.1.1 b) (znj hi.2.1.2 b) (zlq hi.2.2.1.1 b) (zlq hi.2.2.1.2.1 b) (zv6 hi.2.2.1.2.2 b0 b1) ?_ (znk hg hh hn ho)
 ·show 1≤(nameT t h b).seq∧(nameT t h b).seq≤2147483647
  rw[zi6];exact hi.1
 ·refine⟨fun x hx=>⟨?_,?_⟩,fun x hx=>?_⟩
  ·intro hx2
   exact(hp.1 x (zgx.1 hx).1).1 (zgx.1 hx2).1
  ·intro hx2
   have h1:=zgx.1 hx;rcases zh2.1 hx2 with rfl|⟨h2,_⟩
   ·exact h1.2 rfl
   ·exact(hp.1 x h1.1).2 h2
  ·intro hx2
   have h1:=zgx.1 hx;rcases zh2.1 hx2 with rfl|⟨h2,_⟩
   ·exact h1.2 rfl
   ·exact hp.2 x h1.1 h2
theorem zv7 {t:Tx}{h b:Int}{s:ByteArray}(e:fillE t h b s=0):zba {t with data:=zbr (·.1) t.data b (b,s)}=true:=by
 obtain⟨hr,hs,hd⟩:=zzd e;obtain⟨hg,hh,ho,b0,b1⟩:=zc2 hr;have hi:=(za7 t).1 hg;have hp:=zeo hg;have hnn:(zas b t.info).isSome=false∧zbm t.rev b=false:=by rw[zcm] at hd;simpa using hd
 refine zos (t:={t with data:=zbr (·.1) t.data b (b,s)}) hi.1 hi.2.1.1 (zun hi.2.1.2 b hs) hi.2.2.1.1 (zqk hi.2.2.1.2.1 b0 b1 s) hi.2.2.1.2.2 ?_ hi.2.2.2.2;refine⟨fun x hx=>⟨?_,(hp.1 x hx).2⟩,fun x hx=>?_⟩
 ·intro hx2
  rcases zi5.1 hx2 with rfl|⟨h2,_⟩
  ·rw[zor,hnn.1] at hx;cases hx
  ·exact(hp.1 x hx).1 h2
 ·intro hx2
  rcases zi5.1 hx with rfl|⟨h1,_⟩
  ·rw[zqj] at hx2;rw[hnn.2] at hx2;cases hx2
  ·exact hp.2 x h1 hx2
theorem zjp {t:Tx}{h:Int}{x:Hd}(hg:zba t=true)(hx:hdB x=true):zba (zh1 t h x)=true:=by
 have hi:=(za7 t).1 hg;unfold zh1;split
 ·exact(za7 _).2 ⟨hi.1,hi.2.1,hi.2.2.1,hi.2.2.2.1,hx,hi.2.2.2.2.2⟩
 ·split
  ·exact(za7 _).2 ⟨hi.1,hi.2.1,hi.2.2.1,hi.2.2.2.1,hi.2.2.2.2.1,hx,hi.2.2.2.2.2.2⟩
  ·exact(za7 _).2 ⟨hi.1,hi.2.1,hi.2.2.1,hi.2.2.2.1,hi.2.2.2.2.1,hi.2.2.2.2.2.1,hx⟩
theorem zot {t:Tx}{h b:Int}{s:ByteArray}(e:changeE t h b s=0):zb0 (ze6 t h b s)=zb0 t:=by
 have hy:=zj5 e;obtain⟨hr,hs,hd,hn⟩:=zls e;obtain⟨hg,hh,ho,b0,b1⟩:=zc2 hr;have hi:=(za7 t).1 hg;have hp:=zeo hg;have u1:Up (·.1) t.info:=(zgc _ _).1 ((za8 _).1 hi.2.2.1.1).2;have u3:Up id t.rev:=((za8 _).1 hi.2.2.1.2.2).2;rw[(zc1 hy).1,(zc1 hg).1];have l1:=zhk u1 b;have l3:=zhk u3 b;have p1:=zzc (·.1) t.info b (b,s);have hl:=zlr t h b hh;have x1:(ze6 t h b s).info.length=(za2 (·.1) t.info b).length+1:=p1;have x3:(ze6 t h b s).rev.length=(za2 id t.rev b).length:=rfl;have y0:(ze6 t h b s).h0.left+(ze6 t h b s).h1.left+(ze6 t h b s).h2.left=t.h0.left+t.h1.left+t.h2.left - (if zcm t b=true then 0 else 1):=hl;have a1:(t.info.any fun x=>x.1==b)=(zas b t.info).isSome:=(zku t.info b).symm;have a3:(t.rev.any fun x=>id x==b)=zbm t.rev b:=rfl;rw[a1] at l1;rw[a3] at l3;have hx:¬((zas b t.info).isSome=true∧zbm t.rev b=true):=fun⟨e1,e2⟩=>(hp.1 b (zor.2 e1)).2 (zqj.2 e2);unfold zcm at y0
 cases c1:(zas b t.info).isSome with
 |true=>
  cases c3:zbm t.rev b with
  |true=>exact absurd ⟨c1,c3⟩ hx
  |false=>rw[c1] at l1;rw[c3] at l3;rw[c1] at y0;simp at l1 l3 y0;omega
 |false=>
  cases c3:zbm t.rev b with
  |true=>rw[c1] at l1;rw[c3] at l3;rw[c1,c3] at y0;simp at l1 l3 y0;omega
  |false=>rw[c1] at l1;rw[c3] at l3;rw[c1,c3] at y0;simp at l1 l3 y0;omega
theorem zou {t:Tx}{h b:Int}(e:revokeE t h b=0):zb0 (zfq t h b)=zb0 t:=by
 have hy:=zj6 e;obtain⟨hr,hd,hn⟩:=zlt e;obtain⟨hg,hh,ho,b0,b1⟩:=zc2 hr;have hi:=(za7 t).1 hg;have u1:Up (·.1) t.info:=(zgc _ _).1 ((za8 _).1 hi.2.2.1.1).2;have u3:Up id t.rev:=((za8 _).1 hi.2.2.1.2.2).2;rw[(zc1 hy).1,(zc1 hg).1];have l1:=zhk u1 b;have l3:=zhk u3 b;have p3:=zzc id t.rev b b;have hl:=zlr t h b hh;have x1:(zfq t h b).info.length=(za2 (·.1) t.info b).length:=rfl;have x3:(zfq t h b).rev.length=(za2 id t.rev b).length+1:=p3;have y0:(zfq t h b).h0.left+(zfq t h b).h1.left+(zfq t h b).h2.left=t.h0.left+t.h1.left+t.h2.left - (if zcm t b=true then 0 else 1):=hl;have a1:(t.info.any fun x=>x.1==b)=(zas b t.info).isSome:=(zku t.info b).symm;have a3:(t.rev.any fun x=>id x==b)=zbm t.rev b:=rfl;rw[a1] at l1;rw[a3,hd] at l3;unfold zcm at y0;rw[hd,Bool.or_false] at y0
 cases c1:(zas b t.info).isSome with
 |true=>rw[c1] at l1;rw[c1] at y0;simp at l1 l3 y0;omega
 |false=>rw[c1] at l1;rw[c1] at y0;simp at l1 l3 y0;omega
def zct (t:Tx)(k h b n free:Int)(s:ByteArray):Int:=
 if k=0 then zbb t h n free else if k=1 then changeE t h b s else if k=2 then fillE t h b s else if k=3 then revokeE t h b else zc4 t h
def zci (t:Tx)(k h b n free:Int)(s:ByteArray):Tx:=
 if k=0 then zau t h n free else if k=1 then zaf t h b s else if k=2 then zan t h b s else if k=3 then zag t h b else zb3 t h
theorem zv9 {a b:Int}(h:a≤b):clampN a≤clampN b:=by unfold clampN;split<;>split<;>(try split)<;>(try split)<;>omega
theorem zzf {a b:Int}(h:a≤b):zes a≤zes b:=by
 have h1:=zv9 h;unfold zes;generalize clampN a=x at *;generalize clampN b=y at *;have e1:(if 0<x then(1:Int) else 0)≤if 0<y then 1 else 0:=by split<;>split<;>omega
 have e2:(if 10<x then(1:Int) else 0)≤if 10<y then 1 else 0:=by split<;>split<;>omega
 have e3:(if 20<x then(1:Int) else 0)≤if 20<y then 1 else 0:=by split<;>split<;>omega
 omega
theorem zlu (t:Tx)(h:Int)(x:Hd):(zh1 t h x).info=t.info∧(zh1 t h x).rev=t.rev:=by
 unfold zh1;split
 ·exact⟨rfl,rfl⟩
 ·split<;>exact⟨rfl,rfl⟩
theorem zlv {t:Tx}{h:Int}{x:Hd}(hg:zba t=true)(hx:hdB x=true):zb0 (zh1 t h x)=zb0 t - (zei t h).left+x.left:=by
 have e:=(zc1 (zjp (h:=h) hg hx)).1;have e0:=(zc1 hg).1;rw[e,e0,(zlu t h x).1,(zlu t h x).2];unfold zh1 zei;split
 ·show _+_+x.left+t.h1.left+t.h2.left=_;omega
 ·split
  ·show _+_+t.h0.left+x.left+t.h2.left=_;omega
  ·show _+_+t.h0.left+t.h1.left+x.left=_;omega
theorem z1r {t:Tx}{h n free:Int}(e:zbb t h n free=0):zba t=true∧(zei t h).on=false∧(0≤n∧n≤12)∧zb0 t+n≤24∧zes (zb0 t+n)≤free:=by
 unfold zbb at e
 cases hg:zba t with
 |false=>rw[if_pos hg] at e;cases e
 |true=>
  rw[if_neg (by rw[hg];simp)] at e;by_cases h1:h<0∨2<h
  ·rw[if_pos h1] at e;cases e
  ·rw[if_neg h1] at e
   cases ho:(zei t h).on with
   |true=>rw[if_pos ho] at e;cases e
   |false=>
    rw[if_neg (by rw[ho];simp)] at e;by_cases h2:n<0∨12<n
    ·rw[if_pos h2] at e;cases e
    ·rw[if_neg h2] at e
     by_cases h3:24<zb0 t+n∨free<zes (zb0 t+n)
     ·rw[if_pos h3] at e;cases e
     ·exact⟨rfl,rfl,by omega,by omega,by omega⟩
theorem zs0 {t:Tx}{k h b n free:Int}{s:ByteArray}(he:¬zct t k h b n free s=0):zci t k h b n free s=t:=by
 unfold zct at he;unfold zci;split
 ·rename_i hk;rw[if_pos hk] at he;rw[zau,if_neg he]
 ·rename_i hk;rw[if_neg hk] at he
  split
  ·rename_i hk;rw[if_pos hk] at he;rw[zaf,if_neg he]
  ·rename_i hk;rw[if_neg hk] at he
   split
   ·rename_i hk;rw[if_pos hk] at he;rw[zan,if_neg he]
   ·rename_i hk;rw[if_neg hk] at he
    split
    ·rename_i hk;rw[if_pos hk] at he;rw[zag,if_neg he]
    ·rename_i hk;rw[if_neg hk] at he;rw[zb3,if_neg he]
theorem zqm {t:Tx}{k h b n free:Int}{s:ByteArray}(hg:zba t=true):
  zba (zci t k h b n free s)=true∧(k≠0→zb0 (zci t k h b n free s)≤zb0 t)∧(zct t k h b n free s=0→k=0→zes (zb0 (zci t k h b n free s))≤free):=by
 by_cases he:zct t k h b n free s=0
 ·have hk0:=(zeh _).1 (zlp hg h)
  unfold zct at he;unfold zci;split
  ·rename_i hk
   rw[if_pos hk] at he;obtain⟨_,ho,hn,h24,hm⟩:=z1r he;have hx:hdB ⟨true,n⟩=true:=(zeh _).2 ⟨hn.1,by show n≤24;omega,fun e=>by cases e⟩;have hl:(zei t h).left=0:=hk0.2.2 ho;have ha:=zlv (h:=h) hg hx;rw[hl] at ha;rw[zau,if_pos he];refine⟨zjp hg hx,fun e=>absurd hk e,fun _ _=>?_⟩;rw[ha,show zb0 t - 0+(Hd.mk true n).left=zb0 t+n from by show _ - 0+n=_;omega];exact hm
  ·rename_i hk
   rw[if_neg hk] at he;split
   ·rename_i hk1
    rw[if_pos hk1] at he;rw[zaf,if_pos he];exact⟨zj5 he,fun _=>by rw[zot he];omega,fun _ e=>absurd e hk⟩
   ·rename_i hk1
    rw[if_neg hk1] at he;split
    ·rename_i hk2
     rw[if_pos hk2] at he;rw[zan,if_pos he];refine⟨zv7 he,fun _=>?_,fun _ e=>absurd e hk⟩;exact Int.le_of_eq rfl
    ·rename_i hk2
     rw[if_neg hk2] at he;split
     ·rename_i hk3
      rw[if_pos hk3] at he;rw[zag,if_pos he];exact⟨zj6 he,fun _=>by rw[zou he];omega,fun _ e=>absurd e hk⟩
     ·rename_i hk3
      rw[if_neg hk3] at he;have hx:hdB ⟨false,0⟩=true:=rfl;have ha:=zlv (h:=h) hg hx;rw[zb3,if_pos he];refine⟨zjp hg hx,fun _=>?_,fun _ e=>absurd e hk⟩;rw[ha];show zb0 t - (zei t h).left+0≤_;omega
 ·rw[zs0 he]
  exact⟨hg,fun _=>Int.le_refl _,fun e=>absurd e he⟩
def zow (base:Nat)(v:Value)(t:Tx):Prop:=
 ∃a c a' c' r d,v=.agg #[.int .i64 t.seq,.slice a t.info.length c,.slice a' t.data.length c',.slice r t.rev.length d,.bool t.h0.on,.int .i64 t.h0.left,.bool t.h1.on,.int .i64 t.h1.left,.bool t.h2.on,.int .i64 t.h2.left]∧
  (∀x off,a=some ⟨x,off,none⟩→base≤x)∧(∀x off,a'=some ⟨x,off,none⟩→base≤x)∧∀x off,r=some ⟨x,off,none⟩→base≤x
theorem BoxTx.from {w:World}{B base:Nat}{t:Tx}{va vd vr:Value}(h:BoxTx w B t va vd vr)(hb:base≤B+1):
  zow base (.agg #[.int .i64 t.seq,va,vd,vr,.bool t.h0.on,.int .i64 t.h0.left,.bool t.h1.on,.int .i64 t.h1.left,.bool t.h2.on,.int .i64 t.h2.left]) t:=by
 obtain⟨a,c,rfl,_,h1⟩:=SegC.of_owns h.2.1;obtain⟨a',c',rfl,_,h2⟩:=SegC.of_owns h.2.2.1;obtain⟨r,d,rfl,_,h3⟩:=SegI.of_owns h.2.2.2;exact⟨a,c,a',c',r,d,rfl,fun x o e=>Nat.le_trans hb (h1 x o e),fun x o e=>Nat.le_trans hb (h2 x o e),fun x o e=>Nat.le_trans hb (h3 x o e)⟩
def za0 (base:Nat)(v:Value)(t:Tx):Prop:=zow base v t∧RoomTx v
theorem zox {w:World}{base sz k n c:Nat}{e:TypeId}{a:Option Addr}{xs:List Value}(h:w.ownsRow base e sz (.slice a n c) k xs):n≤c:=by
 rcases h.2 with⟨e,_⟩|⟨g,cap,cur,e,_,_,h1,_⟩
 ·simp only[Value.slice.injEq] at e;omega
 ·simp only[Value.slice.injEq] at e;omega
theorem BoxTx.fromR {w:World}{B base:Nat}{t:Tx}{va vd vr:Value}(h:BoxTx w B t va vd vr)(hb:base≤B+1):
  za0 base (.agg #[.int .i64 t.seq,va,vd,vr,.bool t.h0.on,.int .i64 t.h0.left,.bool t.h1.on,.int .i64 t.h1.left,.bool t.h2.on,.int .i64 t.h2.left]) t:=by
 refine⟨h.from hb,?_⟩;obtain⟨_,o1,o2,o3⟩:=h;obtain⟨a,c,rfl,_,_⟩:=SegC.of_owns o1;obtain⟨a',c',rfl,_,_⟩:=SegC.of_owns o2;obtain⟨r,d,rfl,_,_⟩:=SegI.of_owns o3;exact⟨_,_,_,_,_,_,_,_,_,_,_,_,_,_,_,_,rfl,zox o1,zox o2,zox o3⟩
theorem BoxTx.other {w:World}{B:Nat}{t:Tx}{va vd vr:Value}(h:BoxTx w B t va vd vr){p:Addr}(hp:p.block<B)(u:Value):BoxTx (w.setCell p u) B t va vd vr:=
 ⟨(Below.heap_setCell _ _ _ _ (by omega)).trans h.1,ownsRow_setCell_below h.2.1 (by omega) _,ownsRow_setCell_below h.2.2.1 (by omega) _,ownsRow_setCell_below h.2.2.2 (by omega) _⟩
theorem zwe (v:Value)(t:Tx)(h n free:Int)(w:World)(hT:IsTx w v t)(r1:t.info.length*24≤140737488355328)(r2:t.data.length*24≤140737488355328)(hg:zba t=false):
  Calls Tryz.prog 80 #[v,.int .i64 h,.int .i64 n,.int .i64 free] w fun e w'=>∃v2,e=.returned (.tuple #[v2,.int .i64 (zbb t h n free)])∧IsTx w' v2 (zau t h n free)∧Below w.heap.size w w'∧(v2=v∨za0 w.heap.size v2 (zau t h n free)):=by
 have HT:=zaa hT;obtain⟨a,c,a',c',r,d,rfl,hM,hD,hR,n1,n2,n3⟩:=hT;have N1:=zaa n1;have N2:=zaa n2;have N3:=zaa n3;clear hM hD hR n1 n2 n3;go_enter Tryz.func80,Tryz.ntmps80;go_wp2_with fail;refine(zb5 _ t _ (HT.o.below (zae (zab _ _) (zab _ _))) r1 r2).mono ?_;rintro e w1 ⟨rfl,hb1⟩;have hs1:w.heap.size+1<w1.heap.size:=by have:=hb1.size;simp at this;omega
 have hs1':w.heap.size<w1.heap.size:=by omega
 have K1:=zaa (zf9 hb1);have K2:=zaa (zg3 hb1);obtain⟨⟨x0,x1,x2,x3,x4,x5,x6,x7,x8,x9⟩,_⟩:=zai K1.o;obtain⟨⟨y0,y1,y2,y3,y4,y5,y6,y7,y8,y9⟩,ff⟩:=zai K2.o;have HB1:=zaa (zae (zae (zab _ _) (zab _ _)) hb1);clear hb1;have HE:Hid (zbb t h n free=2):=by rw[Hid,zbb,if_pos hg]
 have HTT:Hid (zau t h n free=t):=by rw[Hid,zau,HE.o];rfl
 go_wp2;refine bodyPost_ret (v:=.tuple #[.agg #[.int .i64 t.seq,.slice a t.info.length c,.slice a' t.data.length c',.slice r t.rev.length d,.bool t.h0.on,.int .i64 t.h0.left,.bool t.h1.on,.int .i64 t.h1.left,.bool t.h2.on,.int .i64 t.h2.left],.int .i64 2]) (by simp[results,Tryz.results80,go_sem,y0,y1,y2,y3,y4,y5,y6,y7,y8,y9]) rfl ⟨_,by rw[HE.o],?_⟩;refine⟨?_,?_,.inl rfl⟩
 ·rw[HTT.o]
  refine HT.o.below ?_
  repeat refine Below.setCell ?_ (by simp) _
  exact HB1.o
 ·repeat refine Below.setCell ?_ (by simp) _
  exact HB1.o
theorem zs1 (v:Value)(t:Tx)(h n free:Int)(w:World)(hT:IsTx w v t)(r1:t.info.length*24≤140737488355328)(r2:t.data.length*24≤140737488355328)(hg:zba t=true)(hw:zam h 0 2=false):
  Calls Tryz.prog 80 #[v,.int .i64 h,.int .i64 n,.int .i64 free] w fun e w'=>∃v2,e=.returned (.tuple #[v2,.int .i64 (zbb t h n free)])∧IsTx w' v2 (zau t h n free)∧Below w.heap.size w w'∧(v2=v∨za0 w.heap.size v2 (zau t h n free)):=by
 have HT:=zaa hT;obtain⟨a,c,a',c',r,d,rfl,hM,hD,hR,n1,n2,n3⟩:=hT;have N1:=zaa n1;have N2:=zaa n2;have N3:=zaa n3;clear hM hD hR n1 n2 n3;go_enter Tryz.func80,Tryz.ntmps80;go_wp2_with fail;refine(zb5 _ t _ (HT.o.below (zae (zab _ _) (zab _ _))) r1 r2).mono ?_;rintro e w1 ⟨rfl,hb1⟩;have hs1:w.heap.size+1<w1.heap.size:=by have:=hb1.size;simp at this;omega
 have hs1':w.heap.size<w1.heap.size:=by omega
 have K1:=zaa (zf9 hb1);have K2:=zaa (zg3 hb1);obtain⟨⟨x0,x1,x2,x3,x4,x5,x6,x7,x8,x9⟩,_⟩:=zai K1.o;obtain⟨⟨y0,y1,y2,y3,y4,y5,y6,y7,y8,y9⟩,ff⟩:=zai K2.o;have HB1:=zaa (zae (zae (zab _ _) (zab _ _)) hb1);clear hb1
 have hno:h<0∨2<h:=by
  by_cases e:0≤h∧h≤2
  ·rw[zbd.2 e] at hw;cases hw
  ·omega
 have HE:Hid (zbb t h n free=4):=by rw[Hid,zbb,if_neg (by rw[hg];simp),if_pos hno]
 have HTT:Hid (zau t h n free=t):=by rw[Hid,zau,HE.o];rfl
 clear hno;go_wp2_with (go_at_call 117;refine(zbi _ _).mono ?_;rintro e w' ⟨rfl,rfl⟩);refine bodyPost_ret (v:=.tuple #[.agg #[.int .i64 t.seq,.slice a t.info.length c,.slice a' t.data.length c',.slice r t.rev.length d,.bool t.h0.on,.int .i64 t.h0.left,.bool t.h1.on,.int .i64 t.h1.left,.bool t.h2.on,.int .i64 t.h2.left],.int .i64 4]) (by simp[results,Tryz.results80,go_sem,y0,y1,y2,y3,y4,y5,y6,y7,y8,y9]) rfl ⟨_,by rw[HE.o],?_⟩;refine⟨?_,?_,.inl rfl⟩
 ·rw[HTT.o]
  refine HT.o.below ?_
  repeat refine Below.setCell ?_ (by simp) _
  exact HB1.o
 ·repeat refine Below.setCell ?_ (by simp) _
  exact HB1.o
theorem zwf (v:Value)(t:Tx)(n free:Int)(w:World)(hT:IsTx w v t)(r1:t.info.length*24≤140737488355328)(r2:t.data.length*24≤140737488355328)(hg:zba t=true)(ho:t.h0.on=true):
  Calls Tryz.prog 80 #[v,.int .i64 0,.int .i64 n,.int .i64 free] w fun e w'=>∃v2,e=.returned (.tuple #[v2,.int .i64 (zbb t 0 n free)])∧IsTx w' v2 (zau t 0 n free)∧Below w.heap.size w w'∧(v2=v∨za0 w.heap.size v2 (zau t 0 n free)):=by
 have HO:=zaa ho;clear ho;have HT:=zaa hT;obtain⟨a,c,a',c',r,d,rfl,hM,hD,hR,n1,n2,n3⟩:=hT;have N1:=zaa n1;have N2:=zaa n2;have N3:=zaa n3;clear hM hD hR n1 n2 n3;go_enter Tryz.func80,Tryz.ntmps80;go_wp2_with fail;refine(zb5 _ t _ (HT.o.below (zae (zab _ _) (zab _ _))) r1 r2).mono ?_;rintro e w1 ⟨rfl,hb1⟩;have hs1:w.heap.size+1<w1.heap.size:=by have:=hb1.size;simp at this;omega
 have hs1':w.heap.size<w1.heap.size:=by omega
 have K1:=zaa (zf9 hb1);have K2:=zaa (zg3 hb1);obtain⟨⟨x0,x1,x2,x3,x4,x5,x6,x7,x8,x9⟩,_⟩:=zai K1.o;obtain⟨⟨y0,y1,y2,y3,y4,y5,y6,y7,y8,y9⟩,ff⟩:=zai K2.o;have HB1:=zaa (zae (zae (zab _ _) (zab _ _)) hb1);clear hb1;have ho:=HO.o;have HE:Hid (zbb t 0 n free=5):=by rw[Hid,zbb,if_neg (by rw[hg];simp),if_neg (by omega),show zei t 0=t.h0 from rfl,if_pos ho]
 have HTT:Hid (zau t 0 n free=t):=by rw[Hid,zau,HE.o];rfl
 have hw:zam 0 0 2=true:=rfl;go_wp2_with (go_at_call 117;refine(zbi _ _).mono ?_;rintro e w' ⟨rfl,rfl⟩);refine bodyPost_ret (v:=.tuple #[.agg #[.int .i64 t.seq,.slice a t.info.length c,.slice a' t.data.length c',.slice r t.rev.length d,.bool t.h0.on,.int .i64 t.h0.left,.bool t.h1.on,.int .i64 t.h1.left,.bool t.h2.on,.int .i64 t.h2.left],.int .i64 5]) (by simp[results,Tryz.results80,go_sem,y0,y1,y2,y3,y4,y5,y6,y7,y8,y9,ho]) rfl ⟨_,by rw[HE.o],?_⟩;refine⟨?_,?_,.inl rfl⟩
 ·rw[HTT.o]
  refine HT.o.below ?_
  repeat refine Below.setCell ?_ (by simp) _
  exact HB1.o
 ·repeat refine Below.setCell ?_ (by simp) _
  exact HB1.o
theorem zs2 (v:Value)(t:Tx)(n free:Int)(w:World)(hT:IsTx w v t)(r1:t.info.length*24≤140737488355328)(r2:t.data.length*24≤140737488355328)(hg:zba t=true)(ho:t.h0.on=false):
  Calls Tryz.prog 80 #[v,.int .i64 0,.int .i64 n,.int .i64 free] w fun e w'=>∃v2,e=.returned (.tuple #[v2,.int .i64 (zbb t 0 n free)])∧IsTx w' v2 (zau t 0 n free)∧Below w.heap.size w w'∧(v2=v∨za0 w.heap.size v2 (zau t 0 n free)):=by
 have hsm:=zaw hg;have hak:=zc1 hg;have HO:=zaa ho;clear ho;have HT:=zaa hT;obtain⟨a,c,a',c',r,d,rfl,hM,hD,hR,n1,n2,n3⟩:=hT;have N1:=zaa n1;have N2:=zaa n2;have N3:=zaa n3;clear hM hD hR n1 n2 n3;go_enter Tryz.func80,Tryz.ntmps80;go_wp2_with fail;refine(zb5 _ t _ (HT.o.below (zae (zab _ _) (zab _ _))) r1 r2).mono ?_;rintro e w1 ⟨rfl,hb1⟩;have hs1:w.heap.size+1<w1.heap.size:=by have:=hb1.size;simp at this;omega
 have hs1':w.heap.size<w1.heap.size:=by omega
 have K1:=zaa (zf9 hb1);have K2:=zaa (zg3 hb1);obtain⟨⟨x0,x1,x2,x3,x4,x5,x6,x7,x8,x9⟩,_⟩:=zai K1.o;obtain⟨⟨y0,y1,y2,y3,y4,y5,y6,y7,y8,y9⟩,ff⟩:=zai K2.o;have HB1:=zaa (zae (zae (zab _ _) (zab _ _)) hb1);clear hb1;have ho:=HO.o;have NG:¬zba t=false:=by rw[hg];simp
 have NO:¬(zei t 0).on=true:=by rw[show zei t 0=t.h0 from rfl,ho];simp
 have HTo:Hid (IsTx w (.agg #[.int .i64 t.seq,.slice a t.info.length c,.slice a' t.data.length c',.slice r t.rev.length d,.bool false,.int .i64 t.h0.left,.bool t.h1.on,.int .i64 t.h1.left,.bool t.h2.on,.int .i64 t.h2.left]) t):=by have:=HT.o;rw[ho] at this;exact this
 have hw:zam 0 0 2=true:=rfl
 cases hq:zam n 0 12 with
 |false=>
  have hno:n<0∨12<n:=by
   by_cases e:0≤n∧n≤12
   ·rw[zbd.2 e] at hq;cases hq
   ·omega
  have HE:Hid (zbb t 0 n free=2):=by rw[Hid,zbb,if_neg NG,if_neg (by omega),if_neg NO,if_pos hno]
  have HTT:Hid (zau t 0 n free=t):=by rw[Hid,zau,HE.o];rfl
  clear NG NO hno hak hsm;go_wp2_with (first|(go_at_call 117;refine(zbi _ _).mono ?_;rintro e w' ⟨rfl,rfl⟩)|(go_at_call 59;refine(zay _ _ _ _).mono ?_;rintro e w' ⟨rfl,rfl⟩));refine bodyPost_ret (v:=.tuple #[.agg #[.int .i64 t.seq,.slice a t.info.length c,.slice a' t.data.length c',.slice r t.rev.length d,.bool t.h0.on,.int .i64 t.h0.left,.bool t.h1.on,.int .i64 t.h1.left,.bool t.h2.on,.int .i64 t.h2.left],.int .i64 2]) (by simp[results,Tryz.results80,go_sem,y0,y1,y2,y3,y4,y5,y6,y7,y8,y9,ho]) rfl ⟨_,by rw[HE.o],?_⟩;refine⟨?_,?_,.inl rfl⟩
  ·rw[HTT.o]
   refine HT.o.below ?_
   repeat refine Below.setCell ?_ (by simp) _
   exact HB1.o
  ·repeat refine Below.setCell ?_ (by simp) _
   exact HB1.o
 |true=>
  have hnr:=zbd.1 hq;have NN:¬(n<0∨12<n):=by omega
  go_wp2_with (first|(go_at_call 117;refine(zbi _ _).mono ?_;rintro e w' ⟨rfl,rfl⟩)|(go_at_call 59;refine(zay _ _ _ _).mono ?_;rintro e w' ⟨rfl,rfl⟩));refine(zjo _ t _ (HTo.o.below HB1.o)).mono ?_;rintro e w2 ⟨rfl,hb2⟩;have hs2:w.heap.size+1<w2.heap.size:=by have:=hb2.size;omega
  have hs2':w.heap.size<w2.heap.size:=by omega
  have K1':=zaa (zad hb2 hs1' K1.o);have K2':=zaa (zad hb2 hs1 K2.o);have HB2:=zaa (zae HB1.o hb2);clear x0 x1 x2 x3 x4 x5 x6 x7 x8 x9 y0 y1 y2 y3 y4 y5 y6 y7 y8 y9 ff hb2 K1 K2 HB1;obtain⟨⟨x0,x1,x2,x3,x4,x5,x6,x7,x8,x9⟩,_⟩:=zai K1'.o;obtain⟨⟨y0,y1,y2,y3,y4,y5,y6,y7,y8,y9⟩,ff⟩:=zai K2'.o;have hlo:=hak.2.1;have hhi:=hak.2.2;have HE0:Hid (zbb t 0 n free=if 24<zb0 t+n∨free<zes (zb0 t+n) then 6 else 0):=by rw[Hid,zbb,if_neg NG,if_neg (by omega),if_neg NO,if_neg NN]
  obtain⟨q,hqq⟩:∃q,q=zb0 t:=⟨_,rfl⟩;rw[←hqq] at HE0 hlo hhi;rw[←hqq];clear hak NG NO NN hqq hq
  cases hrm:(decide (q+n≤24)&&decide (zes (q+n)≤free)) with
  |false=>
   have HE:Hid (zbb t 0 n free=6):=by
    rw[Hid,HE0.o,if_pos];by_cases e:q+n≤24
    ·rw[show decide (q+n≤24)=true from by simpa using e,Bool.true_and] at hrm
     simp at hrm;omega
    ·omega
   have HTT:Hid (zau t 0 n free=t):=by rw[Hid,zau,HE.o];rfl
   have hroom:=zhi (q+n) free w2;rw[hrm] at hroom;clear hrm HE0;go_wp2_with fail;refine hroom.mono ?_;rintro e w3 ⟨rfl,rfl⟩;go_wp2;refine bodyPost_ret (v:=.tuple #[.agg #[.int .i64 t.seq,.slice a t.info.length c,.slice a' t.data.length c',.slice r t.rev.length d,.bool t.h0.on,.int .i64 t.h0.left,.bool t.h1.on,.int .i64 t.h1.left,.bool t.h2.on,.int .i64 t.h2.left],.int .i64 6]) (by simp[results,Tryz.results80,go_sem,y0,y1,y2,y3,y4,y5,y6,y7,y8,y9,ho]) rfl ⟨_,by rw[HE.o],?_⟩;refine⟨?_,?_,.inl rfl⟩
   ·rw[HTT.o]
    refine HT.o.below ?_
    repeat refine Below.setCell ?_ (by simp) _
    exact HB2.o
   ·repeat refine Below.setCell ?_ (by simp) _
    exact HB2.o
  |true=>
   have HE:Hid (zbb t 0 n free=0):=by
    rw[Hid,HE0.o,if_neg];simp at hrm;omega
   have HTT:Hid (zau t 0 n free={t with h0:=⟨true,n⟩}):=by rw[Hid,zau,HE.o];rfl
   have hroom:=zhi (q+n) free w2;rw[hrm] at hroom;clear hrm HE0;go_wp2_with fail;refine hroom.mono ?_;rintro e w3 ⟨rfl,rfl⟩;go_wp2_with fail;refine(zcs _ t _ (HTo.o.below HB2.o) (by omega) (by omega) (by omega)).mono ?_;rintro e w4 ⟨va,vd,vr,rfl,hbx,hb4⟩;obtain⟨a1,c1,rfl,_,_⟩:=SegC.of_owns hbx.2.1;obtain⟨a2,c2,rfl,_,_⟩:=SegC.of_owns hbx.2.2.1;obtain⟨a3,c3,rfl,_,_⟩:=SegI.of_owns hbx.2.2.2;have BX:=zaa hbx;have hs4:=hbx.lt;have HB4:=zaa (zae HB2.o hb4);have K2'':=zaa (zad hb4 hs2 K2'.o);clear x0 x1 x2 x3 x4 x5 x6 x7 x8 x9 y0 y1 y2 y3 y4 y5 y6 y7 y8 y9 ff hb4 hbx HB2;obtain⟨⟨y0,y1,y2,y3,y4,y5,y6,y7,y8,y9⟩,ff⟩:=zai K2''.o;obtain⟨⟨z0,z1,z2,z3,z4,z5,z6,z7,z8,z9⟩,gf⟩:=zai BX.o.1;have HX:Hid (BoxTx ((w4.setCell ⟨w2.heap.size,4,none⟩ (.bool true)).setCell ⟨w2.heap.size,5,none⟩ (.int .i64 n)) w2.heap.size {t with h0:=⟨true,n⟩} (.slice a1 t.info.length c1) (.slice a2 t.data.length c2) (.slice a3 t.rev.length c3)):=(BX.o.set (t':={t with h0:=⟨true,t.h0.left⟩}) 4 (.bool true) rfl BX.o.2.1 BX.o.2.2.1 BX.o.2.2.2).set (t':={t with h0:=⟨true,n⟩}) 5 (.int .i64 n) rfl (ownsRow_setCell_below BX.o.2.1 (by simp) _) (ownsRow_setCell_below BX.o.2.2.1 (by simp) _) (ownsRow_setCell_below BX.o.2.2.2 (by simp) _);go_wp2;refine bodyPost_ret (v:=.tuple #[.agg #[.int .i64 t.seq,.slice a1 t.info.length c1,.slice a2 t.data.length c2,.slice a3 t.rev.length c3,.bool true,.int .i64 n,.bool t.h1.on,.int .i64 t.h1.left,.bool t.h2.on,.int .i64 t.h2.left],.int .i64 0]) (by simp[results,Tryz.results80,go_sem,y0,y1,y2,y3,y4,y5,y6,y7,y8,y9]) rfl ⟨_,by rw[HE.o],?_⟩;rw[HTT.o];refine⟨?_,?_,.inr (HX.o.fromR (t:={t with h0:=⟨true,n⟩}) (by omega))⟩
   ·refine BoxTx.is (t:={t with h0:=⟨true,n⟩}) (B:=w2.heap.size) ?_ N1.o N2.o N3.o
    repeat refine BoxTx.other ?_ (by simp;omega) _
    exact HX.o
   ·repeat refine Below.setCell ?_ (by simp;try omega) _
    exact HB4.o
theorem zwg (v:Value)(t:Tx)(n free:Int)(w:World)(hT:IsTx w v t)(r1:t.info.length*24≤140737488355328)(r2:t.data.length*24≤140737488355328)(hg:zba t=true)(ho:t.h1.on=true):
  Calls Tryz.prog 80 #[v,.int .i64 1,.int .i64 n,.int .i64 free] w fun e w'=>∃v2,e=.returned (.tuple #[v2,.int .i64 (zbb t 1 n free)])∧IsTx w' v2 (zau t 1 n free)∧Below w.heap.size w w'∧(v2=v∨za0 w.heap.size v2 (zau t 1 n free)):=by
 have HO:=zaa ho;clear ho;have HT:=zaa hT;obtain⟨a,c,a',c',r,d,rfl,hM,hD,hR,n1,n2,n3⟩:=hT;have N1:=zaa n1;have N2:=zaa n2;have N3:=zaa n3;clear hM hD hR n1 n2 n3;go_enter Tryz.func80,Tryz.ntmps80;go_wp2_with fail;refine(zb5 _ t _ (HT.o.below (zae (zab _ _) (zab _ _))) r1 r2).mono ?_;rintro e w1 ⟨rfl,hb1⟩;have hs1:w.heap.size+1<w1.heap.size:=by have:=hb1.size;simp at this;omega
 have hs1':w.heap.size<w1.heap.size:=by omega
 have K1:=zaa (zf9 hb1);have K2:=zaa (zg3 hb1);obtain⟨⟨x0,x1,x2,x3,x4,x5,x6,x7,x8,x9⟩,_⟩:=zai K1.o;obtain⟨⟨y0,y1,y2,y3,y4,y5,y6,y7,y8,y9⟩,ff⟩:=zai K2.o;have HB1:=zaa (zae (zae (zab _ _) (zab _ _)) hb1);clear hb1;have ho:=HO.o;have HE:Hid (zbb t 1 n free=5):=by rw[Hid,zbb,if_neg (by rw[hg];simp),if_neg (by omega),show zei t 1=t.h1 from rfl,if_pos ho]
 have HTT:Hid (zau t 1 n free=t):=by rw[Hid,zau,HE.o];rfl
 have hw:zam 1 0 2=true:=rfl;go_wp2_with (go_at_call 117;refine(zbi _ _).mono ?_;rintro e w' ⟨rfl,rfl⟩);refine bodyPost_ret (v:=.tuple #[.agg #[.int .i64 t.seq,.slice a t.info.length c,.slice a' t.data.length c',.slice r t.rev.length d,.bool t.h0.on,.int .i64 t.h0.left,.bool t.h1.on,.int .i64 t.h1.left,.bool t.h2.on,.int .i64 t.h2.left],.int .i64 5]) (by simp[results,Tryz.results80,go_sem,y0,y1,y2,y3,y4,y5,y6,y7,y8,y9,ho]) rfl ⟨_,by rw[HE.o],?_⟩;refine⟨?_,?_,.inl rfl⟩
 ·rw[HTT.o]
  refine HT.o.below ?_
  repeat refine Below.setCell ?_ (by simp) _
  exact HB1.o
 ·repeat refine Below.setCell ?_ (by simp) _
  exact HB1.o
theorem zs3 (v:Value)(t:Tx)(n free:Int)(w:World)(hT:IsTx w v t)(r1:t.info.length*24≤140737488355328)(r2:t.data.length*24≤140737488355328)(hg:zba t=true)(ho:t.h1.on=false):
  Calls Tryz.prog 80 #[v,.int .i64 1,.int .i64 n,.int .i64 free] w fun e w'=>∃v2,e=.returned (.tuple #[v2,.int .i64 (zbb t 1 n free)])∧IsTx w' v2 (zau t 1 n free)∧Below w.heap.size w w'∧(v2=v∨za0 w.heap.size v2 (zau t 1 n free)):=by
 have hsm:=zaw hg;have hak:=zc1 hg;have HO:=zaa ho;clear ho;have HT:=zaa hT;obtain⟨a,c,a',c',r,d,rfl,hM,hD,hR,n1,n2,n3⟩:=hT;have N1:=zaa n1;have N2:=zaa n2;have N3:=zaa n3;clear hM hD hR n1 n2 n3;go_enter Tryz.func80,Tryz.ntmps80;go_wp2_with fail;refine(zb5 _ t _ (HT.o.below (zae (zab _ _) (zab _ _))) r1 r2).mono ?_;rintro e w1 ⟨rfl,hb1⟩;have hs1:w.heap.size+1<w1.heap.size:=by have:=hb1.size;simp at this;omega
 have hs1':w.heap.size<w1.heap.size:=by omega
 have K1:=zaa (zf9 hb1);have K2:=zaa (zg3 hb1);obtain⟨⟨x0,x1,x2,x3,x4,x5,x6,x7,x8,x9⟩,_⟩:=zai K1.o;obtain⟨⟨y0,y1,y2,y3,y4,y5,y6,y7,y8,y9⟩,ff⟩:=zai K2.o;have HB1:=zaa (zae (zae (zab _ _) (zab _ _)) hb1);clear hb1;have ho:=HO.o;have NG:¬zba t=false:=by rw[hg];simp
 have NO:¬(zei t 1).on=true:=by rw[show zei t 1=t.h1 from rfl,ho];simp
 have HTo:Hid (IsTx w (.agg #[.int .i64 t.seq,.slice a t.info.length c,.slice a' t.data.length c',.slice r t.rev.length d,.bool t.h0.on,.int .i64 t.h0.left,.bool false,.int .i64 t.h1.left,.bool t.h2.on,.int .i64 t.h2.left]) t):=by have:=HT.o;rw[ho] at this;exact this
 have hw:zam 1 0 2=true:=rfl
 cases hq:zam n 0 12 with
 |false=>
  have hno:n<0∨12<n:=by
   by_cases e:0≤n∧n≤12
   ·rw[zbd.2 e] at hq;cases hq
   ·omega
  have HE:Hid (zbb t 1 n free=2):=by rw[Hid,zbb,if_neg NG,if_neg (by omega),if_neg NO,if_pos hno]
  have HTT:Hid (zau t 1 n free=t):=by rw[Hid,zau,HE.o];rfl
  clear NG NO hno hak hsm;go_wp2_with (first|(go_at_call 117;refine(zbi _ _).mono ?_;rintro e w' ⟨rfl,rfl⟩)|(go_at_call 59;refine(zay _ _ _ _).mono ?_;rintro e w' ⟨rfl,rfl⟩));refine bodyPost_ret (v:=.tuple #[.agg #[.int .i64 t.seq,.slice a t.info.length c,.slice a' t.data.length c',.slice r t.rev.length d,.bool t.h0.on,.int .i64 t.h0.left,.bool t.h1.on,.int .i64 t.h1.left,.bool t.h2.on,.int .i64 t.h2.left],.int .i64 2]) (by simp[results,Tryz.results80,go_sem,y0,y1,y2,y3,y4,y5,y6,y7,y8,y9,ho]) rfl ⟨_,by rw[HE.o],?_⟩;refine⟨?_,?_,.inl rfl⟩
  ·rw[HTT.o]
   refine HT.o.below ?_
   repeat refine Below.setCell ?_ (by simp) _
   exact HB1.o
  ·repeat refine Below.setCell ?_ (by simp) _
   exact HB1.o
 |true=>
  have hnr:=zbd.1 hq;have NN:¬(n<0∨12<n):=by omega
  go_wp2_with (first|(go_at_call 117;refine(zbi _ _).mono ?_;rintro e w' ⟨rfl,rfl⟩)|(go_at_call 59;refine(zay _ _ _ _).mono ?_;rintro e w' ⟨rfl,rfl⟩));refine(zjo _ t _ (HTo.o.below HB1.o)).mono ?_;rintro e w2 ⟨rfl,hb2⟩;have hs2:w.heap.size+1<w2.heap.size:=by have:=hb2.size;omega
  have hs2':w.heap.size<w2.heap.size:=by omega
  have K1':=zaa (zad hb2 hs1' K1.o);have K2':=zaa (zad hb2 hs1 K2.o);have HB2:=zaa (zae HB1.o hb2);clear x0 x1 x2 x3 x4 x5 x6 x7 x8 x9 y0 y1 y2 y3 y4 y5 y6 y7 y8 y9 ff hb2 K1 K2 HB1;obtain⟨⟨x0,x1,x2,x3,x4,x5,x6,x7,x8,x9⟩,_⟩:=zai K1'.o;obtain⟨⟨y0,y1,y2,y3,y4,y5,y6,y7,y8,y9⟩,ff⟩:=zai K2'.o;have hlo:=hak.2.1;have hhi:=hak.2.2;have HE0:Hid (zbb t 1 n free=if 24<zb0 t+n∨free<zes (zb0 t+n) then 6 else 0):=by rw[Hid,zbb,if_neg NG,if_neg (by omega),if_neg NO,if_neg NN]
  obtain⟨q,hqq⟩:∃q,q=zb0 t:=⟨_,rfl⟩;rw[←hqq] at HE0 hlo hhi;rw[←hqq];clear hak NG NO NN hqq hq
  cases hrm:(decide (q+n≤24)&&decide (zes (q+n)≤free)) with
  |false=>
   have HE:Hid (zbb t 1 n free=6):=by
    rw[Hid,HE0.o,if_pos];by_cases e:q+n≤24
    ·rw[show decide (q+n≤24)=true from by simpa using e,Bool.true_and] at hrm
     simp at hrm;omega
    ·omega
   have HTT:Hid (zau t 1 n free=t):=by rw[Hid,zau,HE.o];rfl
   have hroom:=zhi (q+n) free w2;rw[hrm] at hroom;clear hrm HE0;go_wp2_with fail;refine hroom.mono ?_;rintro e w3 ⟨rfl,rfl⟩;go_wp2;refine bodyPost_ret (v:=.tuple #[.agg #[.int .i64 t.seq,.slice a t.info.length c,.slice a' t.data.length c',.slice r t.rev.length d,.bool t.h0.on,.int .i64 t.h0.left,.bool t.h1.on,.int .i64 t.h1.left,.bool t.h2.on,.int .i64 t.h2.left],.int .i64 6]) (by simp[results,Tryz.results80,go_sem,y0,y1,y2,y3,y4,y5,y6,y7,y8,y9,ho]) rfl ⟨_,by rw[HE.o],?_⟩;refine⟨?_,?_,.inl rfl⟩
   ·rw[HTT.o]
    refine HT.o.below ?_
    repeat refine Below.setCell ?_ (by simp) _
    exact HB2.o
   ·repeat refine Below.setCell ?_ (by simp) _
    exact HB2.o
  |true=>
   have HE:Hid (zbb t 1 n free=0):=by
    rw[Hid,HE0.o,if_neg];simp at hrm;omega
   have HTT:Hid (zau t 1 n free={t with h1:=⟨true,n⟩}):=by rw[Hid,zau,HE.o];rfl
   have hroom:=zhi (q+n) free w2;rw[hrm] at hroom;clear hrm HE0;go_wp2_with fail;refine hroom.mono ?_;rintro e w3 ⟨rfl,rfl⟩;go_wp2_with fail;refine(zcs _ t _ (HTo.o.below HB2.o) (by omega) (by omega) (by omega)).mono ?_;rintro e w4 ⟨va,vd,vr,rfl,hbx,hb4⟩;obtain⟨a1,c1,rfl,_,_⟩:=SegC.of_owns hbx.2.1;obtain⟨a2,c2,rfl,_,_⟩:=SegC.of_owns hbx.2.2.1;obtain⟨a3,c3,rfl,_,_⟩:=SegI.of_owns hbx.2.2.2;have BX:=zaa hbx;have hs4:=hbx.lt;have HB4:=zaa (zae HB2.o hb4);have K2'':=zaa (zad hb4 hs2 K2'.o);clear x0 x1 x2 x3 x4 x5 x6 x7 x8 x9 y0 y1 y2 y3 y4 y5 y6 y7 y8 y9 ff hb4 hbx HB2;obtain⟨⟨y0,y1,y2,y3,y4,y5,y6,y7,y8,y9⟩,ff⟩:=zai K2''.o;obtain⟨⟨z0,z1,z2,z3,z4,z5,z6,z7,z8,z9⟩,gf⟩:=zai BX.o.1;have HX:Hid (BoxTx ((w4.setCell ⟨w2.heap.size,6,none⟩ (.bool true)).setCell ⟨w2.heap.size,7,none⟩ (.int .i64 n)) w2.heap.size {t with h1:=⟨true,n⟩} (.slice a1 t.info.length c1) (.slice a2 t.data.length c2) (.slice a3 t.rev.length c3)):=(BX.o.set (t':={t with h1:=⟨true,t.h1.left⟩}) 6 (.bool true) rfl BX.o.2.1 BX.o.2.2.1 BX.o.2.2.2).set (t':={t with h1:=⟨true,n⟩}) 7 (.int .i64 n) rfl (ownsRow_setCell_below BX.o.2.1 (by simp) _) (ownsRow_setCell_below BX.o.2.2.1 (by simp) _) (ownsRow_setCell_below BX.o.2.2.2 (by simp) _);go_wp2;refine bodyPost_ret (v:=.tuple #[.agg #[.int .i64 t.seq,.slice a1 t.info.length c1,.slice a2 t.data.length c2,.slice a3 t.rev.length c3,.bool t.h0.on,.int .i64 t.h0.left,.bool true,.int .i64 n,.bool t.h2.on,.int .i64 t.h2.left],.int .i64 0]) (by simp[results,Tryz.results80,go_sem,y0,y1,y2,y3,y4,y5,y6,y7,y8,y9]) rfl ⟨_,by rw[HE.o],?_⟩;rw[HTT.o];refine⟨?_,?_,.inr (HX.o.fromR (t:={t with h1:=⟨true,n⟩}) (by omega))⟩
   ·refine BoxTx.is (t:={t with h1:=⟨true,n⟩}) (B:=w2.heap.size) ?_ N1.o N2.o N3.o
    repeat refine BoxTx.other ?_ (by simp;omega) _
    exact HX.o
   ·repeat refine Below.setCell ?_ (by simp;try omega) _
    exact HB4.o
theorem zwh (v:Value)(t:Tx)(n free:Int)(w:World)(hT:IsTx w v t)(r1:t.info.length*24≤140737488355328)(r2:t.data.length*24≤140737488355328)(hg:zba t=true)(ho:t.h2.on=true):
  Calls Tryz.prog 80 #[v,.int .i64 2,.int .i64 n,.int .i64 free] w fun e w'=>∃v2,e=.returned (.tuple #[v2,.int .i64 (zbb t 2 n free)])∧IsTx w' v2 (zau t 2 n free)∧Below w.heap.size w w'∧(v2=v∨za0 w.heap.size v2 (zau t 2 n free)):=by
 have HO:=zaa ho;clear ho;have HT:=zaa hT;obtain⟨a,c,a',c',r,d,rfl,hM,hD,hR,n1,n2,n3⟩:=hT;have N1:=zaa n1;have N2:=zaa n2;have N3:=zaa n3;clear hM hD hR n1 n2 n3;go_enter Tryz.func80,Tryz.ntmps80;go_wp2_with fail;refine(zb5 _ t _ (HT.o.below (zae (zab _ _) (zab _ _))) r1 r2).mono ?_;rintro e w1 ⟨rfl,hb1⟩;have hs1:w.heap.size+1<w1.heap.size:=by have:=hb1.size;simp at this;omega
 have hs1':w.heap.size<w1.heap.size:=by omega
 have K1:=zaa (zf9 hb1);have K2:=zaa (zg3 hb1);obtain⟨⟨x0,x1,x2,x3,x4,x5,x6,x7,x8,x9⟩,_⟩:=zai K1.o;obtain⟨⟨y0,y1,y2,y3,y4,y5,y6,y7,y8,y9⟩,ff⟩:=zai K2.o;have HB1:=zaa (zae (zae (zab _ _) (zab _ _)) hb1);clear hb1;have ho:=HO.o;have HE:Hid (zbb t 2 n free=5):=by rw[Hid,zbb,if_neg (by rw[hg];simp),if_neg (by omega),show zei t 2=t.h2 from rfl,if_pos ho]
 have HTT:Hid (zau t 2 n free=t):=by rw[Hid,zau,HE.o];rfl
 have hw:zam 2 0 2=true:=rfl;go_wp2_with (go_at_call 117;refine(zbi _ _).mono ?_;rintro e w' ⟨rfl,rfl⟩);refine bodyPost_ret (v:=.tuple #[.agg #[.int .i64 t.seq,.slice a t.info.length c,.slice a' t.data.length c',.slice r t.rev.length d,.bool t.h0.on,.int .i64 t.h0.left,.bool t.h1.on,.int .i64 t.h1.left,.bool t.h2.on,.int .i64 t.h2.left],.int .i64 5]) (by simp[results,Tryz.results80,go_sem,y0,y1,y2,y3,y4,y5,y6,y7,y8,y9,ho]) rfl ⟨_,by rw[HE.o],?_⟩;refine⟨?_,?_,.inl rfl⟩
 ·rw[HTT.o]
  refine HT.o.below ?_
  repeat refine Below.setCell ?_ (by simp) _
  exact HB1.o
 ·repeat refine Below.setCell ?_ (by simp) _
  exact HB1.o
theorem zs4 (v:Value)(t:Tx)(n free:Int)(w:World)(hT:IsTx w v t)(r1:t.info.length*24≤140737488355328)(r2:t.data.length*24≤140737488355328)(hg:zba t=true)(ho:t.h2.on=false):
  Calls Tryz.prog 80 #[v,.int .i64 2,.int .i64 n,.int .i64 free] w fun e w'=>∃v2,e=.returned (.tuple #[v2,.int .i64 (zbb t 2 n free)])∧IsTx w' v2 (zau t 2 n free)∧Below w.heap.size w w'∧(v2=v∨za0 w.heap.size v2 (zau t 2 n free)):=by
 have hsm:=zaw hg;have hak:=zc1 hg;have HO:=zaa ho;clear ho;have HT:=zaa hT;obtain⟨a,c,a',c',r,d,rfl,hM,hD,hR,n1,n2,n3⟩:=hT;have N1:=zaa n1;have N2:=zaa n2;have N3:=zaa n3;clear hM hD hR n1 n2 n3;go_enter Tryz.func80,Tryz.ntmps80;go_wp2_with fail;refine(zb5 _ t _ (HT.o.below (zae (zab _ _) (zab _ _))) r1 r2).mono ?_;rintro e w1 ⟨rfl,hb1⟩;have hs1:w.heap.size+1<w1.heap.size:=by have:=hb1.size;simp at this;omega
 have hs1':w.heap.size<w1.heap.size:=by omega
 have K1:=zaa (zf9 hb1);have K2:=zaa (zg3 hb1);obtain⟨⟨x0,x1,x2,x3,x4,x5,x6,x7,x8,x9⟩,_⟩:=zai K1.o;obtain⟨⟨y0,y1,y2,y3,y4,y5,y6,y7,y8,y9⟩,ff⟩:=zai K2.o;have HB1:=zaa (zae (zae (zab _ _) (zab _ _)) hb1);clear hb1;have ho:=HO.o;have NG:¬zba t=false:=by rw[hg];simp
 have NO:¬(zei t 2).on=true:=by rw[show zei t 2=t.h2 from rfl,ho];simp
 have HTo:Hid (IsTx w (.agg #[.int .i64 t.seq,.slice a t.info.length c,.slice a' t.data.length c',.slice r t.rev.length d,.bool t.h0.on,.int .i64 t.h0.left,.bool t.h1.on,.int .i64 t.h1.left,.bool false,.int .i64 t.h2.left]) t):=by have:=HT.o;rw[ho] at this;exact this
 have hw:zam 2 0 2=true:=rfl
 cases hq:zam n 0 12 with
 |false=>
  have hno:n<0∨12<n:=by
   by_cases e:0≤n∧n≤12
   ·rw[zbd.2 e] at hq;cases hq
   ·omega
  have HE:Hid (zbb t 2 n free=2):=by rw[Hid,zbb,if_neg NG,if_neg (by omega),if_neg NO,if_pos hno]
  have HTT:Hid (zau t 2 n free=t):=by rw[Hid,zau,HE.o];rfl
  clear NG NO hno hak hsm;go_wp2_with (first|(go_at_call 117;refine(zbi _ _).mono ?_;rintro e w' ⟨rfl,rfl⟩)|(go_at_call 59;refine(zay _ _ _ _).mono ?_;rintro e w' ⟨rfl,rfl⟩));refine bodyPost_ret (v:=.tuple #[.agg #[.int .i64 t.seq,.slice a t.info.length c,.slice a' t.data.length c',.slice r t.rev.length d,.bool t.h0.on,.int .i64 t.h0.left,.bool t.h1.on,.int .i64 t.h1.left,.bool t.h2.on,.int .i64 t.h2.left],.int .i64 2]) (by simp[results,Tryz.results80,go_sem,y0,y1,y2,y3,y4,y5,y6,y7,y8,y9,ho]) rfl ⟨_,by rw[HE.o],?_⟩;refine⟨?_,?_,.inl rfl⟩
  ·rw[HTT.o]
   refine HT.o.below ?_
   repeat refine Below.setCell ?_ (by simp) _
   exact HB1.o
  ·repeat refine Below.setCell ?_ (by simp) _
   exact HB1.o
 |true=>
  have hnr:=zbd.1 hq;have NN:¬(n<0∨12<n):=by omega
  go_wp2_with (first|(go_at_call 117;refine(zbi _ _).mono ?_;rintro e w' ⟨rfl,rfl⟩)|(go_at_call 59;refine(zay _ _ _ _).mono ?_;rintro e w' ⟨rfl,rfl⟩));refine(zjo _ t _ (HTo.o.below HB1.o)).mono ?_;rintro e w2 ⟨rfl,hb2⟩;have hs2:w.heap.size+1<w2.heap.size:=by have:=hb2.size;omega
  have hs2':w.heap.size<w2.heap.size:=by omega
  have K1':=zaa (zad hb2 hs1' K1.o);have K2':=zaa (zad hb2 hs1 K2.o);have HB2:=zaa (zae HB1.o hb2);clear x0 x1 x2 x3 x4 x5 x6 x7 x8 x9 y0 y1 y2 y3 y4 y5 y6 y7 y8 y9 ff hb2 K1 K2 HB1;obtain⟨⟨x0,x1,x2,x3,x4,x5,x6,x7,x8,x9⟩,_⟩:=zai K1'.o;obtain⟨⟨y0,y1,y2,y3,y4,y5,y6,y7,y8,y9⟩,ff⟩:=zai K2'.o;have hlo:=hak.2.1;have hhi:=hak.2.2;have HE0:Hid (zbb t 2 n free=if 24<zb0 t+n∨free<zes (zb0 t+n) then 6 else 0):=by rw[Hid,zbb,if_neg NG,if_neg (by omega),if_neg NO,if_neg NN]
  obtain⟨q,hqq⟩:∃q,q=zb0 t:=⟨_,rfl⟩;rw[←hqq] at HE0 hlo hhi;rw[←hqq];clear hak NG NO NN hqq hq
  cases hrm:(decide (q+n≤24)&&decide (zes (q+n)≤free)) with
  |false=>
   have HE:Hid (zbb t 2 n free=6):=by
    rw[Hid,HE0.o,if_pos];by_cases e:q+n≤24
    ·rw[show decide (q+n≤24)=true from by simpa using e,Bool.true_and] at hrm
     simp at hrm;omega
    ·omega
   have HTT:Hid (zau t 2 n free=t):=by rw[Hid,zau,HE.o];rfl
   have hroom:=zhi (q+n) free w2;rw[hrm] at hroom;clear hrm HE0;go_wp2_with fail;refine hroom.mono ?_;rintro e w3 ⟨rfl,rfl⟩;go_wp2;refine bodyPost_ret (v:=.tuple #[.agg #[.int .i64 t.seq,.slice a t.info.length c,.slice a' t.data.length c',.slice r t.rev.length d,.bool t.h0.on,.int .i64 t.h0.left,.bool t.h1.on,.int .i64 t.h1.left,.bool t.h2.on,.int .i64 t.h2.left],.int .i64 6]) (by simp[results,Tryz.results80,go_sem,y0,y1,y2,y3,y4,y5,y6,y7,y8,y9,ho]) rfl ⟨_,by rw[HE.o],?_⟩;refine⟨?_,?_,.inl rfl⟩
   ·rw[HTT.o]
    refine HT.o.below ?_
    repeat refine Below.setCell ?_ (by simp) _
    exact HB2.o
   ·repeat refine Below.setCell ?_ (by simp) _
    exact HB2.o
  |true=>
   have HE:Hid (zbb t 2 n free=0):=by
    rw[Hid,HE0.o,if_neg];simp at hrm;omega
   have HTT:Hid (zau t 2 n free={t with h2:=⟨true,n⟩}):=by rw[Hid,zau,HE.o];rfl
   have hroom:=zhi (q+n) free w2;rw[hrm] at hroom;clear hrm HE0;go_wp2_with fail;refine hroom.mono ?_;rintro e w3 ⟨rfl,rfl⟩;go_wp2_with fail;refine(zcs _ t _ (HTo.o.below HB2.o) (by omega) (by omega) (by omega)).mono ?_;rintro e w4 ⟨va,vd,vr,rfl,hbx,hb4⟩;obtain⟨a1,c1,rfl,_,_⟩:=SegC.of_owns hbx.2.1;obtain⟨a2,c2,rfl,_,_⟩:=SegC.of_owns hbx.2.2.1;obtain⟨a3,c3,rfl,_,_⟩:=SegI.of_owns hbx.2.2.2;have BX:=zaa hbx;have hs4:=hbx.lt;have HB4:=zaa (zae HB2.o hb4);have K2'':=zaa (zad hb4 hs2 K2'.o);clear x0 x1 x2 x3 x4 x5 x6 x7 x8 x9 y0 y1 y2 y3 y4 y5 y6 y7 y8 y9 ff hb4 hbx HB2;obtain⟨⟨y0,y1,y2,y3,y4,y5,y6,y7,y8,y9⟩,ff⟩:=zai K2''.o;obtain⟨⟨z0,z1,z2,z3,z4,z5,z6,z7,z8,z9⟩,gf⟩:=zai BX.o.1;have HX:Hid (BoxTx ((w4.setCell ⟨w2.heap.size,8,none⟩ (.bool true)).setCell ⟨w2.heap.size,9,none⟩ (.int .i64 n)) w2.heap.size {t with h2:=⟨true,n⟩} (.slice a1 t.info.length c1) (.slice a2 t.data.length c2) (.slice a3 t.rev.length c3)):=(BX.o.set (t':={t with h2:=⟨true,t.h2.left⟩}) 8 (.bool true) rfl BX.o.2.1 BX.o.2.2.1 BX.o.2.2.2).set (t':={t with h2:=⟨true,n⟩}) 9 (.int .i64 n) rfl (ownsRow_setCell_below BX.o.2.1 (by simp) _) (ownsRow_setCell_below BX.o.2.2.1 (by simp) _) (ownsRow_setCell_below BX.o.2.2.2 (by simp) _);go_wp2;refine bodyPost_ret (v:=.tuple #[.agg #[.int .i64 t.seq,.slice a1 t.info.length c1,.slice a2 t.data.length c2,.slice a3 t.rev.length c3,.bool t.h0.on,.int .i64 t.h0.left,.bool t.h1.on,.int .i64 t.h1.left,.bool true,.int .i64 n],.int .i64 0]) (by simp[results,Tryz.results80,go_sem,y0,y1,y2,y3,y4,y5,y6,y7,y8,y9]) rfl ⟨_,by rw[HE.o],?_⟩;rw[HTT.o];refine⟨?_,?_,.inr (HX.o.fromR (t:={t with h2:=⟨true,n⟩}) (by omega))⟩
   ·refine BoxTx.is (t:={t with h2:=⟨true,n⟩}) (B:=w2.heap.size) ?_ N1.o N2.o N3.o
    repeat refine BoxTx.other ?_ (by simp;omega) _
    exact HX.o
   ·repeat refine Below.setCell ?_ (by simp;try omega) _
    exact HB4.o
theorem zs5 (v:Value)(t:Tx)(h n free:Int)(w:World)(hT:IsTx w v t)(r1:t.info.length*24≤140737488355328)(r2:t.data.length*24≤140737488355328):
  Calls Tryz.prog 80 #[v,.int .i64 h,.int .i64 n,.int .i64 free] w fun e w'=>∃v2,e=.returned (.tuple #[v2,.int .i64 (zbb t h n free)])∧IsTx w' v2 (zau t h n free)∧Below w.heap.size w w'∧(v2=v∨za0 w.heap.size v2 (zau t h n free)):=by
 cases hg:zba t with
 |false=>exact zwe v t h n free w hT r1 r2 hg
 |true=>
  cases hw:zam h 0 2 with
  |false=>exact zs1 v t h n free w hT r1 r2 hg hw
  |true=>
   have hr:=zbd.1 hw;have hc:h=0∨h=1∨h=2:=by omega
   rcases hc with rfl|rfl|rfl
   ·cases ho:t.h0.on with
    |true=>exact zwf v t n free w hT r1 r2 hg ho
    |false=>exact zs2 v t n free w hT r1 r2 hg ho
   ·cases ho:t.h1.on with
    |true=>exact zwg v t n free w hT r1 r2 hg ho
    |false=>exact zs3 v t n free w hT r1 r2 hg ho
   ·cases ho:t.h2.on with
    |true=>exact zwh v t n free w hT r1 r2 hg ho
    |false=>exact zs4 v t n free w hT r1 r2 hg ho
def zh9 (t:Tx)(h b:Int):Tx:=if nameE t h b=0 then nameT t h b else t
theorem z4i (B:Nat)(t:Tx)(va vd vr:Value)(b:Int)(w:World)(hbx:BoxTx w B t va vd vr)(r1:t.info.length≤1000)(r2:t.data.length≤1000)(r3:t.rev.length≤1000)(hl:0≤t.h0.left∧t.h0.left≤24):
  Calls Tryz.prog 154 #[.pointer (some ⟨B,0,none⟩),.int .i64 0,.int .i64 b] w fun e w'=>e=.returned (.int .i64 (nameE t 0 b))∧BoxTx w' B (zh9 t 0 b) va vd vr∧Below B w w':=by
 have HT:=zaa (hbx.is (by unfold maxLen;omega) (by unfold maxLen;omega) (by unfold maxLen;omega));obtain⟨a1,c1,rfl,_,_⟩:=SegC.of_owns hbx.2.1;obtain⟨a2,c2,rfl,_,_⟩:=SegC.of_owns hbx.2.2.1;obtain⟨a3,c3,rfl,_,_⟩:=SegI.of_owns hbx.2.2.2;have BX:=zaa hbx;have hlt:=hbx.lt;clear hbx r1 r2 r3;obtain⟨⟨z0,z1,z2,z3,z4,z5,z6,z7,z8,z9⟩,gf⟩:=zai BX.o.1;go_enter Tryz.func154,Tryz.ntmps154;go_wp2_with fail;refine(zgq _ t b _ HT.o).mono ?_;rintro e w1 ⟨rfl,hb1⟩;have BX1:=zaa (BX.o.below hb1);have HB1:Hid (Below B w w1):=hb1.mono (by omega);clear z0 z1 z2 z3 z4 z5 z6 z7 z8 z9 gf hb1;obtain⟨⟨z0,z1,z2,z3,z4,z5,z6,z7,z8,z9⟩,gf⟩:=zai BX1.o.1
 cases hn:zcm t b with
 |true=>
  have HE:Hid (nameE t 0 b=0):=by rw[Hid,nameE,if_pos hn]
  have HN:Hid (nameT t 0 b=t):=by rw[Hid,nameT,if_pos hn]
  go_wp2;go_ret;exact⟨by rw[HE.o];rfl,by rw[zh9,if_pos HE.o,HN.o];exact BX1.o,HB1.o⟩
 |false=>
  by_cases h0:t.h0.left=0
  ·have HE:Hid (nameE t 0 b=7):=by rw[Hid,nameE,if_neg (by rw[hn];simp),if_pos (show(zei t 0).left=0 from h0)]
   have H0:=zaa h0;clear hn;go_wp2;go_ret;exact⟨by rw[HE.o];rfl,by rw[zh9,if_neg (by rw[HE.o];decide)];exact BX1.o,HB1.o⟩
  ·have HE:Hid (nameE t 0 b=0):=by rw[Hid,nameE,if_neg (by rw[hn];simp),if_neg (show¬(zei t 0).left=0 from h0)]
   have HN:Hid (nameT t 0 b={t with h0:=⟨t.h0.on,t.h0.left - 1⟩}):=by rw[Hid,nameT,if_neg (by rw[hn];simp)];rfl
   go_wp2;go_ret;refine⟨by rw[HE.o];rfl,?_,HB1.o.setCell (by simp) _⟩;rw[zh9,if_pos HE.o,HN.o];exact BX1.o.set (t':={t with h0:=⟨t.h0.on,t.h0.left - 1⟩}) 5 (.int .i64 (t.h0.left - 1)) rfl BX1.o.2.1 BX1.o.2.2.1 BX1.o.2.2.2
theorem z4j (B:Nat)(t:Tx)(va vd vr:Value)(b:Int)(w:World)(hbx:BoxTx w B t va vd vr)(r1:t.info.length≤1000)(r2:t.data.length≤1000)(r3:t.rev.length≤1000)(hl:0≤t.h1.left∧t.h1.left≤24):
  Calls Tryz.prog 154 #[.pointer (some ⟨B,0,none⟩),.int .i64 1,.int .i64 b] w fun e w'=>e=.returned (.int .i64 (nameE t 1 b))∧BoxTx w' B (zh9 t 1 b) va vd vr∧Below B w w':=by
 have HT:=zaa (hbx.is (by unfold maxLen;omega) (by unfold maxLen;omega) (by unfold maxLen;omega));obtain⟨a1,c1,rfl,_,_⟩:=SegC.of_owns hbx.2.1;obtain⟨a2,c2,rfl,_,_⟩:=SegC.of_owns hbx.2.2.1;obtain⟨a3,c3,rfl,_,_⟩:=SegI.of_owns hbx.2.2.2;have BX:=zaa hbx;have hlt:=hbx.lt;clear hbx r1 r2 r3;obtain⟨⟨z0,z1,z2,z3,z4,z5,z6,z7,z8,z9⟩,gf⟩:=zai BX.o.1;go_enter Tryz.func154,Tryz.ntmps154;go_wp2_with fail;refine(zgq _ t b _ HT.o).mono ?_;rintro e w1 ⟨rfl,hb1⟩;have BX1:=zaa (BX.o.below hb1);have HB1:Hid (Below B w w1):=hb1.mono (by omega);clear z0 z1 z2 z3 z4 z5 z6 z7 z8 z9 gf hb1;obtain⟨⟨z0,z1,z2,z3,z4,z5,z6,z7,z8,z9⟩,gf⟩:=zai BX1.o.1
 cases hn:zcm t b with
 |true=>
  have HE:Hid (nameE t 1 b=0):=by rw[Hid,nameE,if_pos hn]
  have HN:Hid (nameT t 1 b=t):=by rw[Hid,nameT,if_pos hn]
  go_wp2;go_ret;exact⟨by rw[HE.o];rfl,by rw[zh9,if_pos HE.o,HN.o];exact BX1.o,HB1.o⟩
 |false=>
  by_cases h0:t.h1.left=0
  ·have HE:Hid (nameE t 1 b=7):=by rw[Hid,nameE,if_neg (by rw[hn];simp),if_pos (show(zei t 1).left=0 from h0)]
   have H0:=zaa h0;clear hn;go_wp2;go_ret;exact⟨by rw[HE.o];rfl,by rw[zh9,if_neg (by rw[HE.o];decide)];exact BX1.o,HB1.o⟩
  ·have HE:Hid (nameE t 1 b=0):=by rw[Hid,nameE,if_neg (by rw[hn];simp),if_neg (show¬(zei t 1).left=0 from h0)]
   have HN:Hid (nameT t 1 b={t with h1:=⟨t.h1.on,t.h1.left - 1⟩}):=by rw[Hid,nameT,if_neg (by rw[hn];simp)];rfl
   go_wp2;go_ret;refine⟨by rw[HE.o];rfl,?_,HB1.o.setCell (by simp) _⟩;rw[zh9,if_pos HE.o,HN.o];exact BX1.o.set (t':={t with h1:=⟨t.h1.on,t.h1.left - 1⟩}) 7 (.int .i64 (t.h1.left - 1)) rfl BX1.o.2.1 BX1.o.2.2.1 BX1.o.2.2.2
theorem z4k (B:Nat)(t:Tx)(va vd vr:Value)(b:Int)(w:World)(hbx:BoxTx w B t va vd vr)(r1:t.info.length≤1000)(r2:t.data.length≤1000)(r3:t.rev.length≤1000)(hl:0≤t.h2.left∧t.h2.left≤24):
  Calls Tryz.prog 154 #[.pointer (some ⟨B,0,none⟩),.int .i64 2,.int .i64 b] w fun e w'=>e=.returned (.int .i64 (nameE t 2 b))∧BoxTx w' B (zh9 t 2 b) va vd vr∧Below B w w':=by
 have HT:=zaa (hbx.is (by unfold maxLen;omega) (by unfold maxLen;omega) (by unfold maxLen;omega));obtain⟨a1,c1,rfl,_,_⟩:=SegC.of_owns hbx.2.1;obtain⟨a2,c2,rfl,_,_⟩:=SegC.of_owns hbx.2.2.1;obtain⟨a3,c3,rfl,_,_⟩:=SegI.of_owns hbx.2.2.2;have BX:=zaa hbx;have hlt:=hbx.lt;clear hbx r1 r2 r3;obtain⟨⟨z0,z1,z2,z3,z4,z5,z6,z7,z8,z9⟩,gf⟩:=zai BX.o.1;go_enter Tryz.func154,Tryz.ntmps154;go_wp2_with fail;refine(zgq _ t b _ HT.o).mono ?_;rintro e w1 ⟨rfl,hb1⟩;have BX1:=zaa (BX.o.below hb1);have HB1:Hid (Below B w w1):=hb1.mono (by omega);clear z0 z1 z2 z3 z4 z5 z6 z7 z8 z9 gf hb1;obtain⟨⟨z0,z1,z2,z3,z4,z5,z6,z7,z8,z9⟩,gf⟩:=zai BX1.o.1
 cases hn:zcm t b with
 |true=>
  have HE:Hid (nameE t 2 b=0):=by rw[Hid,nameE,if_pos hn]
  have HN:Hid (nameT t 2 b=t):=by rw[Hid,nameT,if_pos hn]
  go_wp2;go_ret;exact⟨by rw[HE.o];rfl,by rw[zh9,if_pos HE.o,HN.o];exact BX1.o,HB1.o⟩
 |false=>
  by_cases h0:t.h2.left=0
  ·have HE:Hid (nameE t 2 b=7):=by rw[Hid,nameE,if_neg (by rw[hn];simp),if_pos (show(zei t 2).left=0 from h0)]
   have H0:=zaa h0;clear hn;go_wp2;go_ret;exact⟨by rw[HE.o];rfl,by rw[zh9,if_neg (by rw[HE.o];decide)];exact BX1.o,HB1.o⟩
  ·have HE:Hid (nameE t 2 b=0):=by rw[Hid,nameE,if_neg (by rw[hn];simp),if_neg (show¬(zei t 2).left=0 from h0)]
   have HN:Hid (nameT t 2 b={t with h2:=⟨t.h2.on,t.h2.left - 1⟩}):=by rw[Hid,nameT,if_neg (by rw[hn];simp)];rfl
   go_wp2;go_ret;refine⟨by rw[HE.o];rfl,?_,HB1.o.setCell (by simp) _⟩;rw[zh9,if_pos HE.o,HN.o];exact BX1.o.set (t':={t with h2:=⟨t.h2.on,t.h2.left - 1⟩}) 9 (.int .i64 (t.h2.left - 1)) rfl BX1.o.2.1 BX1.o.2.2.1 BX1.o.2.2.2
theorem zk0 (B:Nat)(t:Tx)(va vd vr:Value)(h b:Int)(w:World)(hbx:BoxTx w B t va vd vr)(hg:zba t=true)(hh:h=0∨h=1∨h=2):
  Calls Tryz.prog 154 #[.pointer (some ⟨B,0,none⟩),.int .i64 h,.int .i64 b] w fun e w'=>e=.returned (.int .i64 (nameE t h b))∧BoxTx w' B (zh9 t h b) va vd vr∧Below B w w':=by
 have hs:=zaw hg;rcases hh with rfl|rfl|rfl
 ·have:=(zeh _).1 (zlp hg 0)
  exact z4i B t va vd vr b w hbx (by omega) (by omega) (by omega) ⟨this.1,this.2.1⟩
 ·have:=(zeh _).1 (zlp hg 1)
  exact z4j B t va vd vr b w hbx (by omega) (by omega) (by omega) ⟨this.1,this.2.1⟩
 ·have:=(zeh _).1 (zlp hg 2)
  exact z4k B t va vd vr b w hbx (by omega) (by omega) (by omega) ⟨this.1,this.2.1⟩
theorem zjq {α:Type}(key:α→Int)(l:List α)(b:Int)(x:α):(zbr key l b x).length≤2*l.length+1:=by
 have h1:=List.length_filter_le (fun y=>decide (key y<b)) l;have h2:=List.length_filter_le (fun y=>decide (b<key y)) l;simp[zbr];omega
theorem zib {α:Type}(key:α→Int)(l:List α)(b:Int):(za2 key l b).length≤2*l.length:=by
 have h1:=List.length_filter_le (fun y=>decide (key y<b)) l;have h2:=List.length_filter_le (fun y=>decide (b<key y)) l;simp[za2];omega
theorem zwi (v:Value)(t:Tx)(h b:Int)(s:ByteArray)(w:World)(hT:IsTx w v t)(r1:t.info.length*24≤140737488355328)(r2:t.data.length*24≤140737488355328)(hr:¬reachE t h b=0):
  Calls Tryz.prog 121 #[v,.int .i64 h,.int .i64 b,.string s] w fun e w'=>∃v2,e=.returned (.tuple #[v2,.int .i64 (changeE t h b s)])∧IsTx w' v2 (zaf t h b s)∧Below w.heap.size w w'∧(v2=v∨za0 w.heap.size v2 (zaf t h b s)):=by
 have HT:=zaa hT;obtain⟨a,c,a',c',r,d,rfl,hM,hD,hR,n1,n2,n3⟩:=hT;have HM:=zaa hM;have HD:=zaa hD;have HR:=zaa hR;have N1:=zaa n1;have N2:=zaa n2;have N3:=zaa n3;clear hM hD hR n1 n2 n3;go_enter Tryz.func121,Tryz.ntmps121;go_wp2_with fail;refine(zcd _ t h b _ (HT.o.below (zae (zab _ _) (zab _ _))) r1 r2).mono ?_;rintro e w1 ⟨rfl,hb1⟩;have hs1:w.heap.size+1<w1.heap.size:=by have:=hb1.size;simp at this;omega
 have hs1':w.heap.size<w1.heap.size:=by omega
 have K1:=zaa (zf9 hb1);have K2:=zaa (zg3 hb1);obtain⟨⟨x0,x1,x2,x3,x4,x5,x6,x7,x8,x9⟩,_⟩:=zai K1.o;obtain⟨⟨y0,y1,y2,y3,y4,y5,y6,y7,y8,y9⟩,ff⟩:=zai K2.o;have HB1:=zaa (zae (zae (zab _ _) (zab _ _)) hb1);clear hb1;have HE:Hid (changeE t h b s=reachE t h b):=by rw[Hid,changeE,if_pos hr]
 have HTT:Hid (zaf t h b s=t):=by rw[Hid,zaf,if_neg (by rw[HE.o];exact hr)]
 generalize reachE t h b=z at *;go_wp2;refine bodyPost_ret (v:=.tuple #[.agg #[.int .i64 t.seq,.slice a t.info.length c,.slice a' t.data.length c',.slice r t.rev.length d,.bool t.h0.on,.int .i64 t.h0.left,.bool t.h1.on,.int .i64 t.h1.left,.bool t.h2.on,.int .i64 t.h2.left],.int .i64 z]) (by simp[results,Tryz.results121,go_sem,y0,y1,y2,y3,y4,y5,y6,y7,y8,y9]) rfl ⟨_,by rw[HE.o],?_⟩;refine⟨?_,?_,.inl rfl⟩
 ·rw[HTT.o]
  refine HT.o.below ?_
  repeat refine Below.setCell ?_ (by simp) _
  exact HB1.o
 ·repeat refine Below.setCell ?_ (by simp) _
  exact HB1.o
theorem zqy (v:Value)(t:Tx)(h b:Int)(s:ByteArray)(w:World)(hT:IsTx w v t)(r1:t.info.length*24≤140737488355328)(r2:t.data.length*24≤140737488355328)(hr:reachE t h b=0)(hs:za9 s=false):
  Calls Tryz.prog 121 #[v,.int .i64 h,.int .i64 b,.string s] w fun e w'=>∃v2,e=.returned (.tuple #[v2,.int .i64 (changeE t h b s)])∧IsTx w' v2 (zaf t h b s)∧Below w.heap.size w w'∧(v2=v∨za0 w.heap.size v2 (zaf t h b s)):=by
 have HT:=zaa hT;obtain⟨a,c,a',c',r,d,rfl,hM,hD,hR,n1,n2,n3⟩:=hT;have HM:=zaa hM;have HD:=zaa hD;have HR:=zaa hR;have N1:=zaa n1;have N2:=zaa n2;have N3:=zaa n3;clear hM hD hR n1 n2 n3;go_enter Tryz.func121,Tryz.ntmps121;go_wp2_with fail;refine(zcd _ t h b _ (HT.o.below (zae (zab _ _) (zab _ _))) r1 r2).mono ?_;rintro e w1 ⟨rfl,hb1⟩;have hs1:w.heap.size+1<w1.heap.size:=by have:=hb1.size;simp at this;omega
 have hs1':w.heap.size<w1.heap.size:=by omega
 have K1:=zaa (zf9 hb1);have K2:=zaa (zg3 hb1);obtain⟨⟨x0,x1,x2,x3,x4,x5,x6,x7,x8,x9⟩,_⟩:=zai K1.o;obtain⟨⟨y0,y1,y2,y3,y4,y5,y6,y7,y8,y9⟩,ff⟩:=zai K2.o;have HB1:=zaa (zae (zae (zab _ _) (zab _ _)) hb1);clear hb1;have HE:Hid (changeE t h b s=1):=by rw[Hid,changeE,if_neg (by rw[hr];simp),if_pos hs]
 have HTT:Hid (zaf t h b s=t):=by rw[Hid,zaf,if_neg (by rw[HE.o];decide)]
 have hz:¬(s.size:Int)=32:=by simpa[za9] using hs
 clear hs;go_wp2;refine bodyPost_ret (v:=.tuple #[.agg #[.int .i64 t.seq,.slice a t.info.length c,.slice a' t.data.length c',.slice r t.rev.length d,.bool t.h0.on,.int .i64 t.h0.left,.bool t.h1.on,.int .i64 t.h1.left,.bool t.h2.on,.int .i64 t.h2.left],.int .i64 1]) (by simp[results,Tryz.results121,go_sem,y0,y1,y2,y3,y4,y5,y6,y7,y8,y9]) rfl ⟨_,by rw[HE.o],?_⟩;refine⟨?_,?_,.inl rfl⟩
 ·rw[HTT.o]
  refine HT.o.below ?_
  repeat refine Below.setCell ?_ (by simp) _
  exact HB1.o
 ·repeat refine Below.setCell ?_ (by simp) _
  exact HB1.o
theorem zqz (v:Value)(t:Tx)(h b:Int)(s:ByteArray)(w:World)(hT:IsTx w v t)(r1:t.info.length*24≤140737488355328)(r2:t.data.length*24≤140737488355328)(hr:reachE t h b=0)(hs:za9 s=true)(hd:(zas b t.data).isSome=true):
  Calls Tryz.prog 121 #[v,.int .i64 h,.int .i64 b,.string s] w fun e w'=>∃v2,e=.returned (.tuple #[v2,.int .i64 (changeE t h b s)])∧IsTx w' v2 (zaf t h b s)∧Below w.heap.size w w'∧(v2=v∨za0 w.heap.size v2 (zaf t h b s)):=by
 have HT:=zaa hT;obtain⟨a,c,a',c',r,d,rfl,hM,hD,hR,n1,n2,n3⟩:=hT;have HM:=zaa hM;have HD:=zaa hD;have HR:=zaa hR;have N1:=zaa n1;have N2:=zaa n2;have N3:=zaa n3;clear hM hD hR n1 n2 n3;go_enter Tryz.func121,Tryz.ntmps121;go_wp2_with fail;refine(zcd _ t h b _ (HT.o.below (zae (zab _ _) (zab _ _))) r1 r2).mono ?_;rintro e w1 ⟨rfl,hb1⟩;have hs1:w.heap.size+1<w1.heap.size:=by have:=hb1.size;simp at this;omega
 have hs1':w.heap.size<w1.heap.size:=by omega
 have K1:=zaa (zf9 hb1);have K2:=zaa (zg3 hb1);obtain⟨⟨x0,x1,x2,x3,x4,x5,x6,x7,x8,x9⟩,_⟩:=zai K1.o;obtain⟨⟨y0,y1,y2,y3,y4,y5,y6,y7,y8,y9⟩,ff⟩:=zai K2.o;have HB1:=zaa (zae (zae (zab _ _) (zab _ _)) hb1);clear hb1;have HE:Hid (changeE t h b s=8):=by rw[Hid,changeE,if_neg (by rw[hr];simp),if_neg (by rw[hs];simp),if_pos hd]
 have HTT:Hid (zaf t h b s=t):=by rw[Hid,zaf,if_neg (by rw[HE.o];decide)]
 have hz:(s.size:Int)=32:=by simpa[za9] using hs
 clear hs;go_wp2_with fail;refine(zix a' c' t.data b _ (HD.o.below HB1.o) N2.o).mono ?_;rintro e w2 ⟨rfl,hb2⟩;have hs2:w.heap.size+1<w2.heap.size:=by have:=hb2.size;omega
 have hs2':w.heap.size<w2.heap.size:=by omega
 have K1':=zaa (zad hb2 hs1' K1.o);have K2':=zaa (zad hb2 hs1 K2.o);have HB2:=zaa (zae HB1.o hb2);clear x0 x1 x2 x3 x4 x5 x6 x7 x8 x9 y0 y1 y2 y3 y4 y5 y6 y7 y8 y9 ff hb2 K1 K2 HB1;obtain⟨⟨x0,x1,x2,x3,x4,x5,x6,x7,x8,x9⟩,_⟩:=zai K1'.o;obtain⟨⟨y0,y1,y2,y3,y4,y5,y6,y7,y8,y9⟩,ff⟩:=zai K2'.o;go_wp2;refine bodyPost_ret (v:=.tuple #[.agg #[.int .i64 t.seq,.slice a t.info.length c,.slice a' t.data.length c',.slice r t.rev.length d,.bool t.h0.on,.int .i64 t.h0.left,.bool t.h1.on,.int .i64 t.h1.left,.bool t.h2.on,.int .i64 t.h2.left],.int .i64 8]) (by simp[results,Tryz.results121,go_sem,y0,y1,y2,y3,y4,y5,y6,y7,y8,y9]) rfl ⟨_,by rw[HE.o],?_⟩;refine⟨?_,?_,.inl rfl⟩
 ·rw[HTT.o]
  refine HT.o.below ?_
  repeat refine Below.setCell ?_ (by simp) _
  exact HB2.o
 ·repeat refine Below.setCell ?_ (by simp) _
  exact HB2.o
theorem zml (v:Value)(t:Tx)(h b:Int)(s:ByteArray)(w:World)(hT:IsTx w v t)(r1:t.info.length*24≤140737488355328)(r2:t.data.length*24≤140737488355328)(hr:reachE t h b=0)(hs:za9 s=true)(hd:(zas b t.data).isSome=false)(hn:¬nameE t h b=0):
  Calls Tryz.prog 121 #[v,.int .i64 h,.int .i64 b,.string s] w fun e w'=>∃v2,e=.returned (.tuple #[v2,.int .i64 (changeE t h b s)])∧IsTx w' v2 (zaf t h b s)∧Below w.heap.size w w'∧(v2=v∨za0 w.heap.size v2 (zaf t h b s)):=by
 have hrk:=zc2 hr;have hg:=hrk.1;have hh:=hrk.2.1;clear hrk;have hsm:=zaw hg;have HT:=zaa hT;obtain⟨a,c,a',c',r,d,rfl,hM,hD,hR,n1,n2,n3⟩:=hT;have HM:=zaa hM;have HD:=zaa hD;have HR:=zaa hR;have N1:=zaa n1;have N2:=zaa n2;have N3:=zaa n3;clear hM hD hR n1 n2 n3;go_enter Tryz.func121,Tryz.ntmps121;go_wp2_with fail;refine(zcd _ t h b _ (HT.o.below (zae (zab _ _) (zab _ _))) r1 r2).mono ?_;rintro e w1 ⟨rfl,hb1⟩;have hs1:w.heap.size+1<w1.heap.size:=by have:=hb1.size;simp at this;omega
 have hs1':w.heap.size<w1.heap.size:=by omega
 have K1:=zaa (zf9 hb1);have K2:=zaa (zg3 hb1);obtain⟨⟨x0,x1,x2,x3,x4,x5,x6,x7,x8,x9⟩,_⟩:=zai K1.o;obtain⟨⟨y0,y1,y2,y3,y4,y5,y6,y7,y8,y9⟩,ff⟩:=zai K2.o;have HB1:=zaa (zae (zae (zab _ _) (zab _ _)) hb1);clear hb1;have HE:Hid (changeE t h b s=nameE t h b):=by rw[Hid,changeE,if_neg (by rw[hr];simp),if_neg (by rw[hs];simp),if_neg (by rw[hd];simp)]
 have HTT:Hid (zaf t h b s=t):=by rw[Hid,zaf,if_neg (by rw[HE.o];exact hn)]
 have hz:(s.size:Int)=32:=by simpa[za9] using hs
 clear hs;go_wp2_with fail;refine(zix a' c' t.data b _ (HD.o.below HB1.o) N2.o).mono ?_;rintro e w2 ⟨rfl,hb2⟩;have hs2:w.heap.size+1<w2.heap.size:=by have:=hb2.size;omega
 have hs2':w.heap.size<w2.heap.size:=by omega
 have K1':=zaa (zad hb2 hs1' K1.o);have K2':=zaa (zad hb2 hs1 K2.o);have HB2:=zaa (zae HB1.o hb2);clear x0 x1 x2 x3 x4 x5 x6 x7 x8 x9 y0 y1 y2 y3 y4 y5 y6 y7 y8 y9 ff hb2 K1 K2 HB1;obtain⟨⟨x0,x1,x2,x3,x4,x5,x6,x7,x8,x9⟩,_⟩:=zai K1'.o;obtain⟨⟨y0,y1,y2,y3,y4,y5,y6,y7,y8,y9⟩,ff⟩:=zai K2'.o;go_wp2_with fail;refine(zcs _ t _ (HT.o.below HB2.o) (by omega) (by omega) (by omega)).mono ?_;rintro e w4 ⟨va,vd,vr,rfl,hbx,hb4⟩;obtain⟨a1,c1,rfl,_,_⟩:=SegC.of_owns hbx.2.1;obtain⟨a2,c2,rfl,_,_⟩:=SegC.of_owns hbx.2.2.1;obtain⟨a3,c3,rfl,_,_⟩:=SegI.of_owns hbx.2.2.2;have BX:=zaa hbx;have hs4:=hbx.lt;have HB4:=zaa (zae HB2.o hb4);have KT4:=zaa (zad hb4 hs2' K1'.o);have KR4:=zaa (zad hb4 hs2 K2'.o);clear x0 x1 x2 x3 x4 x5 x6 x7 x8 x9 y0 y1 y2 y3 y4 y5 y6 y7 y8 y9 ff hb4 hbx HB2 K1' K2';obtain⟨⟨z0,z1,z2,z3,z4,z5,z6,z7,z8,z9⟩,gf⟩:=zai BX.o.1;go_wp2_with fail;refine(zk0 w2.heap.size t _ _ _ h b w4 BX.o hg hh).mono ?_;rintro e w5 ⟨rfl,hbx5,hb5⟩;have BX5:=zaa hbx5;have hs5:=hbx5.lt;have KT5:=zaa ((hb5.block w.heap.size (by omega)).trans KT4.o);have KR5:=zaa ((hb5.block (w.heap.size+1) (by omega)).trans KR4.o);have HB5:=zaa (HB4.o.trans (hb5.mono (by omega)));clear z0 z1 z2 z3 z4 z5 z6 z7 z8 z9 gf hb5 hbx5 HB4 KT4 KR4 BX;obtain⟨⟨x0,x1,x2,x3,x4,x5,x6,x7,x8,x9⟩,_⟩:=zai KT5.o;obtain⟨⟨y0,y1,y2,y3,y4,y5,y6,y7,y8,y9⟩,ff⟩:=zai KR5.o;clear BX5;generalize nameE t h b=z at *;go_wp2;refine bodyPost_ret (v:=.tuple #[.agg #[.int .i64 t.seq,.slice a t.info.length c,.slice a' t.data.length c',.slice r t.rev.length d,.bool t.h0.on,.int .i64 t.h0.left,.bool t.h1.on,.int .i64 t.h1.left,.bool t.h2.on,.int .i64 t.h2.left],.int .i64 z]) (by simp[results,Tryz.results121,go_sem,y0,y1,y2,y3,y4,y5,y6,y7,y8,y9]) rfl ⟨_,by rw[HE.o],?_⟩;refine⟨?_,?_,.inl rfl⟩
 ·rw[HTT.o]
  refine HT.o.below ?_
  repeat refine Below.setCell ?_ (by simp) _
  exact HB5.o
 ·repeat refine Below.setCell ?_ (by simp) _
  exact HB5.o
theorem zwj (v:Value)(t:Tx)(h b:Int)(s:ByteArray)(w:World)(hT:IsTx w v t)(r1:t.info.length*24≤140737488355328)(r2:t.data.length*24≤140737488355328)(hr:reachE t h b=0)(hs:za9 s=true)(hd:(zas b t.data).isSome=false)(hn:nameE t h b=0):
  Calls Tryz.prog 121 #[v,.int .i64 h,.int .i64 b,.string s] w fun e w'=>∃v2,e=.returned (.tuple #[v2,.int .i64 (changeE t h b s)])∧IsTx w' v2 (zaf t h b s)∧Below w.heap.size w w'∧(v2=v∨za0 w.heap.size v2 (zaf t h b s)):=by
 have hrk:=zc2 hr;have hg:=hrk.1;have hh:=hrk.2.1;clear hrk;have hgi:=(za7 t).1 hg;have hu1:Up (·.1) t.info:=(zgc _ _).1 ((za8 _).1 hgi.2.2.1.1).2;have hu2:Up (·.1) t.data:=(zgc _ _).1 ((za8 _).1 hgi.2.2.1.2.1).2;have hu3:Up id t.rev:=((za8 _).1 hgi.2.2.1.2.2).2;have hsm:=zaw hg;clear hgi;have HT:=zaa hT;obtain⟨a,c,a',c',r,d,rfl,hM,hD,hR,n1,n2,n3⟩:=hT;have HM:=zaa hM;have HD:=zaa hD;have HR:=zaa hR;have N1:=zaa n1;have N2:=zaa n2;have N3:=zaa n3;clear hM hD hR n1 n2 n3;go_enter Tryz.func121,Tryz.ntmps121;go_wp2_with fail;refine(zcd _ t h b _ (HT.o.below (zae (zab _ _) (zab _ _))) r1 r2).mono ?_;rintro e w1 ⟨rfl,hb1⟩;have hs1:w.heap.size+1<w1.heap.size:=by have:=hb1.size;simp at this;omega
 have hs1':w.heap.size<w1.heap.size:=by omega
 have K1:=zaa (zf9 hb1);have K2:=zaa (zg3 hb1);obtain⟨⟨x0,x1,x2,x3,x4,x5,x6,x7,x8,x9⟩,_⟩:=zai K1.o;obtain⟨⟨y0,y1,y2,y3,y4,y5,y6,y7,y8,y9⟩,ff⟩:=zai K2.o;have HB1:=zaa (zae (zae (zab _ _) (zab _ _)) hb1);clear hb1;have HE:Hid (changeE t h b s=0):=by rw[Hid,changeE,if_neg (by rw[hr];simp),if_neg (by rw[hs];simp),if_neg (by rw[hd];simp),hn]
 have HTT:Hid (zaf t h b s={{nameT t h b with info:=zbr (·.1) t.info b (b,s)} with rev:=za2 id t.rev b}):=by rw[Hid,zaf,if_pos HE.o];rfl
 have hz:(s.size:Int)=32:=by simpa[za9] using hs
 clear hs;go_wp2_with fail;refine(zix a' c' t.data b _ (HD.o.below HB1.o) N2.o).mono ?_;rintro e w2 ⟨rfl,hb2⟩;have hs2:w.heap.size+1<w2.heap.size:=by have:=hb2.size;omega
 have hs2':w.heap.size<w2.heap.size:=by omega
 have K1':=zaa (zad hb2 hs1' K1.o);have K2':=zaa (zad hb2 hs1 K2.o);have HB2:=zaa (zae HB1.o hb2);clear x0 x1 x2 x3 x4 x5 x6 x7 x8 x9 y0 y1 y2 y3 y4 y5 y6 y7 y8 y9 ff hb2 K1 K2 HB1;obtain⟨⟨x0,x1,x2,x3,x4,x5,x6,x7,x8,x9⟩,_⟩:=zai K1'.o;obtain⟨⟨y0,y1,y2,y3,y4,y5,y6,y7,y8,y9⟩,ff⟩:=zai K2'.o;go_wp2_with fail;refine(zcs _ t _ (HT.o.below HB2.o) (by omega) (by omega) (by omega)).mono ?_;rintro e w4 ⟨va,vd,vr,rfl,hbx,hb4⟩;obtain⟨a1,c1,rfl,_,_⟩:=SegC.of_owns hbx.2.1;obtain⟨a2,c2,rfl,_,_⟩:=SegC.of_owns hbx.2.2.1;obtain⟨a3,c3,rfl,_,_⟩:=SegI.of_owns hbx.2.2.2;have BX:=zaa hbx;have hs4:=hbx.lt;have HB4:=zaa (zae HB2.o hb4);have KT4:=zaa (zad hb4 hs2' K1'.o);have KR4:=zaa (zad hb4 hs2 K2'.o);clear x0 x1 x2 x3 x4 x5 x6 x7 x8 x9 y0 y1 y2 y3 y4 y5 y6 y7 y8 y9 ff hb4 hbx HB2 K1' K2';obtain⟨⟨z0,z1,z2,z3,z4,z5,z6,z7,z8,z9⟩,gf⟩:=zai BX.o.1;go_wp2_with fail;refine(zk0 w2.heap.size t _ _ _ h b w4 BX.o hg hh).mono ?_;rintro e w5 ⟨rfl,hbx5,hb5⟩;have BX5:=zaa hbx5;have hs5:=hbx5.lt;have KT5:=zaa ((hb5.block w.heap.size (by omega)).trans KT4.o);have KR5:=zaa ((hb5.block (w.heap.size+1) (by omega)).trans KR4.o);have HB5:=zaa (HB4.o.trans (hb5.mono (by omega)));clear z0 z1 z2 z3 z4 z5 z6 z7 z8 z9 gf hb5 hbx5 HB4 KT4 KR4 BX;rw[zh9,if_pos hn] at BX5;have hnt:=ze9 t h b;obtain⟨t',ht'⟩:∃t',t'=nameT t h b:=⟨_,rfl⟩;rw[←ht'] at BX5 HTT hnt;have EQ1:Hid (t'.info=t.info):=hnt.1;have EQ2:Hid (t'.data=t.data):=hnt.2.1;have EQ3:Hid (t'.rev=t.rev):=hnt.2.2;clear ht' hnt;have o6:=BX5.o.2.1;rw[EQ1.o] at o6;obtain⟨⟨z0,z1,z2,z3,z4,z5,z6,z7,z8,z9⟩,gf⟩:=zai BX5.o.1;obtain⟨⟨y0,y1,y2,y3,y4,y5,y6,y7,y8,y9⟩,ff⟩:=zai KR5.o;go_wp2_with fail;refine(zqu (w2.heap.size+1) _ t.info b s _ o6 (by omega) hu1).mono ?_;clear o6;rintro e w6 ⟨v6,rfl,ho6,hb6⟩;obtain⟨p6,q6,rfl,_,_⟩:=SegC.of_owns ho6;have hz6:=hb6.size;have hs6:w2.heap.size<w6.heap.size:=by omega
 have BXa6:=zaa (BX5.o.below hb6);have HOn6:Hid (w6.ownsRow (w2.heap.size+1) 84 2 (.slice p6 (zbr (·.1) t.info b (b,s)).length q6) (zbr (·.1) t.info b (b,s)).length (cellsC (zbr (·.1) t.info b (b,s)))):=za5 ho6 (by omega);have BX6:=zaa (BXa6.o.set (t':={t' with info:=zbr (·.1) t.info b (b,s)}) 1 (.slice p6 (zbr (·.1) t.info b (b,s)).length q6) rfl HOn6.o BXa6.o.2.2.1 BXa6.o.2.2.2);have KA6:=zaa (zad hb6 (by omega) KR5.o);have K6:Hid ((w6.setCell ⟨w2.heap.size,1,none⟩ (.slice p6 (zbr (·.1) t.info b (b,s)).length q6)).heap[w.heap.size+1]?=_):=(Below.heap_setCell _ _ _ _ (by simp;omega)).trans KA6.o;have HB6:=zaa ((HB5.o.trans (hb6.mono (by omega))).setCell (p:=⟨w2.heap.size,1,none⟩) (by simp;omega) (.slice p6 (zbr (·.1) t.info b (b,s)).length q6));clear z0 z1 z2 z3 z4 z5 z6 z7 z8 z9 gf y0 y1 y2 y3 y4 y5 y6 y7 y8 y9 ff hb6 ho6 HOn6 BX5 HB5 KR5;have o7:=BX6.o.2.2.2;dsimp only at o7;rw[EQ3.o] at o7;obtain⟨⟨z0,z1,z2,z3,z4,z5,z6,z7,z8,z9⟩,gf⟩:=zai BXa6.o.1;obtain⟨⟨y0,y1,y2,y3,y4,y5,y6,y7,y8,y9⟩,ff⟩:=zai KA6.o;go_wp2_with fail;refine(zqx (w2.heap.size+1) _ t.rev b _ o7 (by omega) hu3).mono ?_;clear o7;rintro e w7 ⟨v7,rfl,ho7,hb7⟩;obtain⟨p7,q7,rfl,_,_⟩:=SegI.of_owns ho7;have hz7:=hb7.size;simp only[World.size_setCell] at hz7;have hs7:w2.heap.size<w7.heap.size:=by omega
 have BXa7:=zaa (BX6.o.below hb7);have HOn7:Hid (w7.ownsRow (w2.heap.size+1) 3 1 (.slice p7 (za2 id t.rev b).length q7) (za2 id t.rev b).length (cellsI (za2 id t.rev b))):=za5 ho7 (by simp;omega);have BX7:=zaa (BXa7.o.set (t':={{t' with info:=zbr (·.1) t.info b (b,s)} with rev:=za2 id t.rev b}) 3 (.slice p7 (za2 id t.rev b).length q7) rfl BXa7.o.2.1 BXa7.o.2.2.1 HOn7.o);have KA7:=zaa (zad hb7 (by simp;omega) K6.o);have K7:Hid ((w7.setCell ⟨w2.heap.size,3,none⟩ (.slice p7 (za2 id t.rev b).length q7)).heap[w.heap.size+1]?=_):=(Below.heap_setCell _ _ _ _ (by simp;omega)).trans KA7.o;have HB7:=zaa ((HB6.o.trans (hb7.mono (by simp;omega))).setCell (p:=⟨w2.heap.size,3,none⟩) (by simp;omega) (.slice p7 (za2 id t.rev b).length q7));clear z0 z1 z2 z3 z4 z5 z6 z7 z8 z9 gf y0 y1 y2 y3 y4 y5 y6 y7 y8 y9 ff hb7 ho7 HOn7 BX6 HB6 K6;obtain⟨⟨z0,z1,z2,z3,z4,z5,z6,z7,z8,z9⟩,gf⟩:=zai BXa7.o.1;obtain⟨⟨y0,y1,y2,y3,y4,y5,y6,y7,y8,y9⟩,ff⟩:=zai KA7.o;go_wp2;refine bodyPost_ret (v:=.tuple #[.agg #[.int .i64 t'.seq,(.slice p6 (zbr (·.1) t.info b (b,s)).length q6),(.slice a2 t.data.length c2),(.slice p7 (za2 id t.rev b).length q7),.bool t'.h0.on,.int .i64 t'.h0.left,.bool t'.h1.on,.int .i64 t'.h1.left,.bool t'.h2.on,.int .i64 t'.h2.left],.int .i64 0]) (by simp[results,Tryz.results121,go_sem,y0,y1,y2,y3,y4,y5,y6,y7,y8,y9]) rfl ⟨_,by rw[HE.o],?_⟩;rw[HTT.o];refine⟨?_,?_,.inr (BX7.o.fromR (t:={{t' with info:=zbr (·.1) t.info b (b,s)} with rev:=za2 id t.rev b}) (by omega))⟩
 ·refine BoxTx.is (t:={{t' with info:=zbr (·.1) t.info b (b,s)} with rev:=za2 id t.rev b}) (B:=w2.heap.size) ?_ (by have:=zjq (·.1) t.info b (b,s);unfold maxLen;dsimp only at this⊢;omega) (by have:=EQ2.o;unfold maxLen;dsimp only;rw[this];omega) (by have:=zib id t.rev b;unfold maxLen;dsimp only;omega)
  repeat refine BoxTx.other ?_ (by simp;omega) _
  exact BX7.o
 ·iterate 10 (refine Below.setCell ?_ (by simp;try omega) _)
  exact HB7.o
theorem zq0 (v:Value)(t:Tx)(h b:Int)(s:ByteArray)(w:World)(hT:IsTx w v t)(r1:t.info.length*24≤140737488355328)(r2:t.data.length*24≤140737488355328):
  Calls Tryz.prog 121 #[v,.int .i64 h,.int .i64 b,.string s] w fun e w'=>∃v2,e=.returned (.tuple #[v2,.int .i64 (changeE t h b s)])∧IsTx w' v2 (zaf t h b s)∧Below w.heap.size w w'∧(v2=v∨za0 w.heap.size v2 (zaf t h b s)):=by
 by_cases hr:reachE t h b=0
 ·cases hs:za9 s with
  |false=>exact zqy v t h b s w hT r1 r2 hr hs
  |true=>
   cases hd:(zas b t.data).isSome with
   |true=>exact zqz v t h b s w hT r1 r2 hr hs hd
   |false=>
    by_cases hn:nameE t h b=0
    ·exact zwj v t h b s w hT r1 r2 hr hs hd hn
    ·exact zml v t h b s w hT r1 r2 hr hs hd hn
 ·exact zwi v t h b s w hT r1 r2 hr
theorem z19 (v:Value)(t:Tx)(h b:Int)(s:ByteArray)(w:World)(hT:IsTx w v t)(r1:t.info.length*24≤140737488355328)(r2:t.data.length*24≤140737488355328)(hr:¬reachE t h b=0):
  Calls Tryz.prog 122 #[v,.int .i64 h,.int .i64 b,.string s] w fun e w'=>∃v2,e=.returned (.tuple #[v2,.int .i64 (fillE t h b s)])∧IsTx w' v2 (zan t h b s)∧Below w.heap.size w w'∧(v2=v∨za0 w.heap.size v2 (zan t h b s)):=by
 have HT:=zaa hT;obtain⟨a,c,a',c',r,d,rfl,hM,hD,hR,n1,n2,n3⟩:=hT;have HM:=zaa hM;have HD:=zaa hD;have HR:=zaa hR;have N1:=zaa n1;have N2:=zaa n2;have N3:=zaa n3;clear hM hD hR n1 n2 n3;go_enter Tryz.func122,Tryz.ntmps122;go_wp2_with fail;refine(zcd _ t h b _ (HT.o.below (zae (zab _ _) (zab _ _))) r1 r2).mono ?_;rintro e w1 ⟨rfl,hb1⟩;have hs1:w.heap.size+1<w1.heap.size:=by have:=hb1.size;simp at this;omega
 have hs1':w.heap.size<w1.heap.size:=by omega
 have K1:=zaa (zf9 hb1);have K2:=zaa (zg3 hb1);obtain⟨⟨x0,x1,x2,x3,x4,x5,x6,x7,x8,x9⟩,_⟩:=zai K1.o;obtain⟨⟨y0,y1,y2,y3,y4,y5,y6,y7,y8,y9⟩,ff⟩:=zai K2.o;have HB1:=zaa (zae (zae (zab _ _) (zab _ _)) hb1);clear hb1;have HE:Hid (fillE t h b s=reachE t h b):=by rw[Hid,fillE,if_pos hr]
 have HTT:Hid (zan t h b s=t):=by rw[Hid,zan,if_neg (by rw[HE.o];exact hr)]
 generalize reachE t h b=z at *;go_wp2;refine bodyPost_ret (v:=.tuple #[.agg #[.int .i64 t.seq,.slice a t.info.length c,.slice a' t.data.length c',.slice r t.rev.length d,.bool t.h0.on,.int .i64 t.h0.left,.bool t.h1.on,.int .i64 t.h1.left,.bool t.h2.on,.int .i64 t.h2.left],.int .i64 z]) (by simp[results,Tryz.results122,go_sem,y0,y1,y2,y3,y4,y5,y6,y7,y8,y9]) rfl ⟨_,by rw[HE.o],?_⟩;refine⟨?_,?_,.inl rfl⟩
 ·rw[HTT.o]
  refine HT.o.below ?_
  repeat refine Below.setCell ?_ (by simp) _
  exact HB1.o
 ·repeat refine Below.setCell ?_ (by simp) _
  exact HB1.o
theorem zwk (v:Value)(t:Tx)(h b:Int)(s:ByteArray)(w:World)(hT:IsTx w v t)(r1:t.info.length*24≤140737488355328)(r2:t.data.length*24≤140737488355328)(hr:reachE t h b=0)(hs:za9 s=false):
  Calls Tryz.prog 122 #[v,.int .i64 h,.int .i64 b,.string s] w fun e w'=>∃v2,e=.returned (.tuple #[v2,.int .i64 (fillE t h b s)])∧IsTx w' v2 (zan t h b s)∧Below w.heap.size w w'∧(v2=v∨za0 w.heap.size v2 (zan t h b s)):=by
 have HT:=zaa hT;obtain⟨a,c,a',c',r,d,rfl,hM,hD,hR,n1,n2,n3⟩:=hT;have HM:=zaa hM;have HD:=zaa hD;have HR:=zaa hR;have N1:=zaa n1;have N2:=zaa n2;have N3:=zaa n3;clear hM hD hR n1 n2 n3;go_enter Tryz.func122,Tryz.ntmps122;go_wp2_with fail;refine(zcd _ t h b _ (HT.o.below (zae (zab _ _) (zab _ _))) r1 r2).mono ?_;rintro e w1 ⟨rfl,hb1⟩;have hs1:w.heap.size+1<w1.heap.size:=by have:=hb1.size;simp at this;omega
 have hs1':w.heap.size<w1.heap.size:=by omega
 have K1:=zaa (zf9 hb1);have K2:=zaa (zg3 hb1);obtain⟨⟨x0,x1,x2,x3,x4,x5,x6,x7,x8,x9⟩,_⟩:=zai K1.o;obtain⟨⟨y0,y1,y2,y3,y4,y5,y6,y7,y8,y9⟩,ff⟩:=zai K2.o;have HB1:=zaa (zae (zae (zab _ _) (zab _ _)) hb1);clear hb1;have HE:Hid (fillE t h b s=1):=by rw[Hid,fillE,if_neg (by rw[hr];simp),if_pos hs]
 have HTT:Hid (zan t h b s=t):=by rw[Hid,zan,if_neg (by rw[HE.o];decide)]
 have hz:¬(s.size:Int)=32:=by simpa[za9] using hs
 clear hs;go_wp2;refine bodyPost_ret (v:=.tuple #[.agg #[.int .i64 t.seq,.slice a t.info.length c,.slice a' t.data.length c',.slice r t.rev.length d,.bool t.h0.on,.int .i64 t.h0.left,.bool t.h1.on,.int .i64 t.h1.left,.bool t.h2.on,.int .i64 t.h2.left],.int .i64 1]) (by simp[results,Tryz.results122,go_sem,y0,y1,y2,y3,y4,y5,y6,y7,y8,y9]) rfl ⟨_,by rw[HE.o],?_⟩;refine⟨?_,?_,.inl rfl⟩
 ·rw[HTT.o]
  refine HT.o.below ?_
  repeat refine Below.setCell ?_ (by simp) _
  exact HB1.o
 ·repeat refine Below.setCell ?_ (by simp) _
  exact HB1.o
theorem zwl (v:Value)(t:Tx)(h b:Int)(s:ByteArray)(w:World)(hT:IsTx w v t)(r1:t.info.length*24≤140737488355328)(r2:t.data.length*24≤140737488355328)(hr:reachE t h b=0)(hs:za9 s=true)(hd:zcm t b=true):
  Calls Tryz.prog 122 #[v,.int .i64 h,.int .i64 b,.string s] w fun e w'=>∃v2,e=.returned (.tuple #[v2,.int .i64 (fillE t h b s)])∧IsTx w' v2 (zan t h b s)∧Below w.heap.size w w'∧(v2=v∨za0 w.heap.size v2 (zan t h b s)):=by
 have HT:=zaa hT;obtain⟨a,c,a',c',r,d,rfl,hM,hD,hR,n1,n2,n3⟩:=hT;have HM:=zaa hM;have HD:=zaa hD;have HR:=zaa hR;have N1:=zaa n1;have N2:=zaa n2;have N3:=zaa n3;clear hM hD hR n1 n2 n3;go_enter Tryz.func122,Tryz.ntmps122;go_wp2_with fail;refine(zcd _ t h b _ (HT.o.below (zae (zab _ _) (zab _ _))) r1 r2).mono ?_;rintro e w1 ⟨rfl,hb1⟩;have hs1:w.heap.size+1<w1.heap.size:=by have:=hb1.size;simp at this;omega
 have hs1':w.heap.size<w1.heap.size:=by omega
 have K1:=zaa (zf9 hb1);have K2:=zaa (zg3 hb1);obtain⟨⟨x0,x1,x2,x3,x4,x5,x6,x7,x8,x9⟩,_⟩:=zai K1.o;obtain⟨⟨y0,y1,y2,y3,y4,y5,y6,y7,y8,y9⟩,ff⟩:=zai K2.o;have HB1:=zaa (zae (zae (zab _ _) (zab _ _)) hb1);clear hb1;have HE:Hid (fillE t h b s=8):=by rw[Hid,fillE,if_neg (by rw[hr];simp),if_neg (by rw[hs];simp),if_pos hd]
 have HTT:Hid (zan t h b s=t):=by rw[Hid,zan,if_neg (by rw[HE.o];decide)]
 have hz:(s.size:Int)=32:=by simpa[za9] using hs
 clear hs;go_wp2_with fail;refine(zgq _ t b _ (HT.o.below HB1.o)).mono ?_;rintro e w2 ⟨rfl,hb2⟩;have hs2:w.heap.size+1<w2.heap.size:=by have:=hb2.size;omega
 have hs2':w.heap.size<w2.heap.size:=by omega
 have K1':=zaa (zad hb2 hs1' K1.o);have K2':=zaa (zad hb2 hs1 K2.o);have HB2:=zaa (zae HB1.o hb2);clear x0 x1 x2 x3 x4 x5 x6 x7 x8 x9 y0 y1 y2 y3 y4 y5 y6 y7 y8 y9 ff hb2 K1 K2 HB1;obtain⟨⟨x0,x1,x2,x3,x4,x5,x6,x7,x8,x9⟩,_⟩:=zai K1'.o;obtain⟨⟨y0,y1,y2,y3,y4,y5,y6,y7,y8,y9⟩,ff⟩:=zai K2'.o;go_wp2;refine bodyPost_ret (v:=.tuple #[.agg #[.int .i64 t.seq,.slice a t.info.length c,.slice a' t.data.length c',.slice r t.rev.length d,.bool t.h0.on,.int .i64 t.h0.left,.bool t.h1.on,.int .i64 t.h1.left,.bool t.h2.on,.int .i64 t.h2.left],.int .i64 8]) (by simp[results,Tryz.results122,go_sem,y0,y1,y2,y3,y4,y5,y6,y7,y8,y9]) rfl ⟨_,by rw[HE.o],?_⟩;refine⟨?_,?_,.inl rfl⟩
 ·rw[HTT.o]
  refine HT.o.below ?_
  repeat refine Below.setCell ?_ (by simp) _
  exact HB2.o
 ·repeat refine Below.setCell ?_ (by simp) _
  exact HB2.o
theorem z2a (v:Value)(t:Tx)(h b:Int)(s:ByteArray)(w:World)(hT:IsTx w v t)(r1:t.info.length*24≤140737488355328)(r2:t.data.length*24≤140737488355328)(hr:reachE t h b=0)(hs:za9 s=true)(hd:zcm t b=false):
  Calls Tryz.prog 122 #[v,.int .i64 h,.int .i64 b,.string s] w fun e w'=>∃v2,e=.returned (.tuple #[v2,.int .i64 (fillE t h b s)])∧IsTx w' v2 (zan t h b s)∧Below w.heap.size w w'∧(v2=v∨za0 w.heap.size v2 (zan t h b s)):=by
 have hrk:=zc2 hr;have hg:=hrk.1;clear hrk;have hgi:=(za7 t).1 hg;have hu1:Up (·.1) t.info:=(zgc _ _).1 ((za8 _).1 hgi.2.2.1.1).2;have hu2:Up (·.1) t.data:=(zgc _ _).1 ((za8 _).1 hgi.2.2.1.2.1).2;have hu3:Up id t.rev:=((za8 _).1 hgi.2.2.1.2.2).2;have hsm:=zaw hg;clear hgi;have HT:=zaa hT;obtain⟨a,c,a',c',r,d,rfl,hM,hD,hR,n1,n2,n3⟩:=hT;have HM:=zaa hM;have HD:=zaa hD;have HR:=zaa hR;have N1:=zaa n1;have N2:=zaa n2;have N3:=zaa n3;clear hM hD hR n1 n2 n3;go_enter Tryz.func122,Tryz.ntmps122;go_wp2_with fail;refine(zcd _ t h b _ (HT.o.below (zae (zab _ _) (zab _ _))) r1 r2).mono ?_;rintro e w1 ⟨rfl,hb1⟩;have hs1:w.heap.size+1<w1.heap.size:=by have:=hb1.size;simp at this;omega
 have hs1':w.heap.size<w1.heap.size:=by omega
 have K1:=zaa (zf9 hb1);have K2:=zaa (zg3 hb1);obtain⟨⟨x0,x1,x2,x3,x4,x5,x6,x7,x8,x9⟩,_⟩:=zai K1.o;obtain⟨⟨y0,y1,y2,y3,y4,y5,y6,y7,y8,y9⟩,ff⟩:=zai K2.o;have HB1:=zaa (zae (zae (zab _ _) (zab _ _)) hb1);clear hb1;have HE:Hid (fillE t h b s=0):=by rw[Hid,fillE,if_neg (by rw[hr];simp),if_neg (by rw[hs];simp),if_neg (by rw[hd];simp)]
 have HTT:Hid (zan t h b s={t with data:=zbr (·.1) t.data b (b,s)}):=by rw[Hid,zan,if_pos HE.o]
 have hz:(s.size:Int)=32:=by simpa[za9] using hs
 clear hs;go_wp2_with fail;refine(zgq _ t b _ (HT.o.below HB1.o)).mono ?_;rintro e w2 ⟨rfl,hb2⟩;have hs2:w.heap.size+1<w2.heap.size:=by have:=hb2.size;omega
 have hs2':w.heap.size<w2.heap.size:=by omega
 have K1':=zaa (zad hb2 hs1' K1.o);have K2':=zaa (zad hb2 hs1 K2.o);have HB2:=zaa (zae HB1.o hb2);clear x0 x1 x2 x3 x4 x5 x6 x7 x8 x9 y0 y1 y2 y3 y4 y5 y6 y7 y8 y9 ff hb2 K1 K2 HB1;obtain⟨⟨x0,x1,x2,x3,x4,x5,x6,x7,x8,x9⟩,_⟩:=zai K1'.o;obtain⟨⟨y0,y1,y2,y3,y4,y5,y6,y7,y8,y9⟩,ff⟩:=zai K2'.o;go_wp2_with fail;refine(zcs _ t _ (HT.o.below HB2.o) (by omega) (by omega) (by omega)).mono ?_;rintro e w4 ⟨va,vd,vr,rfl,hbx,hb4⟩;obtain⟨a1,c1,rfl,_,_⟩:=SegC.of_owns hbx.2.1;obtain⟨a2,c2,rfl,_,_⟩:=SegC.of_owns hbx.2.2.1;obtain⟨a3,c3,rfl,_,_⟩:=SegI.of_owns hbx.2.2.2;have BX:=zaa hbx;have hs4:=hbx.lt;have HB4:=zaa (zae HB2.o hb4);have KT4:=zaa (zad hb4 hs2' K1'.o);have KR4:=zaa (zad hb4 hs2 K2'.o);clear x0 x1 x2 x3 x4 x5 x6 x7 x8 x9 y0 y1 y2 y3 y4 y5 y6 y7 y8 y9 ff hb4 hbx HB2 K1' K2';have o6:=BX.o.2.2.1;obtain⟨⟨z0,z1,z2,z3,z4,z5,z6,z7,z8,z9⟩,gf⟩:=zai BX.o.1;obtain⟨⟨y0,y1,y2,y3,y4,y5,y6,y7,y8,y9⟩,ff⟩:=zai KR4.o;go_wp2_with fail;refine(zqu (w2.heap.size+1) _ t.data b s _ o6 (by omega) hu2).mono ?_;clear o6;rintro e w6 ⟨v6,rfl,ho6,hb6⟩;obtain⟨p6,q6,rfl,_,_⟩:=SegC.of_owns ho6;have hz6:=hb6.size;have hs6:w2.heap.size<w6.heap.size:=by omega
 have BXa6:=zaa (BX.o.below hb6);have HOn6:Hid (w6.ownsRow (w2.heap.size+1) 84 2 (.slice p6 (zbr (·.1) t.data b (b,s)).length q6) (zbr (·.1) t.data b (b,s)).length (cellsC (zbr (·.1) t.data b (b,s)))):=za5 ho6 (by omega);have BX6:=zaa (BXa6.o.set (t':={t with data:=zbr (·.1) t.data b (b,s)}) 2 (.slice p6 (zbr (·.1) t.data b (b,s)).length q6) rfl BXa6.o.2.1 HOn6.o BXa6.o.2.2.2);have KA6:=zaa (zad hb6 (by omega) KR4.o);have K6:Hid ((w6.setCell ⟨w2.heap.size,2,none⟩ (.slice p6 (zbr (·.1) t.data b (b,s)).length q6)).heap[w.heap.size+1]?=_):=(Below.heap_setCell _ _ _ _ (by simp;omega)).trans KA6.o;have HB6:=zaa ((HB4.o.trans (hb6.mono (by omega))).setCell (p:=⟨w2.heap.size,2,none⟩) (by simp;omega) (.slice p6 (zbr (·.1) t.data b (b,s)).length q6));clear z0 z1 z2 z3 z4 z5 z6 z7 z8 z9 gf y0 y1 y2 y3 y4 y5 y6 y7 y8 y9 ff hb6 ho6 HOn6 BX HB4 KR4;obtain⟨⟨z0,z1,z2,z3,z4,z5,z6,z7,z8,z9⟩,gf⟩:=zai BXa6.o.1;obtain⟨⟨y0,y1,y2,y3,y4,y5,y6,y7,y8,y9⟩,ff⟩:=zai KA6.o;go_wp2;refine bodyPost_ret (v:=.tuple #[.agg #[.int .i64 t.seq,(.slice a1 t.info.length c1),(.slice p6 (zbr (·.1) t.data b (b,s)).length q6),(.slice a3 t.rev.length c3),.bool t.h0.on,.int .i64 t.h0.left,.bool t.h1.on,.int .i64 t.h1.left,.bool t.h2.on,.int .i64 t.h2.left],.int .i64 0]) (by simp[results,Tryz.results122,go_sem,y0,y1,y2,y3,y4,y5,y6,y7,y8,y9]) rfl ⟨_,by rw[HE.o],?_⟩;rw[HTT.o];refine⟨?_,?_,.inr (BX6.o.fromR (t:={t with data:=zbr (·.1) t.data b (b,s)}) (by omega))⟩
 ·refine BoxTx.is (t:={t with data:=zbr (·.1) t.data b (b,s)}) (B:=w2.heap.size) ?_ (by exact N1.o) (by have:=zjq (·.1) t.data b (b,s);unfold maxLen;dsimp only at this⊢;omega) (by exact N3.o)
  repeat refine BoxTx.other ?_ (by simp;omega) _
  exact BX6.o
 ·iterate 10 (refine Below.setCell ?_ (by simp;try omega) _)
  exact HB6.o
theorem zwm (v:Value)(t:Tx)(h b:Int)(s:ByteArray)(w:World)(hT:IsTx w v t)(r1:t.info.length*24≤140737488355328)(r2:t.data.length*24≤140737488355328):
  Calls Tryz.prog 122 #[v,.int .i64 h,.int .i64 b,.string s] w fun e w'=>∃v2,e=.returned (.tuple #[v2,.int .i64 (fillE t h b s)])∧IsTx w' v2 (zan t h b s)∧Below w.heap.size w w'∧(v2=v∨za0 w.heap.size v2 (zan t h b s)):=by
 by_cases hr:reachE t h b=0
 ·cases hs:za9 s with
  |false=>exact zwk v t h b s w hT r1 r2 hr hs
  |true=>
   cases hd:zcm t b with
   |true=>exact zwl v t h b s w hT r1 r2 hr hs hd
   |false=>exact z2a v t h b s w hT r1 r2 hr hs hd
 ·exact z19 v t h b s w hT r1 r2 hr
theorem zwn (v:Value)(t:Tx)(h b:Int)(w:World)(hT:IsTx w v t)(r1:t.info.length*24≤140737488355328)(r2:t.data.length*24≤140737488355328)(hr:¬reachE t h b=0):
  Calls Tryz.prog 123 #[v,.int .i64 h,.int .i64 b] w fun e w'=>∃v2,e=.returned (.tuple #[v2,.int .i64 (revokeE t h b)])∧IsTx w' v2 (zag t h b)∧Below w.heap.size w w'∧(v2=v∨za0 w.heap.size v2 (zag t h b)):=by
 have HT:=zaa hT;obtain⟨a,c,a',c',r,d,rfl,hM,hD,hR,n1,n2,n3⟩:=hT;have HM:=zaa hM;have HD:=zaa hD;have HR:=zaa hR;have N1:=zaa n1;have N2:=zaa n2;have N3:=zaa n3;clear hM hD hR n1 n2 n3;go_enter Tryz.func123,Tryz.ntmps123;go_wp2_with fail;refine(zcd _ t h b _ (HT.o.below (zae (zab _ _) (zab _ _))) r1 r2).mono ?_;rintro e w1 ⟨rfl,hb1⟩;have hs1:w.heap.size+1<w1.heap.size:=by have:=hb1.size;simp at this;omega
 have hs1':w.heap.size<w1.heap.size:=by omega
 have K1:=zaa (zf9 hb1);have K2:=zaa (zg3 hb1);obtain⟨⟨x0,x1,x2,x3,x4,x5,x6,x7,x8,x9⟩,_⟩:=zai K1.o;obtain⟨⟨y0,y1,y2,y3,y4,y5,y6,y7,y8,y9⟩,ff⟩:=zai K2.o;have HB1:=zaa (zae (zae (zab _ _) (zab _ _)) hb1);clear hb1;have HE:Hid (revokeE t h b=reachE t h b):=by rw[Hid,revokeE,if_pos hr]
 have HTT:Hid (zag t h b=t):=by rw[Hid,zag,if_neg (by rw[HE.o];exact hr)]
 generalize reachE t h b=z at *;go_wp2;refine bodyPost_ret (v:=.tuple #[.agg #[.int .i64 t.seq,.slice a t.info.length c,.slice a' t.data.length c',.slice r t.rev.length d,.bool t.h0.on,.int .i64 t.h0.left,.bool t.h1.on,.int .i64 t.h1.left,.bool t.h2.on,.int .i64 t.h2.left],.int .i64 z]) (by simp[results,Tryz.results123,go_sem,y0,y1,y2,y3,y4,y5,y6,y7,y8,y9]) rfl ⟨_,by rw[HE.o],?_⟩;refine⟨?_,?_,.inl rfl⟩
 ·rw[HTT.o]
  refine HT.o.below ?_
  repeat refine Below.setCell ?_ (by simp) _
  exact HB1.o
 ·repeat refine Below.setCell ?_ (by simp) _
  exact HB1.o
theorem zoy (v:Value)(t:Tx)(h b:Int)(w:World)(hT:IsTx w v t)(r1:t.info.length*24≤140737488355328)(r2:t.data.length*24≤140737488355328)(hr:reachE t h b=0)(hd:zbm t.rev b=true):
  Calls Tryz.prog 123 #[v,.int .i64 h,.int .i64 b] w fun e w'=>∃v2,e=.returned (.tuple #[v2,.int .i64 (revokeE t h b)])∧IsTx w' v2 (zag t h b)∧Below w.heap.size w w'∧(v2=v∨za0 w.heap.size v2 (zag t h b)):=by
 have HT:=zaa hT;obtain⟨a,c,a',c',r,d,rfl,hM,hD,hR,n1,n2,n3⟩:=hT;have HM:=zaa hM;have HD:=zaa hD;have HR:=zaa hR;have N1:=zaa n1;have N2:=zaa n2;have N3:=zaa n3;clear hM hD hR n1 n2 n3;go_enter Tryz.func123,Tryz.ntmps123;go_wp2_with fail;refine(zcd _ t h b _ (HT.o.below (zae (zab _ _) (zab _ _))) r1 r2).mono ?_;rintro e w1 ⟨rfl,hb1⟩;have hs1:w.heap.size+1<w1.heap.size:=by have:=hb1.size;simp at this;omega
 have hs1':w.heap.size<w1.heap.size:=by omega
 have K1:=zaa (zf9 hb1);have K2:=zaa (zg3 hb1);obtain⟨⟨x0,x1,x2,x3,x4,x5,x6,x7,x8,x9⟩,_⟩:=zai K1.o;obtain⟨⟨y0,y1,y2,y3,y4,y5,y6,y7,y8,y9⟩,ff⟩:=zai K2.o;have HB1:=zaa (zae (zae (zab _ _) (zab _ _)) hb1);clear hb1;have HE:Hid (revokeE t h b=5):=by rw[Hid,revokeE,if_neg (by rw[hr];simp),if_pos hd]
 have HTT:Hid (zag t h b=t):=by rw[Hid,zag,if_neg (by rw[HE.o];decide)]
 go_wp2_with fail;refine(zcz r d t.rev b _ (HR.o.below HB1.o) N3.o).mono ?_;rintro e w2 ⟨rfl,rfl⟩;go_wp2;refine bodyPost_ret (v:=.tuple #[.agg #[.int .i64 t.seq,.slice a t.info.length c,.slice a' t.data.length c',.slice r t.rev.length d,.bool t.h0.on,.int .i64 t.h0.left,.bool t.h1.on,.int .i64 t.h1.left,.bool t.h2.on,.int .i64 t.h2.left],.int .i64 5]) (by simp[results,Tryz.results123,go_sem,y0,y1,y2,y3,y4,y5,y6,y7,y8,y9]) rfl ⟨_,by rw[HE.o],?_⟩;refine⟨?_,?_,.inl rfl⟩
 ·rw[HTT.o]
  refine HT.o.below ?_
  repeat refine Below.setCell ?_ (by simp) _
  exact HB1.o
 ·repeat refine Below.setCell ?_ (by simp) _
  exact HB1.o
theorem zmm (v:Value)(t:Tx)(h b:Int)(w:World)(hT:IsTx w v t)(r1:t.info.length*24≤140737488355328)(r2:t.data.length*24≤140737488355328)(hr:reachE t h b=0)(hd:zbm t.rev b=false)(hn:¬nameE t h b=0):
  Calls Tryz.prog 123 #[v,.int .i64 h,.int .i64 b] w fun e w'=>∃v2,e=.returned (.tuple #[v2,.int .i64 (revokeE t h b)])∧IsTx w' v2 (zag t h b)∧Below w.heap.size w w'∧(v2=v∨za0 w.heap.size v2 (zag t h b)):=by
 have hrk:=zc2 hr;have hg:=hrk.1;have hh:=hrk.2.1;clear hrk;have hsm:=zaw hg;have HT:=zaa hT;obtain⟨a,c,a',c',r,d,rfl,hM,hD,hR,n1,n2,n3⟩:=hT;have HM:=zaa hM;have HD:=zaa hD;have HR:=zaa hR;have N1:=zaa n1;have N2:=zaa n2;have N3:=zaa n3;clear hM hD hR n1 n2 n3;go_enter Tryz.func123,Tryz.ntmps123;go_wp2_with fail;refine(zcd _ t h b _ (HT.o.below (zae (zab _ _) (zab _ _))) r1 r2).mono ?_;rintro e w1 ⟨rfl,hb1⟩;have hs1:w.heap.size+1<w1.heap.size:=by have:=hb1.size;simp at this;omega
 have hs1':w.heap.size<w1.heap.size:=by omega
 have K1:=zaa (zf9 hb1);have K2:=zaa (zg3 hb1);obtain⟨⟨x0,x1,x2,x3,x4,x5,x6,x7,x8,x9⟩,_⟩:=zai K1.o;obtain⟨⟨y0,y1,y2,y3,y4,y5,y6,y7,y8,y9⟩,ff⟩:=zai K2.o;have HB1:=zaa (zae (zae (zab _ _) (zab _ _)) hb1);clear hb1;have HE:Hid (revokeE t h b=nameE t h b):=by rw[Hid,revokeE,if_neg (by rw[hr];simp),if_neg (by rw[hd];simp)]
 have HTT:Hid (zag t h b=t):=by rw[Hid,zag,if_neg (by rw[HE.o];exact hn)]
 go_wp2_with fail;refine(zcz r d t.rev b _ (HR.o.below HB1.o) N3.o).mono ?_;rintro e w2 ⟨rfl,rfl⟩;have hb2:Below w1.heap.size w1 w1:=Below.refl _ _;obtain⟨w2,hw2⟩:∃w2,w2=w1:=⟨_,rfl⟩;rw[←hw2] at hb2 hs1 hs1' K1 K2 HB1 x0 x1 x2 x3 x4 x5 x6 x7 x8 x9 y0 y1 y2 y3 y4 y5 y6 y7 y8 y9 ff;rw[←hw2];clear hw2;have K1':=K1;have K2':=K2;have HB2:=HB1;have hs2:=hs1;have hs2':=hs1';clear hb2 K1 K2 HB1 hs1 hs1';go_wp2_with fail;refine(zcs _ t _ (HT.o.below HB2.o) (by omega) (by omega) (by omega)).mono ?_;rintro e w4 ⟨va,vd,vr,rfl,hbx,hb4⟩;obtain⟨a1,c1,rfl,_,_⟩:=SegC.of_owns hbx.2.1;obtain⟨a2,c2,rfl,_,_⟩:=SegC.of_owns hbx.2.2.1;obtain⟨a3,c3,rfl,_,_⟩:=SegI.of_owns hbx.2.2.2;have BX:=zaa hbx;have hs4:=hbx.lt;have HB4:=zaa (zae HB2.o hb4);have KT4:=zaa (zad hb4 hs2' K1'.o);have KR4:=zaa (zad hb4 hs2 K2'.o);clear x0 x1 x2 x3 x4 x5 x6 x7 x8 x9 y0 y1 y2 y3 y4 y5 y6 y7 y8 y9 ff hb4 hbx HB2 K1' K2';obtain⟨⟨z0,z1,z2,z3,z4,z5,z6,z7,z8,z9⟩,gf⟩:=zai BX.o.1;go_wp2_with fail;refine(zk0 w2.heap.size t _ _ _ h b w4 BX.o hg hh).mono ?_;rintro e w5 ⟨rfl,hbx5,hb5⟩;have BX5:=zaa hbx5;have hs5:=hbx5.lt;have KT5:=zaa ((hb5.block w.heap.size (by omega)).trans KT4.o);have KR5:=zaa ((hb5.block (w.heap.size+1) (by omega)).trans KR4.o);have HB5:=zaa (HB4.o.trans (hb5.mono (by omega)));clear z0 z1 z2 z3 z4 z5 z6 z7 z8 z9 gf hb5 hbx5 HB4 KT4 KR4 BX;obtain⟨⟨x0,x1,x2,x3,x4,x5,x6,x7,x8,x9⟩,_⟩:=zai KT5.o;obtain⟨⟨y0,y1,y2,y3,y4,y5,y6,y7,y8,y9⟩,ff⟩:=zai KR5.o;clear BX5;generalize nameE t h b=z at *;go_wp2;refine bodyPost_ret (v:=.tuple #[.agg #[.int .i64 t.seq,.slice a t.info.length c,.slice a' t.data.length c',.slice r t.rev.length d,.bool t.h0.on,.int .i64 t.h0.left,.bool t.h1.on,.int .i64 t.h1.left,.bool t.h2.on,.int .i64 t.h2.left],.int .i64 z]) (by simp[results,Tryz.results123,go_sem,y0,y1,y2,y3,y4,y5,y6,y7,y8,y9]) rfl ⟨_,by rw[HE.o],?_⟩;refine⟨?_,?_,.inl rfl⟩
 ·rw[HTT.o]
  refine HT.o.below ?_
  repeat refine Below.setCell ?_ (by simp) _
  exact HB5.o
 ·repeat refine Below.setCell ?_ (by simp) _
  exact HB5.o
theorem zwo (v:Value)(t:Tx)(h b:Int)(w:World)(hT:IsTx w v t)(r1:t.info.length*24≤140737488355328)(r2:t.data.length*24≤140737488355328)(hr:reachE t h b=0)(hd:zbm t.rev b=false)(hn:nameE t h b=0):
  Calls Tryz.prog 123 #[v,.int .i64 h,.int .i64 b] w fun e w'=>∃v2,e=.returned (.tuple #[v2,.int .i64 (revokeE t h b)])∧IsTx w' v2 (zag t h b)∧Below w.heap.size w w'∧(v2=v∨za0 w.heap.size v2 (zag t h b)):=by
 have hrk:=zc2 hr;have hg:=hrk.1;have hh:=hrk.2.1;clear hrk;have hgi:=(za7 t).1 hg;have hu1:Up (·.1) t.info:=(zgc _ _).1 ((za8 _).1 hgi.2.2.1.1).2;have hu2:Up (·.1) t.data:=(zgc _ _).1 ((za8 _).1 hgi.2.2.1.2.1).2;have hu3:Up id t.rev:=((za8 _).1 hgi.2.2.1.2.2).2;have hsm:=zaw hg;clear hgi;have HT:=zaa hT;obtain⟨a,c,a',c',r,d,rfl,hM,hD,hR,n1,n2,n3⟩:=hT;have HM:=zaa hM;have HD:=zaa hD;have HR:=zaa hR;have N1:=zaa n1;have N2:=zaa n2;have N3:=zaa n3;clear hM hD hR n1 n2 n3;go_enter Tryz.func123,Tryz.ntmps123;go_wp2_with fail;refine(zcd _ t h b _ (HT.o.below (zae (zab _ _) (zab _ _))) r1 r2).mono ?_;rintro e w1 ⟨rfl,hb1⟩;have hs1:w.heap.size+1<w1.heap.size:=by have:=hb1.size;simp at this;omega
 have hs1':w.heap.size<w1.heap.size:=by omega
 have K1:=zaa (zf9 hb1);have K2:=zaa (zg3 hb1);obtain⟨⟨x0,x1,x2,x3,x4,x5,x6,x7,x8,x9⟩,_⟩:=zai K1.o;obtain⟨⟨y0,y1,y2,y3,y4,y5,y6,y7,y8,y9⟩,ff⟩:=zai K2.o;have HB1:=zaa (zae (zae (zab _ _) (zab _ _)) hb1);clear hb1;have HE:Hid (revokeE t h b=0):=by rw[Hid,revokeE,if_neg (by rw[hr];simp),if_neg (by rw[hd];simp),hn]
 have HTT:Hid (zag t h b={{{nameT t h b with info:=za2 (·.1) t.info b} with data:=za2 (·.1) t.data b} with rev:=zbr id t.rev b b}):=by rw[Hid,zag,if_pos HE.o];rfl
 go_wp2_with fail;refine(zcz r d t.rev b _ (HR.o.below HB1.o) N3.o).mono ?_;rintro e w2 ⟨rfl,rfl⟩;have hb2:Below w1.heap.size w1 w1:=Below.refl _ _;obtain⟨w2,hw2⟩:∃w2,w2=w1:=⟨_,rfl⟩;rw[←hw2] at hb2 hs1 hs1' K1 K2 HB1 x0 x1 x2 x3 x4 x5 x6 x7 x8 x9 y0 y1 y2 y3 y4 y5 y6 y7 y8 y9 ff;rw[←hw2];clear hw2;have K1':=K1;have K2':=K2;have HB2:=HB1;have hs2:=hs1;have hs2':=hs1';clear hb2 K1 K2 HB1 hs1 hs1';go_wp2_with fail;refine(zcs _ t _ (HT.o.below HB2.o) (by omega) (by omega) (by omega)).mono ?_;rintro e w4 ⟨va,vd,vr,rfl,hbx,hb4⟩;obtain⟨a1,c1,rfl,_,_⟩:=SegC.of_owns hbx.2.1;obtain⟨a2,c2,rfl,_,_⟩:=SegC.of_owns hbx.2.2.1;obtain⟨a3,c3,rfl,_,_⟩:=SegI.of_owns hbx.2.2.2;have BX:=zaa hbx;have hs4:=hbx.lt;have HB4:=zaa (zae HB2.o hb4);have KT4:=zaa (zad hb4 hs2' K1'.o);have KR4:=zaa (zad hb4 hs2 K2'.o);clear x0 x1 x2 x3 x4 x5 x6 x7 x8 x9 y0 y1 y2 y3 y4 y5 y6 y7 y8 y9 ff hb4 hbx HB2 K1' K2';obtain⟨⟨z0,z1,z2,z3,z4,z5,z6,z7,z8,z9⟩,gf⟩:=zai BX.o.1;go_wp2_with fail;refine(zk0 w2.heap.size t _ _ _ h b w4 BX.o hg hh).mono ?_;rintro e w5 ⟨rfl,hbx5,hb5⟩;have BX5:=zaa hbx5;have hs5:=hbx5.lt;have KT5:=zaa ((hb5.block w.heap.size (by omega)).trans KT4.o);have KR5:=zaa ((hb5.block (w.heap.size+1) (by omega)).trans KR4.o);have HB5:=zaa (HB4.o.trans (hb5.mono (by omega)));clear z0 z1 z2 z3 z4 z5 z6 z7 z8 z9 gf hb5 hbx5 HB4 KT4 KR4 BX;rw[zh9,if_pos hn] at BX5;have hnt:=ze9 t h b;obtain⟨t',ht'⟩:∃t',t'=nameT t h b:=⟨_,rfl⟩;rw[←ht'] at BX5 HTT hnt;have EQ1:Hid (t'.info=t.info):=hnt.1;have EQ2:Hid (t'.data=t.data):=hnt.2.1;have EQ3:Hid (t'.rev=t.rev):=hnt.2.2;clear ht' hnt;have o6:=BX5.o.2.1;rw[EQ1.o] at o6;obtain⟨⟨z0,z1,z2,z3,z4,z5,z6,z7,z8,z9⟩,gf⟩:=zai BX5.o.1;obtain⟨⟨y0,y1,y2,y3,y4,y5,y6,y7,y8,y9⟩,ff⟩:=zai KR5.o;go_wp2_with fail;refine(zj8 (w2.heap.size+1) _ t.info b _ o6 (by omega) hu1).mono ?_;clear o6;rintro e w6 ⟨v6,rfl,ho6,hb6⟩;obtain⟨p6,q6,rfl,_,_⟩:=SegC.of_owns ho6;have hz6:=hb6.size;have hs6:w2.heap.size<w6.heap.size:=by omega
 have BXa6:=zaa (BX5.o.below hb6);have HOn6:Hid (w6.ownsRow (w2.heap.size+1) 84 2 (.slice p6 (za2 (·.1) t.info b).length q6) (za2 (·.1) t.info b).length (cellsC (za2 (·.1) t.info b))):=za5 ho6 (by omega);have BX6:=zaa (BXa6.o.set (t':={t' with info:=za2 (·.1) t.info b}) 1 (.slice p6 (za2 (·.1) t.info b).length q6) rfl HOn6.o BXa6.o.2.2.1 BXa6.o.2.2.2);have KA6:=zaa (zad hb6 (by omega) KR5.o);have K6:Hid ((w6.setCell ⟨w2.heap.size,1,none⟩ (.slice p6 (za2 (·.1) t.info b).length q6)).heap[w.heap.size+1]?=_):=(Below.heap_setCell _ _ _ _ (by simp;omega)).trans KA6.o;have HB6:=zaa ((HB5.o.trans (hb6.mono (by omega))).setCell (p:=⟨w2.heap.size,1,none⟩) (by simp;omega) (.slice p6 (za2 (·.1) t.info b).length q6));clear z0 z1 z2 z3 z4 z5 z6 z7 z8 z9 gf y0 y1 y2 y3 y4 y5 y6 y7 y8 y9 ff hb6 ho6 HOn6 BX5 HB5 KR5;have o7:=BX6.o.2.2.1;dsimp only at o7;rw[EQ2.o] at o7;obtain⟨⟨z0,z1,z2,z3,z4,z5,z6,z7,z8,z9⟩,gf⟩:=zai BXa6.o.1;obtain⟨⟨y0,y1,y2,y3,y4,y5,y6,y7,y8,y9⟩,ff⟩:=zai KA6.o;go_wp2_with fail;refine(zj8 (w2.heap.size+1) _ t.data b _ o7 (by omega) hu2).mono ?_;clear o7;rintro e w7 ⟨v7,rfl,ho7,hb7⟩;obtain⟨p7,q7,rfl,_,_⟩:=SegC.of_owns ho7;have hz7:=hb7.size;simp only[World.size_setCell] at hz7;have hs7:w2.heap.size<w7.heap.size:=by omega
 have BXa7:=zaa (BX6.o.below hb7);have HOn7:Hid (w7.ownsRow (w2.heap.size+1) 84 2 (.slice p7 (za2 (·.1) t.data b).length q7) (za2 (·.1) t.data b).length (cellsC (za2 (·.1) t.data b))):=za5 ho7 (by simp;omega);have BX7:=zaa (BXa7.o.set (t':={{t' with info:=za2 (·.1) t.info b} with data:=za2 (·.1) t.data b}) 2 (.slice p7 (za2 (·.1) t.data b).length q7) rfl BXa7.o.2.1 HOn7.o BXa7.o.2.2.2);have KA7:=zaa (zad hb7 (by simp;omega) K6.o);have K7:Hid ((w7.setCell ⟨w2.heap.size,2,none⟩ (.slice p7 (za2 (·.1) t.data b).length q7)).heap[w.heap.size+1]?=_):=(Below.heap_setCell _ _ _ _ (by simp;omega)).trans KA7.o;have HB7:=zaa ((HB6.o.trans (hb7.mono (by simp;omega))).setCell (p:=⟨w2.heap.size,2,none⟩) (by simp;omega) (.slice p7 (za2 (·.1) t.data b).length q7));clear z0 z1 z2 z3 z4 z5 z6 z7 z8 z9 gf y0 y1 y2 y3 y4 y5 y6 y7 y8 y9 ff hb7 ho7 HOn7 BX6 HB6 K6;have o8:=BX7.o.2.2.2;dsimp only at o8;rw[EQ3.o] at o8;obtain⟨⟨z0,z1,z2,z3,z4,z5,z6,z7,z8,z9⟩,gf⟩:=zai BXa7.o.1;obtain⟨⟨y0,y1,y2,y3,y4,y5,y6,y7,y8,y9⟩,ff⟩:=zai KA7.o;go_wp2_with fail;refine(zzl (w2.heap.size+1) _ t.rev b _ o8 (by omega) hu3).mono ?_;clear o8;rintro e w8 ⟨v8,rfl,ho8,hb8⟩;obtain⟨p8,q8,rfl,_,_⟩:=SegI.of_owns ho8;have hz8:=hb8.size;simp only[World.size_setCell] at hz8;have hs8:w2.heap.size<w8.heap.size:=by omega
 have BXa8:=zaa (BX7.o.below hb8);have HOn8:Hid (w8.ownsRow (w2.heap.size+1) 3 1 (.slice p8 (zbr id t.rev b b).length q8) (zbr id t.rev b b).length (cellsI (zbr id t.rev b b))):=za5 ho8 (by simp;omega);have BX8:=zaa (BXa8.o.set (t':={{{t' with info:=za2 (·.1) t.info b} with data:=za2 (·.1) t.data b} with rev:=zbr id t.rev b b}) 3 (.slice p8 (zbr id t.rev b b).length q8) rfl BXa8.o.2.1 BXa8.o.2.2.1 HOn8.o);have KA8:=zaa (zad hb8 (by simp;omega) K7.o);have K8:Hid ((w8.setCell ⟨w2.heap.size,3,none⟩ (.slice p8 (zbr id t.rev b b).length q8)).heap[w.heap.size+1]?=_):=(Below.heap_setCell _ _ _ _ (by simp;omega)).trans KA8.o;have HB8:=zaa ((HB7.o.trans (hb8.mono (by simp;omega))).setCell (p:=⟨w2.heap.size,3,none⟩) (by simp;omega) (.slice p8 (zbr id t.rev b b).length q8));clear z0 z1 z2 z3 z4 z5 z6 z7 z8 z9 gf y0 y1 y2 y3 y4 y5 y6 y7 y8 y9 ff hb8 ho8 HOn8 BX7 HB7 K7;obtain⟨⟨z0,z1,z2,z3,z4,z5,z6,z7,z8,z9⟩,gf⟩:=zai BXa8.o.1;obtain⟨⟨y0,y1,y2,y3,y4,y5,y6,y7,y8,y9⟩,ff⟩:=zai KA8.o;go_wp2;refine bodyPost_ret (v:=.tuple #[.agg #[.int .i64 t'.seq,(.slice p6 (za2 (·.1) t.info b).length q6),(.slice p7 (za2 (·.1) t.data b).length q7),(.slice p8 (zbr id t.rev b b).length q8),.bool t'.h0.on,.int .i64 t'.h0.left,.bool t'.h1.on,.int .i64 t'.h1.left,.bool t'.h2.on,.int .i64 t'.h2.left],.int .i64 0]) (by simp[results,Tryz.results123,go_sem,y0,y1,y2,y3,y4,y5,y6,y7,y8,y9]) rfl ⟨_,by rw[HE.o],?_⟩;rw[HTT.o];refine⟨?_,?_,.inr (BX8.o.fromR (t:={{{t' with info:=za2 (·.1) t.info b} with data:=za2 (·.1) t.data b} with rev:=zbr id t.rev b b}) (by omega))⟩
 ·refine BoxTx.is (t:={{{t' with info:=za2 (·.1) t.info b} with data:=za2 (·.1) t.data b} with rev:=zbr id t.rev b b}) (B:=w2.heap.size) ?_ (by have:=zib (·.1) t.info b;unfold maxLen;dsimp only at this⊢;omega) (by have:=zib (·.1) t.data b;unfold maxLen;dsimp only at this⊢;omega) (by have:=zjq id t.rev b b;unfold maxLen;dsimp only;omega)
  repeat refine BoxTx.other ?_ (by simp;omega) _
  exact BX8.o
 ·iterate 10 (refine Below.setCell ?_ (by simp;try omega) _)
  exact HB8.o
theorem zq1 (v:Value)(t:Tx)(h b:Int)(w:World)(hT:IsTx w v t)(r1:t.info.length*24≤140737488355328)(r2:t.data.length*24≤140737488355328):
  Calls Tryz.prog 123 #[v,.int .i64 h,.int .i64 b] w fun e w'=>∃v2,e=.returned (.tuple #[v2,.int .i64 (revokeE t h b)])∧IsTx w' v2 (zag t h b)∧Below w.heap.size w w'∧(v2=v∨za0 w.heap.size v2 (zag t h b)):=by
 by_cases hr:reachE t h b=0
 ·cases hd:zbm t.rev b with
  |true=>exact zoy v t h b w hT r1 r2 hr hd
  |false=>
   by_cases hn:nameE t h b=0
   ·exact zwo v t h b w hT r1 r2 hr hd hn
   ·exact zmm v t h b w hT r1 r2 hr hd hn
 ·exact zwn v t h b w hT r1 r2 hr
theorem zho {w:World}{B:Nat}{u0 u1 u2 u3 u4 u5 u6 u7 u8 u9:Value}{t:TypeId}(h:w.heap[B]?=some (.cells #[u0,u1,u2,u3,u4,u5,u6,u7,u8,u9] t (0,0)))(v0 v1 v2 v3 v4 v5 v6 v7 v8 v9:Value):
  ((((((((((w.setCell ⟨B,0,none⟩ v0).setCell ⟨B,1,none⟩ v1).setCell ⟨B,2,none⟩ v2).setCell ⟨B,3,none⟩ v3).setCell ⟨B,4,none⟩ v4).setCell ⟨B,5,none⟩ v5).setCell ⟨B,6,none⟩ v6).setCell ⟨B,7,none⟩ v7).setCell ⟨B,8,none⟩ v8).setCell ⟨B,9,none⟩ v9).heap[B]?=some (.cells #[v0,v1,v2,v3,v4,v5,v6,v7,v8,v9] t (0,0)):=by
 have k0:(w.setCell ⟨B,0,none⟩ v0).heap[B]?=some (.cells #[v0,u1,u2,u3,u4,u5,u6,u7,u8,u9] t (0,0)):=heap_setCell_same _ B 0 _ _ v0 h;have k1:((w.setCell ⟨B,0,none⟩ v0).setCell ⟨B,1,none⟩ v1).heap[B]?=some (.cells #[v0,v1,u2,u3,u4,u5,u6,u7,u8,u9] t (0,0)):=heap_setCell_same _ B 1 _ _ v1 k0;have k2:(((w.setCell ⟨B,0,none⟩ v0).setCell ⟨B,1,none⟩ v1).setCell ⟨B,2,none⟩ v2).heap[B]?=some (.cells #[v0,v1,v2,u3,u4,u5,u6,u7,u8,u9] t (0,0)):=heap_setCell_same _ B 2 _ _ v2 k1;have k3:((((w.setCell ⟨B,0,none⟩ v0).setCell ⟨B,1,none⟩ v1).setCell ⟨B,2,none⟩ v2).setCell ⟨B,3,none⟩ v3).heap[B]?=some (.cells #[v0,v1,v2,v3,u4,u5,u6,u7,u8,u9] t (0,0)):=heap_setCell_same _ B 3 _ _ v3 k2;have k4:(((((w.setCell ⟨B,0,none⟩ v0).setCell ⟨B,1,none⟩ v1).setCell ⟨B,2,none⟩ v2).setCell ⟨B,3,none⟩ v3).setCell ⟨B,4,none⟩ v4).heap[B]?=some (.cells #[v0,v1,v2,v3,v4,u5,u6,u7,u8,u9] t (0,0)):=heap_setCell_same _ B 4 _ _ v4 k3;have k5:((((((w.setCell ⟨B,0,none⟩ v0).setCell ⟨B,1,none⟩ v1).setCell ⟨B,2,none⟩ v2).setCell ⟨B,3,none⟩ v3).setCell ⟨B,4,none⟩ v4).setCell ⟨B,5,none⟩ v5).heap[B]?=some (.cells #[v0,v1,v2,v3,v4,v5,u6,u7,u8,u9] t (0,0)):=heap_setCell_same _ B 5 _ _ v5 k4;have k6:(((((((w.setCell ⟨B,0,none⟩ v0).setCell ⟨B,1,none⟩ v1).setCell ⟨B,2,none⟩ v2).setCell ⟨B,3,none⟩ v3).setCell ⟨B,4,none⟩ v4).setCell ⟨B,5,none⟩ v5).setCell ⟨B,6,none⟩ v6).heap[B]?=some (.cells #[v0,v1,v2,v3,v4,v5,v6,u7,u8,u9] t (0,0)):=heap_setCell_same _ B 6 _ _ v6 k5;have k7:((((((((w.setCell ⟨B,0,none⟩ v0).setCell ⟨B,1,none⟩ v1).setCell ⟨B,2,none⟩ v2).setCell ⟨B,3,none⟩ v3).setCell ⟨B,4,none⟩ v4).setCell ⟨B,5,none⟩ v5).setCell ⟨B,6,none⟩ v6).setCell ⟨B,7,none⟩ v7).heap[B]?=some (.cells #[v0,v1,v2,v3,v4,v5,v6,v7,u8,u9] t (0,0)):=heap_setCell_same _ B 7 _ _ v7 k6;have k8:(((((((((w.setCell ⟨B,0,none⟩ v0).setCell ⟨B,1,none⟩ v1).setCell ⟨B,2,none⟩ v2).setCell ⟨B,3,none⟩ v3).setCell ⟨B,4,none⟩ v4).setCell ⟨B,5,none⟩ v5).setCell ⟨B,6,none⟩ v6).setCell ⟨B,7,none⟩ v7).setCell ⟨B,8,none⟩ v8).heap[B]?=some (.cells #[v0,v1,v2,v3,v4,v5,v6,v7,v8,u9] t (0,0)):=heap_setCell_same _ B 8 _ _ v8 k7
 have k9:((((((((((w.setCell ⟨B,0,none⟩ v0).setCell ⟨B,1,none⟩ v1).setCell ⟨B,2,none⟩ v2).setCell ⟨B,3,none⟩ v3).setCell ⟨B,4,none⟩ v4).setCell ⟨B,5,none⟩ v5).setCell ⟨B,6,none⟩ v6).setCell ⟨B,7,none⟩ v7).setCell ⟨B,8,none⟩ v8).setCell ⟨B,9,none⟩ v9).heap[B]?=some (.cells #[v0,v1,v2,v3,v4,v5,v6,v7,v8,v9] t (0,0)):=heap_setCell_same _ B 9 _ _ v9 k8;exact k9
theorem Below.set10 {b:Nat}{W w:World}{B:Nat}(h:Below b W w)(hp:b≤B)(v0 v1 v2 v3 v4 v5 v6 v7 v8 v9:Value):
  Below b W ((((((((((w.setCell ⟨B,0,none⟩ v0).setCell ⟨B,1,none⟩ v1).setCell ⟨B,2,none⟩ v2).setCell ⟨B,3,none⟩ v3).setCell ⟨B,4,none⟩ v4).setCell ⟨B,5,none⟩ v5).setCell ⟨B,6,none⟩ v6).setCell ⟨B,7,none⟩ v7).setCell ⟨B,8,none⟩ v8).setCell ⟨B,9,none⟩ v9):=
 (((((((((h.setCell hp v0).setCell hp v1).setCell hp v2).setCell hp v3).setCell hp v4).setCell hp v5).setCell hp v6).setCell hp v7).setCell hp v8).setCell hp v9
theorem zz1 (v:Value)(t:Tx)(h:Int)(w:World)(hT:IsTx w v t)(r1:t.info.length*24≤140737488355328)(r2:t.data.length*24≤140737488355328)(hg:zba t=false):
  Calls Tryz.prog 81 #[v,.int .i64 h] w fun e w'=>∃v2,e=.returned (.tuple #[v2,.int .i64 (zc4 t h)])∧IsTx w' v2 (zb3 t h)∧Below w.heap.size w w'∧(v2=v∨za0 w.heap.size v2 (zb3 t h)):=by
 have HT:=zaa hT;obtain⟨a,c,a',c',r,d,rfl,hM,hD,hR,n1,n2,n3⟩:=hT;have N1:=zaa n1;have N2:=zaa n2;have N3:=zaa n3;clear hM hD hR n1 n2 n3;go_enter Tryz.func81,Tryz.ntmps81;go_wp2_with fail;refine(zb5 _ t _ (HT.o.below (zae (zab _ _) (zab _ _))) r1 r2).mono ?_;rintro e w1 ⟨rfl,hb1⟩;have hs1:w.heap.size+1<w1.heap.size:=by have:=hb1.size;simp at this;omega
 have hs1':w.heap.size<w1.heap.size:=by omega
 have K1:=zaa (zf9 hb1);have K2:=zaa (zg3 hb1);obtain⟨⟨x0,x1,x2,x3,x4,x5,x6,x7,x8,x9⟩,_⟩:=zai K1.o;obtain⟨⟨y0,y1,y2,y3,y4,y5,y6,y7,y8,y9⟩,ff⟩:=zai K2.o;have HB1:=zaa (zae (zae (zab _ _) (zab _ _)) hb1);clear hb1;have HE:Hid (zc4 t h=2):=by rw[Hid,zc4,if_pos hg]
 have HTT:Hid (zb3 t h=t):=by rw[Hid,zb3,HE.o];rfl
 go_wp2;refine bodyPost_ret (v:=.tuple #[.agg #[.int .i64 t.seq,.slice a t.info.length c,.slice a' t.data.length c',.slice r t.rev.length d,.bool t.h0.on,.int .i64 t.h0.left,.bool t.h1.on,.int .i64 t.h1.left,.bool t.h2.on,.int .i64 t.h2.left],.int .i64 2]) (by simp[results,Tryz.results81,go_sem,y0,y1,y2,y3,y4,y5,y6,y7,y8,y9]) rfl ⟨_,by rw[HE.o],?_⟩;refine⟨?_,?_,.inl rfl⟩
 ·rw[HTT.o]
  refine HT.o.below ?_
  repeat refine Below.setCell ?_ (by simp) _
  exact HB1.o
 ·repeat refine Below.setCell ?_ (by simp) _
  exact HB1.o
theorem zw6 (v:Value)(t:Tx)(h:Int)(w:World)(hT:IsTx w v t)(r1:t.info.length*24≤140737488355328)(r2:t.data.length*24≤140737488355328)(hg:zba t=true)(ho:onB t h=false):
  Calls Tryz.prog 81 #[v,.int .i64 h] w fun e w'=>∃v2,e=.returned (.tuple #[v2,.int .i64 (zc4 t h)])∧IsTx w' v2 (zb3 t h)∧Below w.heap.size w w'∧(v2=v∨za0 w.heap.size v2 (zb3 t h)):=by
 have HT:=zaa hT;obtain⟨a,c,a',c',r,d,rfl,hM,hD,hR,n1,n2,n3⟩:=hT;have N1:=zaa n1;have N2:=zaa n2;have N3:=zaa n3;clear hM hD hR n1 n2 n3;go_enter Tryz.func81,Tryz.ntmps81;go_wp2_with fail;refine(zb5 _ t _ (HT.o.below (zae (zab _ _) (zab _ _))) r1 r2).mono ?_;rintro e w1 ⟨rfl,hb1⟩;have hs1:w.heap.size+1<w1.heap.size:=by have:=hb1.size;simp at this;omega
 have hs1':w.heap.size<w1.heap.size:=by omega
 have K1:=zaa (zf9 hb1);have K2:=zaa (zg3 hb1);obtain⟨⟨x0,x1,x2,x3,x4,x5,x6,x7,x8,x9⟩,_⟩:=zai K1.o;obtain⟨⟨y0,y1,y2,y3,y4,y5,y6,y7,y8,y9⟩,ff⟩:=zai K2.o;have HB1:=zaa (zae (zae (zab _ _) (zab _ _)) hb1);clear hb1
 have HE:Hid (zc4 t h=4):=by
  rw[Hid,zc4,if_neg (by rw[hg];simp),if_pos];by_cases e:0≤h∧h≤2
  ·rw[onB,zbd.2 e,Bool.true_and] at ho
   exact .inr (.inr ho)
  ·omega
 have HTT:Hid (zb3 t h=t):=by rw[Hid,zb3,HE.o];rfl
 go_wp2_with fail;refine(zi4 _ t h _ (HT.o.below HB1.o)).mono ?_;rintro e w2 ⟨rfl,hb2⟩;have hs2:w.heap.size+1<w2.heap.size:=by have:=hb2.size;omega
 have hs2':w.heap.size<w2.heap.size:=by omega
 have K1':=zaa (zad hb2 hs1' K1.o);have K2':=zaa (zad hb2 hs1 K2.o);have HB2:=zaa (zae HB1.o hb2);clear x0 x1 x2 x3 x4 x5 x6 x7 x8 x9 y0 y1 y2 y3 y4 y5 y6 y7 y8 y9 ff hb2 K1 K2 HB1;obtain⟨⟨x0,x1,x2,x3,x4,x5,x6,x7,x8,x9⟩,_⟩:=zai K1'.o;obtain⟨⟨y0,y1,y2,y3,y4,y5,y6,y7,y8,y9⟩,ff⟩:=zai K2'.o;go_wp2;refine bodyPost_ret (v:=.tuple #[.agg #[.int .i64 t.seq,.slice a t.info.length c,.slice a' t.data.length c',.slice r t.rev.length d,.bool t.h0.on,.int .i64 t.h0.left,.bool t.h1.on,.int .i64 t.h1.left,.bool t.h2.on,.int .i64 t.h2.left],.int .i64 4]) (by simp[results,Tryz.results81,go_sem,y0,y1,y2,y3,y4,y5,y6,y7,y8,y9]) rfl ⟨_,by rw[HE.o],?_⟩;refine⟨?_,?_,.inl rfl⟩
 ·rw[HTT.o]
  refine HT.o.below ?_
  repeat refine Below.setCell ?_ (by simp) _
  exact HB2.o
 ·repeat refine Below.setCell ?_ (by simp) _
  exact HB2.o
theorem zz2 (v:Value)(t:Tx)(w:World)(hT:IsTx w v t)(r1:t.info.length*24≤140737488355328)(r2:t.data.length*24≤140737488355328)(hg:zba t=true)(ho:onB t 0=true):
  Calls Tryz.prog 81 #[v,.int .i64 0] w fun e w'=>∃v2,e=.returned (.tuple #[v2,.int .i64 (zc4 t 0)])∧IsTx w' v2 (zb3 t 0)∧Below w.heap.size w w'∧(v2=v∨za0 w.heap.size v2 (zb3 t 0)):=by
 have hsm:=zaw hg;have HT:=zaa hT;obtain⟨a,c,a',c',r,d,rfl,hM,hD,hR,n1,n2,n3⟩:=hT;have N1:=zaa n1;have N2:=zaa n2;have N3:=zaa n3;clear hM hD hR n1 n2 n3;go_enter Tryz.func81,Tryz.ntmps81;go_wp2_with fail;refine(zb5 _ t _ (HT.o.below (zae (zab _ _) (zab _ _))) r1 r2).mono ?_;rintro e w1 ⟨rfl,hb1⟩;have hs1:w.heap.size+1<w1.heap.size:=by have:=hb1.size;simp at this;omega
 have hs1':w.heap.size<w1.heap.size:=by omega
 have K1:=zaa (zf9 hb1);have K2:=zaa (zg3 hb1);obtain⟨⟨x0,x1,x2,x3,x4,x5,x6,x7,x8,x9⟩,_⟩:=zai K1.o;obtain⟨⟨y0,y1,y2,y3,y4,y5,y6,y7,y8,y9⟩,ff⟩:=zai K2.o;have HB1:=zaa (zae (zae (zab _ _) (zab _ _)) hb1);clear hb1
 have HE:Hid (zc4 t 0=0):=by
  rw[Hid,zc4,if_neg (by rw[hg];simp),if_neg];have:(zei t 0).on=true:=ho;rw[this];simp
 have HTT:Hid (zb3 t 0={t with h0:=⟨false,0⟩}):=by rw[Hid,zb3,HE.o];rfl
 go_wp2_with fail;refine(zi4 _ t 0 _ (HT.o.below HB1.o)).mono ?_;rintro e w2 ⟨rfl,hb2⟩;have hs2:w.heap.size+1<w2.heap.size:=by have:=hb2.size;omega
 have hs2':w.heap.size<w2.heap.size:=by omega
 have K1':=zaa (zad hb2 hs1' K1.o);have K2':=zaa (zad hb2 hs1 K2.o);have HB2:=zaa (zae HB1.o hb2);clear x0 x1 x2 x3 x4 x5 x6 x7 x8 x9 y0 y1 y2 y3 y4 y5 y6 y7 y8 y9 ff hb2 K1 K2 HB1;obtain⟨⟨x0,x1,x2,x3,x4,x5,x6,x7,x8,x9⟩,_⟩:=zai K1'.o;obtain⟨⟨y0,y1,y2,y3,y4,y5,y6,y7,y8,y9⟩,ff⟩:=zai K2'.o;go_wp2_with fail;refine(zcs _ t _ (HT.o.below HB2.o) (by omega) (by omega) (by omega)).mono ?_;rintro e w4 ⟨va,vd,vr,rfl,hbx,hb4⟩;obtain⟨a1,c1,rfl,_,_⟩:=SegC.of_owns hbx.2.1;obtain⟨a2,c2,rfl,_,_⟩:=SegC.of_owns hbx.2.2.1;obtain⟨a3,c3,rfl,_,_⟩:=SegI.of_owns hbx.2.2.2;have BX:=zaa hbx;have hs4:=hbx.lt;have HB4:=zaa (zae HB2.o hb4);have K2'':=zaa (zad hb4 hs2 K2'.o);clear x0 x1 x2 x3 x4 x5 x6 x7 x8 x9 y0 y1 y2 y3 y4 y5 y6 y7 y8 y9 ff hb4 hbx HB2;obtain⟨⟨y0,y1,y2,y3,y4,y5,y6,y7,y8,y9⟩,ff⟩:=zai K2''.o;obtain⟨⟨z0,z1,z2,z3,z4,z5,z6,z7,z8,z9⟩,gf⟩:=zai BX.o.1;have HX:Hid (BoxTx ((w4.setCell ⟨w2.heap.size,4,none⟩ (.bool false)).setCell ⟨w2.heap.size,5,none⟩ (.int .i64 0)) w2.heap.size {t with h0:=⟨false,0⟩} (.slice a1 t.info.length c1) (.slice a2 t.data.length c2) (.slice a3 t.rev.length c3)):=(BX.o.set (t':={t with h0:=⟨false,t.h0.left⟩}) 4 (.bool false) rfl BX.o.2.1 BX.o.2.2.1 BX.o.2.2.2).set (t':={t with h0:=⟨false,0⟩}) 5 (.int .i64 0) rfl (ownsRow_setCell_below BX.o.2.1 (by simp) _) (ownsRow_setCell_below BX.o.2.2.1 (by simp) _) (ownsRow_setCell_below BX.o.2.2.2 (by simp) _);go_wp2;refine bodyPost_ret (v:=.tuple #[.agg #[.int .i64 t.seq,.slice a1 t.info.length c1,.slice a2 t.data.length c2,.slice a3 t.rev.length c3,.bool false,.int .i64 0,.bool t.h1.on,.int .i64 t.h1.left,.bool t.h2.on,.int .i64 t.h2.left],.int .i64 0]) (by simp[results,Tryz.results81,go_sem,y0,y1,y2,y3,y4,y5,y6,y7,y8,y9]) rfl ⟨_,by rw[HE.o],?_⟩;rw[HTT.o];refine⟨?_,?_,.inr (HX.o.fromR (t:={t with h0:=⟨false,0⟩}) (by omega))⟩
 ·refine BoxTx.is (t:={t with h0:=⟨false,0⟩}) (B:=w2.heap.size) ?_ N1.o N2.o N3.o
  repeat refine BoxTx.other ?_ (by simp;omega) _
  exact HX.o
 ·repeat refine Below.setCell ?_ (by simp;try omega) _
  exact HB4.o
theorem zz3 (v:Value)(t:Tx)(w:World)(hT:IsTx w v t)(r1:t.info.length*24≤140737488355328)(r2:t.data.length*24≤140737488355328)(hg:zba t=true)(ho:onB t 1=true):
  Calls Tryz.prog 81 #[v,.int .i64 1] w fun e w'=>∃v2,e=.returned (.tuple #[v2,.int .i64 (zc4 t 1)])∧IsTx w' v2 (zb3 t 1)∧Below w.heap.size w w'∧(v2=v∨za0 w.heap.size v2 (zb3 t 1)):=by
 have hsm:=zaw hg;have HT:=zaa hT;obtain⟨a,c,a',c',r,d,rfl,hM,hD,hR,n1,n2,n3⟩:=hT;have N1:=zaa n1;have N2:=zaa n2;have N3:=zaa n3;clear hM hD hR n1 n2 n3;go_enter Tryz.func81,Tryz.ntmps81;go_wp2_with fail;refine(zb5 _ t _ (HT.o.below (zae (zab _ _) (zab _ _))) r1 r2).mono ?_;rintro e w1 ⟨rfl,hb1⟩;have hs1:w.heap.size+1<w1.heap.size:=by have:=hb1.size;simp at this;omega
 have hs1':w.heap.size<w1.heap.size:=by omega
 have K1:=zaa (zf9 hb1);have K2:=zaa (zg3 hb1);obtain⟨⟨x0,x1,x2,x3,x4,x5,x6,x7,x8,x9⟩,_⟩:=zai K1.o;obtain⟨⟨y0,y1,y2,y3,y4,y5,y6,y7,y8,y9⟩,ff⟩:=zai K2.o;have HB1:=zaa (zae (zae (zab _ _) (zab _ _)) hb1);clear hb1
 have HE:Hid (zc4 t 1=0):=by
  rw[Hid,zc4,if_neg (by rw[hg];simp),if_neg];have:(zei t 1).on=true:=ho;rw[this];simp
 have HTT:Hid (zb3 t 1={t with h1:=⟨false,0⟩}):=by rw[Hid,zb3,HE.o];rfl
 go_wp2_with fail;refine(zi4 _ t 1 _ (HT.o.below HB1.o)).mono ?_;rintro e w2 ⟨rfl,hb2⟩;have hs2:w.heap.size+1<w2.heap.size:=by have:=hb2.size;omega
 have hs2':w.heap.size<w2.heap.size:=by omega
 have K1':=zaa (zad hb2 hs1' K1.o);have K2':=zaa (zad hb2 hs1 K2.o);have HB2:=zaa (zae HB1.o hb2);clear x0 x1 x2 x3 x4 x5 x6 x7 x8 x9 y0 y1 y2 y3 y4 y5 y6 y7 y8 y9 ff hb2 K1 K2 HB1;obtain⟨⟨x0,x1,x2,x3,x4,x5,x6,x7,x8,x9⟩,_⟩:=zai K1'.o;obtain⟨⟨y0,y1,y2,y3,y4,y5,y6,y7,y8,y9⟩,ff⟩:=zai K2'.o;go_wp2_with fail;refine(zcs _ t _ (HT.o.below HB2.o) (by omega) (by omega) (by omega)).mono ?_;rintro e w4 ⟨va,vd,vr,rfl,hbx,hb4⟩;obtain⟨a1,c1,rfl,_,_⟩:=SegC.of_owns hbx.2.1;obtain⟨a2,c2,rfl,_,_⟩:=SegC.of_owns hbx.2.2.1;obtain⟨a3,c3,rfl,_,_⟩:=SegI.of_owns hbx.2.2.2;have BX:=zaa hbx;have hs4:=hbx.lt;have HB4:=zaa (zae HB2.o hb4);have K2'':=zaa (zad hb4 hs2 K2'.o);clear x0 x1 x2 x3 x4 x5 x6 x7 x8 x9 y0 y1 y2 y3 y4 y5 y6 y7 y8 y9 ff hb4 hbx HB2;obtain⟨⟨y0,y1,y2,y3,y4,y5,y6,y7,y8,y9⟩,ff⟩:=zai K2''.o;obtain⟨⟨z0,z1,z2,z3,z4,z5,z6,z7,z8,z9⟩,gf⟩:=zai BX.o.1;have HX:Hid (BoxTx ((w4.setCell ⟨w2.heap.size,6,none⟩ (.bool false)).setCell ⟨w2.heap.size,7,none⟩ (.int .i64 0)) w2.heap.size {t with h1:=⟨false,0⟩} (.slice a1 t.info.length c1) (.slice a2 t.data.length c2) (.slice a3 t.rev.length c3)):=(BX.o.set (t':={t with h1:=⟨false,t.h1.left⟩}) 6 (.bool false) rfl BX.o.2.1 BX.o.2.2.1 BX.o.2.2.2).set (t':={t with h1:=⟨false,0⟩}) 7 (.int .i64 0) rfl (ownsRow_setCell_below BX.o.2.1 (by simp) _) (ownsRow_setCell_below BX.o.2.2.1 (by simp) _) (ownsRow_setCell_below BX.o.2.2.2 (by simp) _);go_wp2;refine bodyPost_ret (v:=.tuple #[.agg #[.int .i64 t.seq,.slice a1 t.info.length c1,.slice a2 t.data.length c2,.slice a3 t.rev.length c3,.bool t.h0.on,.int .i64 t.h0.left,.bool false,.int .i64 0,.bool t.h2.on,.int .i64 t.h2.left],.int .i64 0]) (by simp[results,Tryz.results81,go_sem,y0,y1,y2,y3,y4,y5,y6,y7,y8,y9]) rfl ⟨_,by rw[HE.o],?_⟩;rw[HTT.o];refine⟨?_,?_,.inr (HX.o.fromR (t:={t with h1:=⟨false,0⟩}) (by omega))⟩
 ·refine BoxTx.is (t:={t with h1:=⟨false,0⟩}) (B:=w2.heap.size) ?_ N1.o N2.o N3.o
  repeat refine BoxTx.other ?_ (by simp;omega) _
  exact HX.o
 ·repeat refine Below.setCell ?_ (by simp;try omega) _
  exact HB4.o
theorem zz4 (v:Value)(t:Tx)(w:World)(hT:IsTx w v t)(r1:t.info.length*24≤140737488355328)(r2:t.data.length*24≤140737488355328)(hg:zba t=true)(ho:onB t 2=true):
  Calls Tryz.prog 81 #[v,.int .i64 2] w fun e w'=>∃v2,e=.returned (.tuple #[v2,.int .i64 (zc4 t 2)])∧IsTx w' v2 (zb3 t 2)∧Below w.heap.size w w'∧(v2=v∨za0 w.heap.size v2 (zb3 t 2)):=by
 have hsm:=zaw hg;have HT:=zaa hT;obtain⟨a,c,a',c',r,d,rfl,hM,hD,hR,n1,n2,n3⟩:=hT;have N1:=zaa n1;have N2:=zaa n2;have N3:=zaa n3;clear hM hD hR n1 n2 n3;go_enter Tryz.func81,Tryz.ntmps81;go_wp2_with fail;refine(zb5 _ t _ (HT.o.below (zae (zab _ _) (zab _ _))) r1 r2).mono ?_;rintro e w1 ⟨rfl,hb1⟩;have hs1:w.heap.size+1<w1.heap.size:=by have:=hb1.size;simp at this;omega
 have hs1':w.heap.size<w1.heap.size:=by omega
 have K1:=zaa (zf9 hb1);have K2:=zaa (zg3 hb1);obtain⟨⟨x0,x1,x2,x3,x4,x5,x6,x7,x8,x9⟩,_⟩:=zai K1.o;obtain⟨⟨y0,y1,y2,y3,y4,y5,y6,y7,y8,y9⟩,ff⟩:=zai K2.o;have HB1:=zaa (zae (zae (zab _ _) (zab _ _)) hb1);clear hb1
 have HE:Hid (zc4 t 2=0):=by
  rw[Hid,zc4,if_neg (by rw[hg];simp),if_neg];have:(zei t 2).on=true:=ho;rw[this];simp
 have HTT:Hid (zb3 t 2={t with h2:=⟨false,0⟩}):=by rw[Hid,zb3,HE.o];rfl
 go_wp2_with fail;refine(zi4 _ t 2 _ (HT.o.below HB1.o)).mono ?_;rintro e w2 ⟨rfl,hb2⟩;have hs2:w.heap.size+1<w2.heap.size:=by have:=hb2.size;omega
 have hs2':w.heap.size<w2.heap.size:=by omega
 have K1':=zaa (zad hb2 hs1' K1.o);have K2':=zaa (zad hb2 hs1 K2.o);have HB2:=zaa (zae HB1.o hb2);clear x0 x1 x2 x3 x4 x5 x6 x7 x8 x9 y0 y1 y2 y3 y4 y5 y6 y7 y8 y9 ff hb2 K1 K2 HB1;obtain⟨⟨x0,x1,x2,x3,x4,x5,x6,x7,x8,x9⟩,_⟩:=zai K1'.o;obtain⟨⟨y0,y1,y2,y3,y4,y5,y6,y7,y8,y9⟩,ff⟩:=zai K2'.o;go_wp2_with fail;refine(zcs _ t _ (HT.o.below HB2.o) (by omega) (by omega) (by omega)).mono ?_;rintro e w4 ⟨va,vd,vr,rfl,hbx,hb4⟩;obtain⟨a1,c1,rfl,_,_⟩:=SegC.of_owns hbx.2.1;obtain⟨a2,c2,rfl,_,_⟩:=SegC.of_owns hbx.2.2.1;obtain⟨a3,c3,rfl,_,_⟩:=SegI.of_owns hbx.2.2.2;have BX:=zaa hbx;have hs4:=hbx.lt;have HB4:=zaa (zae HB2.o hb4);have K2'':=zaa (zad hb4 hs2 K2'.o);clear x0 x1 x2 x3 x4 x5 x6 x7 x8 x9 y0 y1 y2 y3 y4 y5 y6 y7 y8 y9 ff hb4 hbx HB2;obtain⟨⟨y0,y1,y2,y3,y4,y5,y6,y7,y8,y9⟩,ff⟩:=zai K2''.o;obtain⟨⟨z0,z1,z2,z3,z4,z5,z6,z7,z8,z9⟩,gf⟩:=zai BX.o.1;have HX:Hid (BoxTx ((w4.setCell ⟨w2.heap.size,8,none⟩ (.bool false)).setCell ⟨w2.heap.size,9,none⟩ (.int .i64 0)) w2.heap.size {t with h2:=⟨false,0⟩} (.slice a1 t.info.length c1) (.slice a2 t.data.length c2) (.slice a3 t.rev.length c3)):=(BX.o.set (t':={t with h2:=⟨false,t.h2.left⟩}) 8 (.bool false) rfl BX.o.2.1 BX.o.2.2.1 BX.o.2.2.2).set (t':={t with h2:=⟨false,0⟩}) 9 (.int .i64 0) rfl (ownsRow_setCell_below BX.o.2.1 (by simp) _) (ownsRow_setCell_below BX.o.2.2.1 (by simp) _) (ownsRow_setCell_below BX.o.2.2.2 (by simp) _);go_wp2;refine bodyPost_ret (v:=.tuple #[.agg #[.int .i64 t.seq,.slice a1 t.info.length c1,.slice a2 t.data.length c2,.slice a3 t.rev.length c3,.bool t.h0.on,.int .i64 t.h0.left,.bool t.h1.on,.int .i64 t.h1.left,.bool false,.int .i64 0],.int .i64 0]) (by simp[results,Tryz.results81,go_sem,y0,y1,y2,y3,y4,y5,y6,y7,y8,y9]) rfl ⟨_,by rw[HE.o],?_⟩;rw[HTT.o];refine⟨?_,?_,.inr (HX.o.fromR (t:={t with h2:=⟨false,0⟩}) (by omega))⟩
 ·refine BoxTx.is (t:={t with h2:=⟨false,0⟩}) (B:=w2.heap.size) ?_ N1.o N2.o N3.o
  repeat refine BoxTx.other ?_ (by simp;omega) _
  exact HX.o
 ·repeat refine Below.setCell ?_ (by simp;try omega) _
  exact HB4.o
theorem zw7 (v:Value)(t:Tx)(h:Int)(w:World)(hT:IsTx w v t)(r1:t.info.length*24≤140737488355328)(r2:t.data.length*24≤140737488355328):
  Calls Tryz.prog 81 #[v,.int .i64 h] w fun e w'=>∃v2,e=.returned (.tuple #[v2,.int .i64 (zc4 t h)])∧IsTx w' v2 (zb3 t h)∧Below w.heap.size w w'∧(v2=v∨za0 w.heap.size v2 (zb3 t h)):=by
 cases hg:zba t with
 |false=>exact zz1 v t h w hT r1 r2 hg
 |true=>
  cases ho:onB t h with
  |false=>exact zw6 v t h w hT r1 r2 hg ho
  |true=>
   have hw:zam h 0 2=true:=by rw[onB] at ho;exact(Bool.and_eq_true _ _▸ho:_∧_).1
   have hr:=zbd.1 hw;have hc:h=0∨h=1∨h=2:=by omega
   rcases hc with rfl|rfl|rfl
   ·exact zz2 v t w hT r1 r2 hg ho
   ·exact zz3 v t w hT r1 r2 hg ho
   ·exact zz4 v t w hT r1 r2 hg ho
end Go.Proofs.YtjnpndfpajjihacGreat

