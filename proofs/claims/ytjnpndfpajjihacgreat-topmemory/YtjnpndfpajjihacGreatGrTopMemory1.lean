/-
  
-/
import Derived.Test.YtjnpndfpajjihacGreatGrTopMemory0
import Derived.Deep.QuietTactic
import Derived.BigQuiet
set_option maxRecDepth 100000
set_option maxHeartbeats 40000000
namespace Go.Proofs.YtjnpndfpajjihacGreat
open Go.RowKit
def zbm (l:List Int)(b:Int):Bool:=l.any (·==b)
def zas (b:Int):List (Int×ByteArray)→Option ByteArray
 |[]=>none
 |x::r=>if x.1=b then some x.2 else zas b r
theorem z2z {α:Type}{l:List α}{k:Nat}{x:α}{p:α→Bool}(h:l[k]?=some x)(hp:p x=true):l.any p=true:=
 List.any_eq_true.2 ⟨x,List.mem_of_getElem? h,hp⟩
theorem zt1 {α:Type}{l:List α}{k:Nat}{x:α}{p:α→Bool}(h:l[k]?=some x)(hp:p x=false)(ht:(l.take k).any p=false):(l.take (k+1)).any p=false:=by
 rw[List.take_add_one,h,List.any_append,ht];simp[hp]
theorem z0q {l:List (Int×ByteArray)}{k:Nat}{x:Int×ByteArray}{b:Int}(h:l[k]?=some x)(hp:x.1=b)(ht:zas b (l.take k)=none):zas b l=some x.2:=by
 induction l generalizing k with
 |nil=>simp at h
 |cons y r ih=>
  cases k with
  |zero=>simp at h;subst h;simp[zas,hp]
  |succ k=>
   rw[List.take_succ_cons,zas] at ht;by_cases e:y.1=b
   ·rw[if_pos e] at ht;cases ht
   ·rw[if_neg e] at ht
    rw[zas,if_neg e];exact ih (by simpa using h) ht
structure Hd where
 on:Bool
 left:Int
structure Tx where
 seq:Int
 info:List (Int×ByteArray)
 data:List (Int×ByteArray)
 rev:List Int
 h0:Hd
 h1:Hd
 h2:Hd
def IsTx (w:World)(v:Value)(t:Tx):Prop:=
 ∃a c a' c' b d,v=.agg #[.int .i64 t.seq,.slice a t.info.length c,.slice a' t.data.length c',.slice b t.rev.length d,.bool t.h0.on,.int .i64 t.h0.left,.bool t.h1.on,.int .i64 t.h1.left,.bool t.h2.on,.int .i64 t.h2.left]∧
  SegW w a t.info∧SegW w a' t.data∧SegI w b t.rev∧t.info.length≤maxLen∧t.data.length≤maxLen∧t.rev.length≤maxLen
def RoomTx (v:Value):Prop:=
 ∃s a n c a' n' c' b m d x0 x1 x2 x3 x4 x5,v=.agg #[s,.slice a n c,.slice a' n' c',.slice b m d,x0,x1,x2,x3,x4,x5]∧n≤c∧n'≤c'∧m≤d
theorem RoomTx.is {q x0 x1 x2 x3 x4 x5:Value}{a a' b:Option Addr}{n c n' c' m d:Nat}(h:RoomTx (.agg #[q,.slice a n c,.slice a' n' c',.slice b m d,x0,x1,x2,x3,x4,x5])):n≤c∧n'≤c'∧m≤d:=by
 obtain⟨s,a2,n2,c2,a3,n3,c3,b2,m2,d2,y0,y1,y2,y3,y4,y5,e,h⟩:=h;simp only[Value.agg.injEq] at e
 injection e with e
 simp only[List.cons.injEq,Value.slice.injEq,and_true] at e;obtain⟨_,⟨_,rfl,rfl⟩,⟨_,rfl,rfl⟩,⟨_,rfl,rfl⟩,_⟩:=e;exact h
theorem IsTx.below {w w':World}{v:Value}{t:Tx}(h:IsTx w v t)(hb:Below w.heap.size w w'):IsTx w' v t:=by
 obtain⟨a,c,a',c',b,d,rfl,h1,h2,h3,h4,h5,h6⟩:=h;exact⟨a,c,a',c',b,d,rfl,h1.below hb,h2.below hb,h3.below hb,h4,h5,h6⟩
theorem zai {w:World}{B:Nat}{v0 v1 v2 v3 v4 v5 v6 v7 v8 v9:Value}{t:TypeId}(h:w.heap[B]?=some (.cells #[v0,v1,v2,v3,v4,v5,v6,v7,v8,v9] t (0,0))):
  (w.cell? ⟨B,0,none⟩=some v0∧w.cell? ⟨B,1,none⟩=some v1∧w.cell? ⟨B,2,none⟩=some v2∧w.cell? ⟨B,3,none⟩=some v3∧w.cell? ⟨B,4,none⟩=some v4∧w.cell? ⟨B,5,none⟩=some v5∧w.cell? ⟨B,6,none⟩=some v6∧w.cell? ⟨B,7,none⟩=some v7∧w.cell? ⟨B,8,none⟩=some v8∧w.cell? ⟨B,9,none⟩=some v9)∧
  ∀k,w.frozen? ⟨B,k,none⟩=false:=by
 refine⟨⟨?_,?_,?_,?_,?_,?_,?_,?_,?_,?_⟩,fun k=>frozen_of_row w _ _ _ _ h⟩<;>(rw[cell_of_row w _ _ _ _ _ h];rfl)
def zhx (t:Tx):Bool:=t.h0.on||t.h1.on||t.h2.on
def zb0 (t:Tx):Int:=wrap64 (wrap64 (wrap64 (wrap64 ((t.info.length:Int)+(t.rev.length:Int))+t.h0.left)+t.h1.left)+t.h2.left)
theorem z0r (d:Nat)(o p:Bool)(l m:Int)(w:World):
  (Op.equalIn (d+2) 37 (.agg #[.bool o,.int .i64 l]) (.agg #[.bool p,.int .i64 m])).run Tryz.prog w=.ok (o==p&&l==m) w:=by
 have hf:Tryz.prog.underlying 37=some (.struct (Tryz.prog.fieldsOf 37)):=by kernel_rfl
 have hs:Tryz.prog.stoodInHeld 37=false:=by kernel_rfl
 rw[run_equalIn_agg w (d+1) 37 _ _ hf hs];simp[Op.eqFields,go_sem,Program.fieldsOf,Tryz.underlying37,Tryz.underlying3,Tryz.underlying4];by_cases h1:o=p
 ·by_cases h2:l=m<;>simp[h1,h2]
 ·simp[h1]
theorem zxe (d:Nat)(o0 o1 o2 p0 p1 p2:Bool)(l0 l1 l2 m0 m1 m2:Int)(w:World):
  (Op.equalIn (d+3) 38 (.agg #[.bool o0,.int .i64 l0,.bool o1,.int .i64 l1,.bool o2,.int .i64 l2]) (.agg #[.bool p0,.int .i64 m0,.bool p1,.int .i64 m1,.bool p2,.int .i64 m2])).run Tryz.prog w=.ok ((o0==p0&&l0==m0)&&(o1==p1&&l1==m1)&&(o2==p2&&l2==m2)) w:=by
 unfold Op.equalIn;simp only[Sem.run_bind,run_underlying Tryz.underlying38,Result.andThen_ok];simp[go_sem,List.range',z0r];by_cases h1:o0=p0<;>by_cases h2:l0=m0<;>by_cases h3:o1=p1<;>by_cases h4:l1=m1<;>by_cases h5:o2=p2<;>by_cases h6:l2=m2<;>simp[h1,h2,h3,h4,h5,h6]
theorem zat (x:Int)(w:World):
  Calls Tryz.prog 43 #[.int .i64 x] w fun e w'=>e=.returned (.agg #[.int .i64 x,.int .i64 0,.string ⟨#[]⟩])∧Below w.heap.size w w':=by
 go_enter Tryz.func43,Tryz.ntmps43;go_wp2;refine bodyPost_ret (v:=.agg #[.int .i64 x,.int .i64 0,.string ⟨#[]⟩]) (by simp[results,Tryz.results43,go_sem]) rfl ⟨rfl,?_⟩
 repeat refine Below.setCell ?_ (by simp) _
 exact zab _ _
def blksOf (l:List (Int×ByteArray)):List Int:=l.map (·.1)
def zkg (t:Tx):List Int:=blksOf t.info++(blksOf t.data++t.rev)
def zb4 (l:List (Int×ByteArray)):Bool:=l.all fun x=>za9 x.2
def hdB (h:Hd):Bool:=decide (0≤h.left)&&decide (h.left≤24)&&(h.on||decide (h.left=0))
def zba (t:Tx):Bool:=(decide (1≤t.seq)&&decide (t.seq≤2147483647))&&(zb4 t.info&&zb4 t.data)&&(zbg (blksOf t.info)&&zbg (blksOf t.data)&&zbg t.rev)&&decide (zkg t).Nodup&&(hdB t.h0&&hdB t.h1&&hdB t.h2)
theorem zeh (h:Hd):hdB h=true↔0≤h.left∧h.left≤24∧(h.on=false→h.left=0):=by
 cases ho:h.on<;>simp[hdB,ho,and_assoc]
theorem za7 (t:Tx):zba t=true↔(1≤t.seq∧t.seq≤2147483647)∧(zb4 t.info=true∧zb4 t.data=true)∧(zbg (blksOf t.info)=true∧zbg (blksOf t.data)=true∧zbg t.rev=true)∧(zkg t).Nodup∧(hdB t.h0=true∧hdB t.h1=true∧hdB t.h2=true):=by
 simp only[zba,Bool.and_eq_true,decide_eq_true_eq,and_assoc]
def zei (t:Tx)(h:Int):Hd:=if h=0 then t.h0 else if h=1 then t.h1 else t.h2
def zh1 (t:Tx)(h:Int)(x:Hd):Tx:=if h=0 then{t with h0:=x} else if h=1 then{t with h1:=x} else{t with h2:=x}
def zbb (t:Tx)(h n free:Int):Int:=
 if zba t=false then 2 else if h<0∨2<h then 4 else if(zei t h).on=true then 5 else if n<0∨12<n then 2
 else if 24<zb0 t+n∨free<zes (zb0 t+n) then 6 else 0
def zau (t:Tx)(h n free:Int):Tx:=if zbb t h n free=0 then zh1 t h ⟨true,n⟩ else t
def zc4 (t:Tx)(h:Int):Int:=if zba t=false then 2 else if h<0∨2<h∨(zei t h).on=false then 4 else 0
def zb3 (t:Tx)(h:Int):Tx:=if zc4 t h=0 then zh1 t h ⟨false,0⟩ else t
def reachE (t:Tx)(h b:Int):Int:=if zba t=false then 2 else if h<0∨2<h∨(zei t h).on=false∨b<0∨11<b then 4 else 0
def zcm (t:Tx)(b:Int):Bool:=(zas b t.info).isSome||zbm t.rev b
def nameE (t:Tx)(h b:Int):Int:=if zcm t b=true then 0 else if(zei t h).left=0 then 7 else 0
def nameT (t:Tx)(h b:Int):Tx:=if zcm t b=true then t else zh1 t h ⟨(zei t h).on,(zei t h).left - 1⟩
def zbr {α:Type}(key:α→Int)(l:List α)(b:Int)(x:α):List α:=l.filter (fun y=>decide (key y<b))++x::l.filter (fun y=>decide (b<key y))
def za2 {α:Type}(key:α→Int)(l:List α)(b:Int):List α:=l.filter (fun y=>decide (key y<b))++l.filter (fun y=>decide (b<key y))
def changeE (t:Tx)(h b:Int)(s:ByteArray):Int:=
 if reachE t h b≠0 then reachE t h b else if za9 s=false then 1 else if(zas b t.data).isSome=true then 8 else nameE t h b
def ze6 (t:Tx)(h b:Int)(s:ByteArray):Tx:={nameT t h b with info:=zbr (·.1) t.info b (b,s),rev:=za2 id t.rev b}
def zaf (t:Tx)(h b:Int)(s:ByteArray):Tx:=if changeE t h b s=0 then ze6 t h b s else t
def fillE (t:Tx)(h b:Int)(s:ByteArray):Int:=
 if reachE t h b≠0 then reachE t h b else if za9 s=false then 1 else if zcm t b=true then 8 else 0
def zan (t:Tx)(h b:Int)(s:ByteArray):Tx:=if fillE t h b s=0 then{t with data:=zbr (·.1) t.data b (b,s)} else t
def revokeE (t:Tx)(h b:Int):Int:=
 if reachE t h b≠0 then reachE t h b else if zbm t.rev b=true then 5 else nameE t h b
def zfq (t:Tx)(h b:Int):Tx:={nameT t h b with info:=za2 (·.1) t.info b,data:=za2 (·.1) t.data b,rev:=zbr id t.rev b b}
def zag (t:Tx)(h b:Int):Tx:=if revokeE t h b=0 then zfq t h b else t
theorem ze9 (t:Tx)(h b:Int):(nameT t h b).info=t.info∧(nameT t h b).data=t.data∧(nameT t h b).rev=t.rev:=by
 unfold nameT zh1;split
 ·exact⟨rfl,rfl,rfl⟩
 ·split
  ·exact⟨rfl,rfl,rfl⟩
  ·split<;>exact⟨rfl,rfl,rfl⟩
theorem zh2 {α:Type}{key:α→Int}{l:List α}{b:Int}{x y:α}:y∈zbr key l b x↔y=x∨(y∈l∧key y≠b):=by
 unfold zbr;simp only[List.mem_append,List.mem_cons,List.mem_filter,decide_eq_true_eq];constructor
 ·rintro(⟨a,c⟩|rfl|⟨a,c⟩)
  ·exact .inr ⟨a,by omega⟩
  ·exact .inl rfl
  ·exact .inr ⟨a,by omega⟩
 ·rintro(rfl|⟨a,c⟩)
  ·exact .inr (.inl rfl)
  ·by_cases h:key y<b
   ·exact .inl ⟨a,h⟩
   ·exact .inr (.inr ⟨a,by omega⟩)
theorem zg7 {α:Type}{key:α→Int}{l:List α}{b:Int}{y:α}:y∈za2 key l b↔y∈l∧key y≠b:=by
 unfold za2;simp only[List.mem_append,List.mem_filter,decide_eq_true_eq];constructor
 ·rintro(⟨a,c⟩|⟨a,c⟩)<;>exact⟨a,by omega⟩
 ·rintro⟨a,c⟩
  by_cases h:key y<b
  ·exact .inl ⟨a,h⟩
  ·exact .inr ⟨a,by omega⟩
theorem z2n {α:Type}{key:α→Int}{l:List α}(h:Up key l){b:Int}{x:α}(hx:key x=b):Up key (zbr key l b x):=by
 unfold zbr Up;rw[List.pairwise_append,List.pairwise_cons];refine⟨h.filter _,⟨fun y hy=>?_,h.filter _⟩,fun y hy z hz=>?_⟩
 ·have:=(List.mem_filter.1 hy).2;simp at this;omega
 ·have h1:=(List.mem_filter.1 hy).2
  simp at h1;rcases List.mem_cons.1 hz with rfl|hz
  ·omega
  ·have:=(List.mem_filter.1 hz).2;simp at this;omega
theorem zxo {α:Type}{key:α→Int}{l:List α}(h:Up key l)(b:Int):Up key (za2 key l b):=by
 unfold za2 Up;rw[List.pairwise_append];refine⟨h.filter _,h.filter _,fun y hy z hz=>?_⟩;have h1:=(List.mem_filter.1 hy).2;have h2:=(List.mem_filter.1 hz).2;simp at h1 h2;omega
theorem zxp {α:Type}{key:α→Int}{l:List α}(h:Up key l)(b:Int):za2 key l b=l.filter (fun y=>decide (key y≠b)):=by
 induction l with
 |nil=>rfl
 |cons x r ih=>
  have hr:=List.pairwise_cons.1 h;have:=ih hr.2;unfold za2 at this⊢;rw[List.filter_cons,List.filter_cons,List.filter_cons];by_cases h1:key x<b
  ·rw[if_pos (by simpa using h1),if_neg (by simp;omega),if_pos (by simp;omega),←this];rfl
  ·have e1:r.filter (fun x=>decide (key x<b))=[]:=by rw[List.filter_eq_nil_iff];intro y hy;have:=hr.1 y hy;simp;omega
   rw[e1] at this;rw[if_neg (by simpa using h1),e1];by_cases h2:key x=b
   ·rw[if_neg (by simp;omega),if_neg (by simp[h2]),←this]
   ·rw[if_pos (by simp;omega),if_pos (by simp[h2]),←this];rfl
theorem zrz {l:List (Int×ByteArray)}(h:Up (·.1) l)(j:Int):l.filter (fun y=>decide (y.1=j))=((zas j l).map fun t=>(j,t)).toList:=by
 induction l with
 |nil=>rfl
 |cons x r ih=>
  have hr:=List.pairwise_cons.1 h;rw[List.filter_cons,zas];by_cases e:x.1=j
  ·have e1:r.filter (fun y=>decide (y.1=j))=[]:=by rw[List.filter_eq_nil_iff];intro y hy;have:=hr.1 y hy;simp at this⊢;omega
   rw[if_pos (by simpa using e),if_pos e,e1];simp[←e]
  ·rw[if_neg (by simpa using e),if_neg e]
   exact ih hr.2
def zt5 (f:Int→Option ByteArray)(j:Nat):List (Int×ByteArray):=((f (j:Int)).map fun s=>((j:Int),s)).toList
def asN (f:Int→Option ByteArray)(n:Nat):List (Int×ByteArray):=(List.range n).flatMap (zt5 f)
theorem zev (f:Int→Option ByteArray)(n:Nat):asN f (n+1)=asN f n++zt5 f n:=by
 rw[asN,List.range_succ,List.flatMap_append];simp[asN]
theorem zr0 (f:Int→Option ByteArray)(j:Nat):(zt5 f j).length≤1:=by
 unfold zt5;cases f j<;>simp
theorem zeb (f:Int→Option ByteArray)(n:Nat):(asN f n).length≤n:=by
 induction n with
 |zero=>exact Nat.le_refl _
 |succ n ih=>rw[zev,List.length_append];have:=zr0 f n;omega
theorem zxq {f g:Int→Option ByteArray}{n:Nat}(h:∀j:Nat,j<n→f j=g j):asN f n=asN g n:=by
 induction n with
 |zero=>rfl
 |succ n ih=>rw[zev,zev,ih fun j hj=>h j (by omega),zt5,zt5,h n (by omega)]
def zhr (b:Int)(o:Option ByteArray)(t:Tx):Option ByteArray:=if(zas b t.info).isSome=true then zas b t.info else if zbm t.rev b=true then none else o
def newestF (l:List Tx)(b:Int):Option ByteArray:=l.foldl (zhr b) none
theorem zpg (l:List Tx)(t:Tx)(b:Int):newestF (l++[t]) b=zhr b (newestF l b) t:=by
 unfold newestF;rw[List.foldl_append];rfl
theorem zjv {l:List Tx}{k:Nat}{t:Tx}(h:l[k]?=some t)(b:Int):newestF (l.take (k+1)) b=zhr b (newestF (l.take k) b) t:=by
 rw[List.take_add_one,h];exact zpg _ _ _
def newestL (l:List Tx):List (Int×ByteArray):=asN (newestF l) 12
def cmpI (x y:Int):Int:=if x<y then -1 else if y<x then 1 else 0
theorem zs6 {x y:Int}(h:x<y):cmpI x y= -1:=by rw[cmpI,if_pos h]
theorem zzj {x y:Int}(h:¬x<y):¬cmpI x y<0:=by rw[cmpI,if_neg h];split<;>omega
theorem zqr (x y:Int):(cmpI x y==0)=(x==y):=by
 unfold cmpI;by_cases h1:x<y
 ·rw[if_pos h1,show(x==y)=false from by simp;omega];rfl
 ·by_cases h2:y<x
  ·rw[if_neg h1,if_pos h2,show(x==y)=false from by simp;omega];rfl
  ·rw[if_neg h1,if_neg h2,show(x==y)=true from by simp;omega];rfl
theorem z4l {α:Type}{key:α→Int}{l:List α}(h:Up key l)(b:Int){t:Nat}{x:α}(hx:l[t]?=some x):key x<b↔t<l.countP fun x=>decide (key x<b):=by
 have hc:=zxm h b;constructor
 ·intro hk
  by_cases e:t<l.countP fun x=>decide (key x<b)
  ·exact e
  ·have:x∈l.drop (l.countP fun x=>decide (key x<b)):=by
    refine List.mem_of_getElem? (i:=t - l.countP fun x=>decide (key x<b)) ?_;rw[List.getElem?_drop,←hx]
    congr 1;omega
   rw[hc.2] at this;have:=(List.mem_filter.1 this).2;simp at this;omega
 ·intro e
  have:x∈l.take (l.countP fun x=>decide (key x<b)):=by
   refine List.mem_of_getElem? (i:=t) ?_;rw[List.getElem?_take_of_lt e];exact hx
  rw[hc.1] at this;have:=(List.mem_filter.1 this).2
  simpa using this
theorem zly (x y:Int)(w:World):
  Calls Tryz.prog 158 #[.int .i64 x,.int .i64 y] w fun e w'=>e=.returned (.int .i64 (cmpI x y))∧w=w':=by
 by_cases h1:x<y
 ·have HC:=zaa (zs6 h1)
  go_enter Tryz.func158,Tryz.ntmps158;go_wp2;go_ret;exact⟨by rw[HC.o];rfl,rfl⟩
 ·by_cases h2:y<x
  ·have HC:Hid (cmpI x y=1):=by rw[Hid,cmpI,if_neg h1,if_pos h2]
   go_enter Tryz.func158,Tryz.ntmps158;go_wp2;go_ret;exact⟨by rw[HC.o];rfl,rfl⟩
  ·have HC:Hid (cmpI x y=0):=by rw[Hid,cmpI,if_neg h1,if_neg h2]
   go_enter Tryz.func158,Tryz.ntmps158;go_wp2;go_ret;exact⟨by rw[HC.o];rfl,rfl⟩
theorem zgy (x y:Int)(w:World):
  Calls Tryz.prog 158 #[.int .i64 x,.int .i64 y] w fun e w'=>e=.returned (.int .i64 (cmpI x y))∧Below w.heap.size w w':=
 (zly x y w).mono fun _ _ ⟨h1,h2⟩=>⟨h1,h2▸Below.refl _ _⟩
theorem zia (n:Int)(t:ByteArray)(b:Int)(w:World):
  Calls Tryz.prog 156 #[.agg #[.int .i64 n,.string t],.int .i64 b] w fun e w'=>e=.returned (.int .i64 (cmpI n b))∧Below w.heap.size w w':=by
 go_enter Tryz.func156,Tryz.ntmps156;go_wp2_with (go_at_call 158;refine(zly _ _ _).mono ?_;rintro e w' ⟨rfl,rfl⟩);go_ret;exact⟨rfl,zab _ _⟩
theorem zhw (a:Option Addr)(c:Nat)(a':Option Addr)(c':Nat)(l:List (Int×ByteArray))(w:World)(h:SegW w a l)(h':SegW w a' l)(hn:l.length≤maxLen):
  Calls Tryz.prog 103 #[.slice a l.length c,.slice a' l.length c'] w fun e w'=>e=.returned (.bool true)∧Below w.heap.size w w':=by
 unfold maxLen at hn;have HS:=zaa h;have HS':=zaa h';clear h h';go_enter Tryz.func103,Tryz.ntmps103;go_wp2
 go_loopw [13] (fun i wr=>∃k q:Nat,k≤l.length∧i=.int .i64 k∧wr=w.drewN q) (fun i _=>l.length - (intOf i).toNat)
 case atStart=>exact⟨0,0,Nat.zero_le _,rfl,rfl⟩
 case round=>
  obtain⟨k,q,hk,rfl,rfl⟩:=hrel;by_cases hlt:k<l.length
  ·obtain⟨b1,o1,rfl,hb1,hc1⟩:=HS.o.resolve_left (by intro e;rw[e] at hlt;simp at hlt)
   obtain⟨b2,o2,rfl,hb2,hc2⟩:=HS'.o.resolve_left (by intro e;rw[e] at hlt;simp at hlt);obtain⟨g1,g1'⟩:=hc1 k hlt;obtain⟨g2,g2'⟩:=hc2 k hlt;obtain⟨x,hx⟩:∃x,x=l.getD k (0,ByteArray.empty):=⟨_,rfl⟩;rw[←hx] at g1 g1' g2 g2';clear hc1 hc2 hx;obtain⟨n,s⟩:=x;have hlt':(k:Int)<(l.length:Int):=by omega
   go_wp2
   go_quiet (fail)
   go_wp2
   go_roundw
   case rel=>exact⟨k+1,_,by omega,by go_num,rfl⟩
   case measure=>simp[intOf];omega
  ·go_wp2
   go_ret;exact⟨rfl,below_drewN (Below.refl _ _) _⟩
theorem zxb (v1 v2:Value)(t:Tx)(w:World)(h1:IsTx w v1 t)(h2:IsTx w v2 t):
  Calls Tryz.prog 67 #[v1,v2] w fun e w'=>e=.returned (.bool true)∧Below w.heap.size w w':=by
 obtain⟨a,c,a',c',b,d,rfl,hm,hd,hr,n1,n2,n3⟩:=h1;obtain⟨A,C,A',C',B,D,rfl,hM,hD,hR,_,_,_⟩:=h2;have HM:=zaa hm;have HD:=zaa hd;have HM':=zaa hM;have HD':=zaa hD;have HN1:=zaa n1;have HN2:=zaa n2;unfold maxLen at n3
 have hEq:∀w:World,(Op.equalIn 10000 38 (.agg #[.bool t.h0.on,.int .i64 t.h0.left,.bool t.h1.on,.int .i64 t.h1.left,.bool t.h2.on,.int .i64 t.h2.left]) (.agg #[.bool t.h0.on,.int .i64 t.h0.left,.bool t.h1.on,.int .i64 t.h1.left,.bool t.h2.on,.int .i64 t.h2.left])).run Tryz.prog w=.ok true w:=fun w=>by
  have:=zxe 9997 t.h0.on t.h1.on t.h2.on t.h0.on t.h1.on t.h2.on t.h0.left t.h1.left t.h2.left t.h0.left t.h1.left t.h2.left w
  simpa only[beq_self_eq_true,Bool.and_self] using this
 obtain⟨W,hW⟩:∃W,W=(w.alloc (.cells #[.int .i64 t.seq,.slice a t.info.length c,.slice a' t.data.length c',.slice b t.rev.length d,.bool t.h0.on,.int .i64 t.h0.left,.bool t.h1.on,.int .i64 t.h1.left,.bool t.h2.on,.int .i64 t.h2.left] 40)).alloc (.cells #[.int .i64 t.seq,.slice A t.info.length C,.slice A' t.data.length C',.slice B t.rev.length D,.bool t.h0.on,.int .i64 t.h0.left,.bool t.h1.on,.int .i64 t.h1.left,.bool t.h2.on,.int .i64 t.h2.left] 40):=⟨_,rfl⟩;have HBW:Hid (Below w.heap.size w W):=by rw[hW];exact zae (zab _ _) (zab _ _)
 have hz1:(w.alloc (.cells #[.int .i64 t.seq,.slice a t.info.length c,.slice a' t.data.length c',.slice b t.rev.length d,.bool t.h0.on,.int .i64 t.h0.left,.bool t.h1.on,.int .i64 t.h1.left,.bool t.h2.on,.int .i64 t.h2.left] 40)).heap.size=w.heap.size+1:=by simp
 have K1:Hid (W.heap[w.heap.size]?=some (.cells #[.int .i64 t.seq,.slice a t.info.length c,.slice a' t.data.length c',.slice b t.rev.length d,.bool t.h0.on,.int .i64 t.h0.left,.bool t.h1.on,.int .i64 t.h1.left,.bool t.h2.on,.int .i64 t.h2.left] 40 (0,0))):=by rw[hW];exact zad (zab _ _) (by omega) (heap_alloc_new _ _)
 have K2:Hid (W.heap[w.heap.size+1]?=some (.cells #[.int .i64 t.seq,.slice A t.info.length C,.slice A' t.data.length C',.slice B t.rev.length D,.bool t.h0.on,.int .i64 t.h0.left,.bool t.h1.on,.int .i64 t.h1.left,.bool t.h2.on,.int .i64 t.h2.left] 40 (0,0))):=by rw[hW,←hz1];exact heap_alloc_new _ _
 have HR2:=zaa (hr.below HBW.o);have HR2':=zaa (hR.below HBW.o);have hsW:W.heap.size=w.heap.size+2:=by rw[hW];simp
 have HW:=zaa hW;clear hW hz1 hm hd hr hM hD hR n1 n2;go_enter Tryz.func67,Tryz.ntmps67;go_wp2;rw[←HW.o];clear HW;obtain⟨⟨x0,x1,x2,x3,x4,x5,x6,x7,x8,x9⟩,_⟩:=zai K1.o;obtain⟨⟨y0,y1,y2,y3,y4,y5,y6,y7,y8,y9⟩,_⟩:=zai K2.o
 go_loopw [16] (fun i wr=>∃k q:Nat,k≤t.rev.length∧i=.int .i64 k∧wr=W.drewN q) (fun i _=>t.rev.length - (intOf i).toNat)
 case atStart=>exact⟨0,0,Nat.zero_le _,rfl,rfl⟩
 case round=>
  obtain⟨k,q,hk,rfl,rfl⟩:=hrel;by_cases hlt:k<t.rev.length
  ·obtain⟨b1,o1,rfl,hb1,hc1⟩:=HR2.o.resolve_left (by intro e;rw[e] at hlt;simp at hlt)
   obtain⟨b2,o2,rfl,hb2,hc2⟩:=HR2'.o.resolve_left (by intro e;rw[e] at hlt;simp at hlt);have g1:=hc1 k hlt;have g2:=hc2 k hlt;obtain⟨n,hx⟩:∃x,x=t.rev.getD k 0:=⟨_,rfl⟩;rw[←hx] at g1 g2;clear hc1 hc2 hx;have hlt':(k:Int)<(t.rev.length:Int):=by omega
   go_wp2
   go_quiet (fail)
   go_wp2
   go_roundw
   case rel=>exact⟨k+1,_,by omega,by go_num,rfl⟩
   case measure=>simp[intOf];omega
  ·obtain⟨W2,hW2⟩:∃W2,W2=W.drewN q:=⟨_,rfl⟩
   have hb2:Below W.heap.size W W2:=by rw[hW2];exact below_drewN (Below.refl _ _) _
   rw[←hW2];clear hW2 x0 x1 x2 x3 x4 x5 x6 x7 x8 x9 y0 y1 y2 y3 y4 y5 y6 y7 y8 y9;have L1:=zaa (zad hb2 (by omega) K1.o);have L2:=zaa (zad hb2 (by omega) K2.o);have HB2:=zaa (zae HBW.o hb2);have hs2:=hb2.size;clear hb2;obtain⟨⟨x0,x1,x2,x3,x4,x5,x6,x7,x8,x9⟩,_⟩:=zai L1.o;obtain⟨⟨y0,y1,y2,y3,y4,y5,y6,y7,y8,y9⟩,_⟩:=zai L2.o;go_wp2_with fail;refine(zhw _ _ _ _ t.info _ (HM.o.below HB2.o) (HM'.o.below HB2.o) HN1.o).mono ?_;rintro e w1 ⟨rfl,hb1⟩;clear x0 x1 x2 x3 x4 x5 x6 x7 x8 x9 y0 y1 y2 y3 y4 y5 y6 y7 y8 y9;obtain⟨⟨x0,x1,x2,x3,x4,x5,x6,x7,x8,x9⟩,_⟩:=zai (zad hb1 (by omega) L1.o);obtain⟨⟨y0,y1,y2,y3,y4,y5,y6,y7,y8,y9⟩,_⟩:=zai (zad hb1 (by omega) L2.o);have HB3:=zaa (zae HB2.o hb1);clear hb1;go_wp2_with fail;refine(zhw _ _ _ _ t.data _ (HD.o.below HB3.o) (HD'.o.below HB3.o) HN2.o).mono ?_;rintro e w2 ⟨rfl,hb2⟩;have HB4:=zaa (zae HB3.o hb2);clear hb2 x0 x1 x2 x3 x4 x5 x6 x7 x8 x9 y0 y1 y2 y3 y4 y5 y6 y7 y8 y9;go_wp2;go_ret;exact⟨rfl,HB4.o⟩
theorem zrm (a1:Option Addr)(c1:Nat)(a1':Option Addr)(c1':Nat)(a2:Option Addr)(c2:Nat)(a2':Option Addr)(c2':Nat)(d:Dk)(w:World)
  (hS1:SegS w a1 d.safe) (hW1:SegW w a1' d.wr) (hS2:SegS w a2 d.safe) (hW2:SegW w a2' d.wr) (hn:d.safe.length≤maxLen) (hm:d.wr.length≤maxLen):
  Calls Tryz.prog 68 #[.agg #[.slice a1 d.safe.length c1,.slice a1' d.wr.length c1'],.agg #[.slice a2 d.safe.length c2,.slice a2' d.wr.length c2']] w fun e w'=>e=.returned (.bool true)∧Below w.heap.size w w':=by
 unfold maxLen at hn hm;have HS1:Hid (SegS w a1 d.safe):=hS1;have HS2:Hid (SegS w a2 d.safe):=hS2;have HW1:Hid (SegW w a1' d.wr):=hW1;have HW2:Hid (SegW w a2' d.wr):=hW2;clear hS1 hS2 hW1 hW2;go_enter Tryz.func68,Tryz.ntmps68;go_wp2
 go_loopw [26] (fun i wr=>∃k q:Nat,k≤d.safe.length∧i=.int .i64 k∧wr=((w.alloc (Obj.cells #[.slice a1 d.safe.length c1,.slice a1' d.wr.length c1'] 46)).alloc (Obj.cells #[.slice a2 d.safe.length c2,.slice a2' d.wr.length c2'] 46)).drewN q) (fun i _=>d.safe.length - (intOf i).toNat)
 case atStart=>exact⟨0,0,Nat.zero_le _,rfl,rfl⟩
 case round=>
  obtain⟨k,q,hk,rfl,rfl⟩:=hrel;by_cases hlt:k<d.safe.length
  ·obtain⟨b1,o1,rfl,hb1,hc1⟩:=HS1.o.resolve_left (by intro e;rw[e] at hlt;simp at hlt)
   obtain⟨b2,o2,rfl,hb2,hc2⟩:=HS2.o.resolve_left (by intro e;rw[e] at hlt;simp at hlt);have g1:=hc1 k hlt;have g2:=hc2 k hlt;obtain⟨s,hs⟩:∃s,s=d.safe.getD k ByteArray.empty:=⟨_,rfl⟩;rw[←hs] at g1 g2;clear hc1 hc2 hs;have hlt':(k:Int)<(d.safe.length:Int):=by omega
   go_wp2
   go_quiet (fail)
   go_wp2
   go_roundw
   case rel=>exact⟨k+1,_,by omega,by go_num,rfl⟩
   case measure=>simp[intOf];omega
  ·go_wp2
   go_loopw [44] (fun i wr=>∃k q:Nat,k≤d.wr.length∧i=.int .i64 k∧wr=((w.alloc (Obj.cells #[.slice a1 d.safe.length c1,.slice a1' d.wr.length c1'] 46)).alloc (Obj.cells #[.slice a2 d.safe.length c2,.slice a2' d.wr.length c2'] 46)).drewN q) (fun i _=>d.wr.length - (intOf i).toNat)
   case atStart=>exact⟨0,_,Nat.zero_le _,rfl,rfl⟩
   case round=>
    obtain⟨j,q',hj,rfl,rfl⟩:=hrel;by_cases hltj:j<d.wr.length
    ·obtain⟨b1,o1,rfl,hb1,hc1⟩:=HW1.o.resolve_left (by intro e;rw[e] at hltj;simp at hltj)
     obtain⟨b2,o2,rfl,hb2,hc2⟩:=HW2.o.resolve_left (by intro e;rw[e] at hltj;simp at hltj);obtain⟨g1,g1'⟩:=hc1 j hltj;obtain⟨g2,g2'⟩:=hc2 j hltj;obtain⟨x,hx⟩:∃x,x=d.wr.getD j (0,ByteArray.empty):=⟨_,rfl⟩;rw[←hx] at g1 g1' g2 g2';clear hc1 hc2 hx;obtain⟨n,s⟩:=x;have hltj':(j:Int)<(d.wr.length:Int):=by omega
     go_wp2
     go_quiet (fail)
     go_wp2
     go_roundw
     case rel=>exact⟨j+1,_,by omega,by go_num,rfl⟩
     case measure=>simp[intOf];omega
    ·go_wp2
     go_ret;exact⟨rfl,below_drewN (zae (zab _ _) (zab _ _)) _⟩
end Go.Proofs.YtjnpndfpajjihacGreat

