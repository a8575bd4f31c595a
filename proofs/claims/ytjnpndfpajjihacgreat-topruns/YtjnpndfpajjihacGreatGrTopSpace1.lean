/-
  
-/
import Derived.Test.YtjnpndfpajjihacGreatGrTopSpace0
import Derived.Deep.QuietTactic
import Derived.BigQuiet
set_option maxRecDepth 100000
set_option maxHeartbeats 40000000
namespace Go.Proofs.YtjnpndfpajjihacGreat
open Go.RowKit
def zbg (l:List Int)(b:Int):Bool:=l.any (·==b)
def zap (b:Int):List (Int×ByteArray)→Option ByteArray
 |[]=>none
 |x::r=>if x.1=b then some x.2 else zap b r
theorem z1q {α:Type}{l:List α}{k:Nat}{x:α}{p:α→Bool}(h:l[k]?=some x)(hp:p x=true):l.any p=true:=
 List.any_eq_true.2 ⟨x,List.mem_of_getElem? h,hp⟩
theorem zsx {α:Type}{l:List α}{k:Nat}{x:α}{p:α→Bool}(h:l[k]?=some x)(hp:p x=false)(ht:(l.take k).any p=false):(l.take (k+1)).any p=false:=by
 rw[List.take_add_one,h,List.any_append,ht];simp[hp]
theorem zzl {l:List (Int×ByteArray)}{k:Nat}{x:Int×ByteArray}{b:Int}(h:l[k]?=some x)(hp:x.1=b)(ht:zap b (l.take k)=none):zap b l=some x.2:=by
 induction l generalizing k with
 |nil=>simp at h
 |cons y r ih=>
  cases k with
  |zero=>simp at h;subst h;simp[zap,hp]
  |succ k=>
   rw[List.take_succ_cons,zap] at ht
   by_cases e:y.1=b
   ·rw[if_pos e] at ht;cases ht
   ·rw[if_neg e] at ht
    rw[zap,if_neg e]
    exact ih (by simpa using h) ht
structure Hd where
 on:Bool
 left:Int
structure Tx where
 seq:Int
 info:List (Int×ByteArray)
 data:List (Int×ByteArray)
 rev:List Int
 h0:Hd
 h1:Hd
 h2:Hd
def IsTx (w:World)(v:Value)(t:Tx):Prop:=
 ∃a c a' c' b d,v=.agg #[.int .i64 t.seq,.slice a t.info.length c,.slice a' t.data.length c',.slice b t.rev.length d,.bool t.h0.on,.int .i64 t.h0.left,.bool t.h1.on,.int .i64 t.h1.left,.bool t.h2.on,.int .i64 t.h2.left]∧
  SegW w a t.info∧SegW w a' t.data∧SegI w b t.rev∧t.info.length≤maxLen∧t.data.length≤maxLen∧t.rev.length≤maxLen
def RoomTx (v:Value):Prop:=
 ∃s a n c a' n' c' b m d x0 x1 x2 x3 x4 x5,v=.agg #[s,.slice a n c,.slice a' n' c',.slice b m d,x0,x1,x2,x3,x4,x5]∧n≤c∧n'≤c'∧m≤d
theorem RoomTx.is {q x0 x1 x2 x3 x4 x5:Value}{a a' b:Option Addr}{n c n' c' m d:Nat}(h:RoomTx (.agg #[q,.slice a n c,.slice a' n' c',.slice b m d,x0,x1,x2,x3,x4,x5])):n≤c∧n'≤c'∧m≤d:=by
 obtain⟨s,a2,n2,c2,a3,n3,c3,b2,m2,d2,y0,y1,y2,y3,y4,y5,e,h⟩:=h
 simp only[Value.agg.injEq] at e
 injection e with e
 simp only[List.cons.injEq,Value.slice.injEq,and_true] at e
 obtain⟨_,⟨_,rfl,rfl⟩,⟨_,rfl,rfl⟩,⟨_,rfl,rfl⟩,_⟩:=e
 exact h
theorem IsTx.below {w w':World}{v:Value}{t:Tx}(h:IsTx w v t)(hb:Below w.heap.size w w'):IsTx w' v t:=by
 obtain⟨a,c,a',c',b,d,rfl,h1,h2,h3,h4,h5,h6⟩:=h
 exact⟨a,c,a',c',b,d,rfl,h1.below hb,h2.below hb,h3.below hb,h4,h5,h6⟩
theorem zaf {w:World}{B:Nat}{v0 v1 v2 v3 v4 v5 v6 v7 v8 v9:Value}{t:TypeId}(h:w.heap[B]?=some (.cells #[v0,v1,v2,v3,v4,v5,v6,v7,v8,v9] t (0,0))):
  (w.cell? ⟨B,0,none⟩=some v0∧w.cell? ⟨B,1,none⟩=some v1∧w.cell? ⟨B,2,none⟩=some v2∧w.cell? ⟨B,3,none⟩=some v3∧w.cell? ⟨B,4,none⟩=some v4∧w.cell? ⟨B,5,none⟩=some v5∧w.cell? ⟨B,6,none⟩=some v6∧w.cell? ⟨B,7,none⟩=some v7∧w.cell? ⟨B,8,none⟩=some v8∧w.cell? ⟨B,9,none⟩=some v9)∧
  ∀k,w.frozen? ⟨B,k,none⟩=false:=by
 refine⟨⟨?_,?_,?_,?_,?_,?_,?_,?_,?_,?_⟩,fun k=>frozen_of_row w _ _ _ _ h⟩<;>(rw[cell_of_row w _ _ _ _ _ h];rfl)
def zfl (t:Tx):Bool:=t.h0.on||t.h1.on||t.h2.on
def askedN (t:Tx):Int:=wrap64 (wrap64 (wrap64 (wrap64 ((t.info.length:Int)+(t.rev.length:Int))+t.h0.left)+t.h1.left)+t.h2.left)
theorem jcode_any (x:Int)(w:World):
  Calls Tryz.prog 43 #[.int .i64 x] w fun e w'=>e=.returned (.agg #[.int .i64 x,.int .i64 0,.string ⟨#[]⟩])∧Below w.heap.size w w':=by
 go_enter Tryz.func43,Tryz.ntmps43
 go_wp2
 refine bodyPost_ret (v:=.agg #[.int .i64 x,.int .i64 0,.string ⟨#[]⟩]) (by simp[results,Tryz.results43,go_sem]) rfl ⟨rfl,?_⟩
 repeat refine Below.setCell ?_ (by simp) _
 exact below1 _ _
def blksOf (l:List (Int×ByteArray)):List Int:=l.map (·.1)
def zjr (t:Tx):List Int:=blksOf t.info++(blksOf t.data++t.rev)
def zbu (l:List (Int×ByteArray)):Bool:=l.all fun x=>za3 x.2
def hdB (h:Hd):Bool:=decide (0≤h.left)&&decide (h.left≤24)&&(h.on||decide (h.left=0))
def za2 (t:Tx):Bool:=(decide (1≤t.seq)&&decide (t.seq≤2147483647))&&(zbu t.info&&zbu t.data)&&(zba (blksOf t.info)&&zba (blksOf t.data)&&zba t.rev)&&decide (zjr t).Nodup&&(hdB t.h0&&hdB t.h1&&hdB t.h2)
theorem zde (h:Hd):hdB h=true↔0≤h.left∧h.left≤24∧(h.on=false→h.left=0):=by
 cases ho:h.on<;>simp[hdB,ho,and_assoc]
theorem zay (t:Tx):za2 t=true↔(1≤t.seq∧t.seq≤2147483647)∧(zbu t.info=true∧zbu t.data=true)∧(zba (blksOf t.info)=true∧zba (blksOf t.data)=true∧zba t.rev=true)∧(zjr t).Nodup∧(hdB t.h0=true∧hdB t.h1=true∧hdB t.h2=true):=by
 simp only[za2,Bool.and_eq_true,decide_eq_true_eq,and_assoc]
def zd8 (t:Tx)(h:Int):Hd:=if h=0 then t.h0 else if h=1 then t.h1 else t.h2
def zhk (t:Tx)(h:Int)(x:Hd):Tx:=if h=0 then{t with h0:=x} else if h=1 then{t with h1:=x} else{t with h2:=x}
def za4 (t:Tx)(h n free:Int):Int:=
 if za2 t=false then 2 else if h<0∨2<h then 4 else if(zd8 t h).on=true then 5 else if n<0∨12<n then 2
 else if 24<askedN t+n∨free<zc0 (askedN t+n) then 6 else 0
def beginT (t:Tx)(h n free:Int):Tx:=if za4 t h n free=0 then zhk t h ⟨true,n⟩ else t
def zcv (t:Tx)(h:Int):Int:=if za2 t=false then 2 else if h<0∨2<h∨(zd8 t h).on=false then 4 else 0
def stopT (t:Tx)(h:Int):Tx:=if zcv t h=0 then zhk t h ⟨false,0⟩ else t
def reachE (t:Tx)(h b:Int):Int:=if za2 t=false then 2 else if h<0∨2<h∨(zd8 t h).on=false∨b<0∨11<b then 4 else 0
def zce (t:Tx)(b:Int):Bool:=(zap b t.info).isSome||zbg t.rev b
def nameE (t:Tx)(h b:Int):Int:=if zce t b=true then 0 else if(zd8 t h).left=0 then 7 else 0
def nameT (t:Tx)(h b:Int):Tx:=if zce t b=true then t else zhk t h ⟨(zd8 t h).on,(zd8 t h).left - 1⟩
def zbk {α:Type}(key:α→Int)(l:List α)(b:Int)(x:α):List α:=l.filter (fun y=>decide (key y<b))++x::l.filter (fun y=>decide (b<key y))
def zaw {α:Type}(key:α→Int)(l:List α)(b:Int):List α:=l.filter (fun y=>decide (key y<b))++l.filter (fun y=>decide (b<key y))
def changeE (t:Tx)(h b:Int)(s:ByteArray):Int:=
 if reachE t h b≠0 then reachE t h b else if za3 s=false then 1 else if(zap b t.data).isSome=true then 8 else nameE t h b
def zes (t:Tx)(h b:Int)(s:ByteArray):Tx:={nameT t h b with info:=zbk (·.1) t.info b (b,s),rev:=zaw id t.rev b}
def changeT (t:Tx)(h b:Int)(s:ByteArray):Tx:=if changeE t h b s=0 then zes t h b s else t
def fillE (t:Tx)(h b:Int)(s:ByteArray):Int:=
 if reachE t h b≠0 then reachE t h b else if za3 s=false then 1 else if zce t b=true then 8 else 0
def fillT (t:Tx)(h b:Int)(s:ByteArray):Tx:=if fillE t h b s=0 then{t with data:=zbk (·.1) t.data b (b,s)} else t
def revokeE (t:Tx)(h b:Int):Int:=
 if reachE t h b≠0 then reachE t h b else if zbg t.rev b=true then 5 else nameE t h b
def zfa (t:Tx)(h b:Int):Tx:={nameT t h b with info:=zaw (·.1) t.info b,data:=zaw (·.1) t.data b,rev:=zbk id t.rev b b}
def revokeT (t:Tx)(h b:Int):Tx:=if revokeE t h b=0 then zfa t h b else t
theorem zev (t:Tx)(h b:Int):(nameT t h b).info=t.info∧(nameT t h b).data=t.data∧(nameT t h b).rev=t.rev:=by
 unfold nameT zhk
 split
 ·exact⟨rfl,rfl,rfl⟩
 ·split
  ·exact⟨rfl,rfl,rfl⟩
  ·split<;>exact⟨rfl,rfl,rfl⟩
theorem zhl {α:Type}{key:α→Int}{l:List α}{b:Int}{x y:α}:y∈zbk key l b x↔y=x∨(y∈l∧key y≠b):=by
 unfold zbk
 simp only[List.mem_append,List.mem_cons,List.mem_filter,decide_eq_true_eq]
 constructor
 ·rintro(⟨a,c⟩|rfl|⟨a,c⟩)
  ·exact .inr ⟨a,by omega⟩
  ·exact .inl rfl
  ·exact .inr ⟨a,by omega⟩
 ·rintro(rfl|⟨a,c⟩)
  ·exact .inr (.inl rfl)
  ·by_cases h:key y<b
   ·exact .inl ⟨a,h⟩
   ·exact .inr (.inr ⟨a,by omega⟩)
theorem zgr {α:Type}{key:α→Int}{l:List α}{b:Int}{y:α}:y∈zaw key l b↔y∈l∧key y≠b:=by
 unfold zaw
 simp only[List.mem_append,List.mem_filter,decide_eq_true_eq]
 constructor
 ·rintro(⟨a,c⟩|⟨a,c⟩)<;>exact⟨a,by omega⟩
 ·rintro⟨a,c⟩
  by_cases h:key y<b
  ·exact .inl ⟨a,h⟩
  ·exact .inr ⟨a,by omega⟩
theorem z1g {α:Type}{key:α→Int}{l:List α}(h:Up key l){b:Int}{x:α}(hx:key x=b):Up key (zbk key l b x):=by
 unfold zbk Up
 rw[List.pairwise_append,List.pairwise_cons]
 refine⟨h.filter _,⟨fun y hy=>?_,h.filter _⟩,fun y hy z hz=>?_⟩
 ·have:=(List.mem_filter.1 hy).2;simp at this;omega
 ·have h1:=(List.mem_filter.1 hy).2
  simp at h1
  rcases List.mem_cons.1 hz with rfl|hz
  ·omega
  ·have:=(List.mem_filter.1 hz).2;simp at this;omega
theorem zwh {α:Type}{key:α→Int}{l:List α}(h:Up key l)(b:Int):Up key (zaw key l b):=by
 unfold zaw Up
 rw[List.pairwise_append]
 refine⟨h.filter _,h.filter _,fun y hy z hz=>?_⟩
 have h1:=(List.mem_filter.1 hy).2
 have h2:=(List.mem_filter.1 hz).2
 simp at h1 h2
 omega
theorem zwi {α:Type}{key:α→Int}{l:List α}(h:Up key l)(b:Int):zaw key l b=l.filter (fun y=>decide (key y≠b)):=by
 induction l with
 |nil=>rfl
 |cons x r ih=>
  have hr:=List.pairwise_cons.1 h
  have:=ih hr.2
  unfold zaw at this⊢
  rw[List.filter_cons,List.filter_cons,List.filter_cons]
  by_cases h1:key x<b
  ·rw[if_pos (by simpa using h1),if_neg (by simp;omega),if_pos (by simp;omega),←this];rfl
  ·have e1:r.filter (fun x=>decide (key x<b))=[]:=by rw[List.filter_eq_nil_iff];intro y hy;have:=hr.1 y hy;simp;omega
   rw[e1] at this
   rw[if_neg (by simpa using h1),e1]
   by_cases h2:key x=b
   ·rw[if_neg (by simp;omega),if_neg (by simp[h2]),←this]
   ·rw[if_pos (by simp;omega),if_pos (by simp[h2]),←this];rfl
theorem zqz {l:List (Int×ByteArray)}(h:Up (·.1) l)(j:Int):l.filter (fun y=>decide (y.1=j))=((zap j l).map fun t=>(j,t)).toList:=by
 induction l with
 |nil=>rfl
 |cons x r ih=>
  have hr:=List.pairwise_cons.1 h
  rw[List.filter_cons,zap]
  by_cases e:x.1=j
  ·have e1:r.filter (fun y=>decide (y.1=j))=[]:=by rw[List.filter_eq_nil_iff];intro y hy;have:=hr.1 y hy;simp at this⊢;omega
   rw[if_pos (by simpa using e),if_pos e,e1]
   simp[←e]
  ·rw[if_neg (by simpa using e),if_neg e]
   exact ih hr.2
def zs1 (f:Int→Option ByteArray)(j:Nat):List (Int×ByteArray):=((f (j:Int)).map fun s=>((j:Int),s)).toList
def asN (f:Int→Option ByteArray)(n:Nat):List (Int×ByteArray):=(List.range n).flatMap (zs1 f)
theorem zej (f:Int→Option ByteArray)(n:Nat):asN f (n+1)=asN f n++zs1 f n:=by
 rw[asN,List.range_succ,List.flatMap_append];simp[asN]
theorem zq0 (f:Int→Option ByteArray)(j:Nat):(zs1 f j).length≤1:=by
 unfold zs1;cases f j<;>simp
theorem zd2 (f:Int→Option ByteArray)(n:Nat):(asN f n).length≤n:=by
 induction n with
 |zero=>exact Nat.le_refl _
 |succ n ih=>rw[zej,List.length_append];have:=zq0 f n;omega
theorem zwj {f g:Int→Option ByteArray}{n:Nat}(h:∀j:Nat,j<n→f j=g j):asN f n=asN g n:=by
 induction n with
 |zero=>rfl
 |succ n ih=>rw[zej,zej,ih fun j hj=>h j (by omega),zs1,zs1,h n (by omega)]
def zhc (b:Int)(o:Option ByteArray)(t:Tx):Option ByteArray:=if(zap b t.info).isSome=true then zap b t.info else if zbg t.rev b=true then none else o
def newestF (l:List Tx)(b:Int):Option ByteArray:=l.foldl (zhc b) none
theorem zoq (l:List Tx)(t:Tx)(b:Int):newestF (l++[t]) b=zhc b (newestF l b) t:=by
 unfold newestF;rw[List.foldl_append];rfl
theorem zjb {l:List Tx}{k:Nat}{t:Tx}(h:l[k]?=some t)(b:Int):newestF (l.take (k+1)) b=zhc b (newestF (l.take k) b) t:=by
 rw[List.take_add_one,h];exact zoq _ _ _
def newestL (l:List Tx):List (Int×ByteArray):=asN (newestF l) 12
def cmpI (x y:Int):Int:=if x<y then -1 else if y<x then 1 else 0
theorem zr6 {x y:Int}(h:x<y):cmpI x y= -1:=by rw[cmpI,if_pos h]
theorem zyd {x y:Int}(h:¬x<y):¬cmpI x y<0:=by rw[cmpI,if_neg h];split<;>omega
theorem zpz (x y:Int):(cmpI x y==0)=(x==y):=by
 unfold cmpI
 by_cases h1:x<y
 ·rw[if_pos h1,show(x==y)=false from by simp;omega];rfl
 ·by_cases h2:y<x
  ·rw[if_neg h1,if_pos h2,show(x==y)=false from by simp;omega];rfl
  ·rw[if_neg h1,if_neg h2,show(x==y)=true from by simp;omega];rfl
theorem z3e {α:Type}{key:α→Int}{l:List α}(h:Up key l)(b:Int){t:Nat}{x:α}(hx:l[t]?=some x):key x<b↔t<l.countP fun x=>decide (key x<b):=by
 have hc:=zwf h b
 constructor
 ·intro hk
  by_cases e:t<l.countP fun x=>decide (key x<b)
  ·exact e
  ·have:x∈l.drop (l.countP fun x=>decide (key x<b)):=by
    refine List.mem_of_getElem? (i:=t - l.countP fun x=>decide (key x<b)) ?_
    rw[List.getElem?_drop,←hx]
    congr 1;omega
   rw[hc.2] at this
   have:=(List.mem_filter.1 this).2
   simp at this
   omega
 ·intro e
  have:x∈l.take (l.countP fun x=>decide (key x<b)):=by
   refine List.mem_of_getElem? (i:=t) ?_
   rw[List.getElem?_take_of_lt e];exact hx
  rw[hc.1] at this
  have:=(List.mem_filter.1 this).2
  simpa using this
theorem zk8 (x y:Int)(w:World):
  Calls Tryz.prog 158 #[.int .i64 x,.int .i64 y] w fun e w'=>e=.returned (.int .i64 (cmpI x y))∧w=w':=by
 by_cases h1:x<y
 ·have HC:=zaa (zr6 h1)
  go_enter Tryz.func158,Tryz.ntmps158
  go_wp2
  go_ret
  exact⟨by rw[HC.o];rfl,rfl⟩
 ·by_cases h2:y<x
  ·have HC:Hid (cmpI x y=1):=by rw[Hid,cmpI,if_neg h1,if_pos h2]
   go_enter Tryz.func158,Tryz.ntmps158
   go_wp2
   go_ret
   exact⟨by rw[HC.o];rfl,rfl⟩
  ·have HC:Hid (cmpI x y=0):=by rw[Hid,cmpI,if_neg h1,if_neg h2]
   go_enter Tryz.func158,Tryz.ntmps158
   go_wp2
   go_ret
   exact⟨by rw[HC.o];rfl,rfl⟩
theorem zgi (x y:Int)(w:World):
  Calls Tryz.prog 158 #[.int .i64 x,.int .i64 y] w fun e w'=>e=.returned (.int .i64 (cmpI x y))∧Below w.heap.size w w':=
 (zk8 x y w).mono fun _ _ ⟨h1,h2⟩=>⟨h1,h2▸Below.refl _ _⟩
theorem zhs (n:Int)(t:ByteArray)(b:Int)(w:World):
  Calls Tryz.prog 156 #[.agg #[.int .i64 n,.string t],.int .i64 b] w fun e w'=>e=.returned (.int .i64 (cmpI n b))∧Below w.heap.size w w':=by
 go_enter Tryz.func156,Tryz.ntmps156
 go_wp2_with (go_at_call 158;refine(zk8 _ _ _).mono ?_;rintro e w' ⟨rfl,rfl⟩)
 go_ret
 exact⟨rfl,below1 _ _⟩
end Go.Proofs.YtjnpndfpajjihacGreat

