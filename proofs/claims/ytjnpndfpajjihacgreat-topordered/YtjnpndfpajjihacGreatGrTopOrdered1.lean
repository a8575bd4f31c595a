/-
  
-/
import Derived.Test.YtjnpndfpajjihacGreatGrTopOrdered0
import Derived.Deep.QuietTactic
import Derived.BigQuiet
set_option maxRecDepth 100000
set_option maxHeartbeats 40000000
namespace Go.Proofs.YtjnpndfpajjihacGreat
open Go.RowKit
def zay (l:List Int)(b:Int):Bool:=l.any (·==b)
def zai (b:Int):List (Int×ByteArray)→Option ByteArray
 |[]=>none
 |x::r=>if x.1=b then some x.2 else zai b r
theorem z31{α:Type}{l:List α}{k:Nat}{x:α}{p:α→Bool}(h:l[k]?=some x)(hp:p x=true):l.any p=true:=
 List.any_eq_true.2 ⟨x,List.mem_of_getElem? h,hp⟩
theorem zuq{α:Type}{l:List α}{k:Nat}{x:α}{p:α→Bool}(h:l[k]?=some x)(hp:p x=false)(ht:(l.take k).any p=false):(l.take (k+1)).any p=false:=by
 rw[List.take_add_one,h,List.any_append,ht];simp[hp]
theorem z1t{l:List (Int×ByteArray)}{k:Nat}{x:Int×ByteArray}{b:Int}(h:l[k]?=some x)(hp:x.1=b)(ht:zai b (l.take k)=none):zai b l=some x.2:=by
 induction l generalizing k with
 |nil=>simp at h
 |cons y r ih=>
  cases k with
  |zero=>simp at h;subst h;simp[zai,hp]
  |succ k=>
   rw[List.take_succ_cons,zai]at ht;by_cases e:y.1=b
   ·rw[if_pos e]at ht;cases ht
   ·rw[if_neg e]at ht;rw[zai,if_neg e];exact ih (by simpa using h) ht
structure Hd where
 on:Bool
 left:Int
structure Tx where
 seq:Int
 info:List (Int×ByteArray)
 data:List (Int×ByteArray)
 rev:List Int
 h0:Hd
 h1:Hd
 h2:Hd
def IsTx (w:World)(v:Value)(t:Tx):Prop:=
 ∃a c a' c' b d,v=.agg #[.int .i64 t.seq,.slice a t.info.length c,.slice a' t.data.length c',.slice b t.rev.length d,.bool t.h0.on,.int .i64 t.h0.left,.bool t.h1.on,.int .i64 t.h1.left,.bool t.h2.on,.int .i64 t.h2.left]∧
  SegW w a t.info∧SegW w a' t.data∧SegI w b t.rev∧t.info.length≤maxLen∧t.data.length≤maxLen∧t.rev.length≤maxLen
def RoomTx (v:Value):Prop:=
 ∃s a n c a' n' c' b m d x0 x1 x2 x3 x4 x5,v=.agg #[s,.slice a n c,.slice a' n' c',.slice b m d,x0,x1,x2,x3,x4,x5]∧n≤c∧n'≤c'∧m≤d
theorem RoomTx.is{q x0 x1 x2 x3 x4 x5:Value}{a a' b:Option Addr}{n c n' c' m d:Nat}(h:RoomTx (.agg #[q,.slice a n c,.slice a' n' c',.slice b m d,x0,x1,x2,x3,x4,x5])):n≤c∧n'≤c'∧m≤d:=by
 obtain⟨s,a2,n2,c2,a3,n3,c3,b2,m2,d2,y0,y1,y2,y3,y4,y5,e,h⟩:=h;simp only[Value.agg.injEq]at e
 injection e with e
 simp only[List.cons.injEq,Value.slice.injEq,and_true]at e;obtain⟨_,⟨_,rfl,rfl⟩,⟨_,rfl,rfl⟩,⟨_,rfl,rfl⟩,_⟩:=e;exact h
theorem IsTx.below{w w':World}{v:Value}{t:Tx}(h:IsTx w v t)(hb:Below w.heap.size w w'):IsTx w' v t:=by
 obtain⟨a,c,A,F,b,d,rfl,I,B,D,J,E,C⟩:=h;exact⟨a,c,A,F,b,d,rfl,I.below hb,B.below hb,D.below hb,J,E,C⟩
theorem zaj{w:World}{B:Nat}{v0 v1 v2 v3 v4 v5 v6 v7 v8 v9:Value}{t:TypeId}(h:w.heap[B]?=some (.cells #[v0,v1,v2,v3,v4,v5,v6,v7,v8,v9] t (0,0))):
  (w.cell? ⟨B,0,none⟩=some v0∧w.cell? ⟨B,1,none⟩=some v1∧w.cell? ⟨B,2,none⟩=some v2∧w.cell? ⟨B,3,none⟩=some v3∧w.cell? ⟨B,4,none⟩=some v4∧w.cell? ⟨B,5,none⟩=some v5∧w.cell? ⟨B,6,none⟩=some v6∧w.cell? ⟨B,7,none⟩=some v7∧w.cell? ⟨B,8,none⟩=some v8∧w.cell? ⟨B,9,none⟩=some v9)∧
  ∀k,w.frozen? ⟨B,k,none⟩=false:=by
 refine⟨⟨?_,?_,?_,?_,?_,?_,?_,?_,?_,?_⟩,fun k=>frozen_of_row w _ _ _ _ h⟩<;>(rw[cell_of_row w _ _ _ _ _ h];rfl)
def zia (t:Tx):Bool:=t.h0.on||t.h1.on||t.h2.on
def zb2 (t:Tx):Int:=wrap64 (wrap64 (wrap64 (wrap64 ((t.info.length:Int)+(t.rev.length:Int))+t.h0.left)+t.h1.left)+t.h2.left)
theorem zav(x:Int)(w:World):
  Calls Tryz.prog 43 #[.int .i64 x] w fun e w'=>e=.returned (.agg #[.int .i64 x,.int .i64 0,.string ⟨#[]⟩])∧Below w.heap.size w w':=by
 go_enter Tryz.func43,Tryz.ntmps43;go_wp2;refine bodyPost_ret (v:=.agg #[.int .i64 x,.int .i64 0,.string ⟨#[]⟩]) (by simp[results,Tryz.results43,go_sem]) rfl ⟨rfl,?_⟩
 repeat refine Below.setCell ?_ (by simp) _
 exact zaa _ _
def blksOf (l:List (Int×ByteArray)):List Int:=l.map (·.1)
def zky (t:Tx):List Int:=blksOf t.info++(blksOf t.data++t.rev)
def zb6 (l:List (Int×ByteArray)):Bool:=l.all fun x=>zbb x.2
def hdB (h:Hd):Bool:=decide (0≤h.left)&&decide (h.left≤24)&&(h.on||decide (h.left=0))
def zba (t:Tx):Bool:=(decide (1≤t.seq)&&decide (t.seq≤2147483647))&&(zb6 t.info&&zb6 t.data)&&(zbk (blksOf t.info)&&zbk (blksOf t.data)&&zbk t.rev)&&decide (zky t).Nodup&&(hdB t.h0&&hdB t.h1&&hdB t.h2)
theorem zer(h:Hd):hdB h=true↔0≤h.left∧h.left≤24∧(h.on=false→h.left=0):=by
 cases ho:h.on<;>simp[hdB,ho,and_assoc]
theorem za9(t:Tx):zba t=true↔(1≤t.seq∧t.seq≤2147483647)∧(zb6 t.info=true∧zb6 t.data=true)∧(zbk (blksOf t.info)=true∧zbk (blksOf t.data)=true∧zbk t.rev=true)∧(zky t).Nodup∧(hdB t.h0=true∧hdB t.h1=true∧hdB t.h2=true):=by
 simp only[zba,Bool.and_eq_true,decide_eq_true_eq,and_assoc]
def zes (t:Tx)(h:Int):Hd:=if h=0 then t.h0 else if h=1 then t.h1 else t.h2
def ze6 (t:Tx)(h:Int)(x:Hd):Tx:=if h=0 then{t with h0:=x} else if h=1 then{t with h1:=x} else{t with h2:=x}
def zbc (t:Tx)(h n free:Int):Int:=
 if zba t=false then 2 else if h<0∨2<h then 4 else if(zes t h).on=true then 5 else if n<0∨12<n then 2
 else if 24<zb2 t+n∨free<ze5 (zb2 t+n) then 6 else 0
def zaw (t:Tx)(h n free:Int):Tx:=if zbc t h n free=0 then ze6 t h ⟨true,n⟩ else t
def zda (t:Tx)(h:Int):Int:=if zba t=false then 2 else if h<0∨2<h∨(zes t h).on=false then 4 else 0
def zb3 (t:Tx)(h:Int):Tx:=if zda t h=0 then ze6 t h ⟨false,0⟩ else t
def reachE (t:Tx)(h b:Int):Int:=if zba t=false then 2 else if h<0∨2<h∨(zes t h).on=false∨b<0∨11<b then 4 else 0
def zcq (t:Tx)(b:Int):Bool:=(zai b t.info).isSome||zay t.rev b
def nameE (t:Tx)(h b:Int):Int:=if zcq t b=true then 0 else if(zes t h).left=0 then 7 else 0
def nameT (t:Tx)(h b:Int):Tx:=if zcq t b=true then t else ze6 t h ⟨(zes t h).on,(zes t h).left - 1⟩
def zbj {α:Type}(key:α→Int)(l:List α)(b:Int)(x:α):List α:=l.filter (fun y=>decide (key y<b))++x::l.filter (fun y=>decide (b<key y))
def zax {α:Type}(key:α→Int)(l:List α)(b:Int):List α:=l.filter (fun y=>decide (key y<b))++l.filter (fun y=>decide (b<key y))
def changeE (t:Tx)(h b:Int)(s:ByteArray):Int:=
 if reachE t h b≠0 then reachE t h b else if zbb s=false then 1 else if(zai b t.data).isSome=true then 8 else nameE t h b
def zet (t:Tx)(h b:Int)(s:ByteArray):Tx:={nameT t h b with info:=zbj (·.1) t.info b (b,s),rev:=zax id t.rev b}
def zaf (t:Tx)(h b:Int)(s:ByteArray):Tx:=if changeE t h b s=0 then zet t h b s else t
def fillE (t:Tx)(h b:Int)(s:ByteArray):Int:=
 if reachE t h b≠0 then reachE t h b else if zbb s=false then 1 else if zcq t b=true then 8 else 0
def zao (t:Tx)(h b:Int)(s:ByteArray):Tx:=if fillE t h b s=0 then{t with data:=zbj (·.1) t.data b (b,s)} else t
def revokeE (t:Tx)(h b:Int):Int:=
 if reachE t h b≠0 then reachE t h b else if zay t.rev b=true then 5 else nameE t h b
def zeu (t:Tx)(h b:Int):Tx:={nameT t h b with info:=zax (·.1) t.info b,data:=zax (·.1) t.data b,rev:=zbj id t.rev b b}
def zag (t:Tx)(h b:Int):Tx:=if revokeE t h b=0 then zeu t h b else t
theorem zei(t:Tx)(h b:Int):(nameT t h b).info=t.info∧(nameT t h b).data=t.data∧(nameT t h b).rev=t.rev:=by
 unfold nameT ze6;split
 ·exact⟨rfl,rfl,rfl⟩
 ·split
  ·exact⟨rfl,rfl,rfl⟩
  ·split<;>exact⟨rfl,rfl,rfl⟩
theorem z44{α:Type}{key:α→Int}{l:List α}(b:Int)(x:α)(hx:key x=b)(j:Int)(hj:j≠b):(zbj key l b x).filter (fun y=>decide (key y=j))=l.filter (fun y=>decide (key y=j)):=by
 unfold zbj;rw[List.filter_append,List.filter_cons,if_neg (by simp[hx];omega),List.filter_filter,List.filter_filter];by_cases h:j<b
 ·have B:l.filter (fun a=>decide (key a=j)&&decide (key a<b))=l.filter (fun y=>decide (key y=j)):=List.filter_congr (fun z _=>by by_cases e:key z=j<;>simp[e,h]);have A:l.filter (fun a=>decide (key a=j)&&decide (b<key a))=[]:=by rw[List.filter_eq_nil_iff];intro z _;simp;omega
  rw[B,A,List.append_nil]
 ·have B:l.filter (fun a=>decide (key a=j)&&decide (b<key a))=l.filter (fun y=>decide (key y=j)):=List.filter_congr (fun z _=>by by_cases e:key z=j<;>simp[e];omega);have A:l.filter (fun a=>decide (key a=j)&&decide (key a<b))=[]:=by rw[List.filter_eq_nil_iff];intro z _;simp;omega
  rw[B,A,List.nil_append]
theorem z15{α:Type}{key:α→Int}{l:List α}(b:Int)(x:α)(hx:key x=b):(zbj key l b x).filter (fun y=>decide (key y=b))=[x]:=by
 unfold zbj;rw[List.filter_append,List.filter_cons,if_pos (by simp[hx]),List.filter_filter,List.filter_filter];have B:l.filter (fun a=>decide (key a=b)&&decide (b<key a))=[]:=by rw[List.filter_eq_nil_iff];intro z _;simp;omega
 have A:l.filter (fun a=>decide (key a=b)&&decide (key a<b))=[]:=by rw[List.filter_eq_nil_iff];intro z _;simp;omega
 rw[B,A];rfl
theorem zfj{α:Type}{key:α→Int}{l:List α}{b:Int}{x y:α}:y∈zbj key l b x↔y=x∨(y∈l∧key y≠b):=by
 unfold zbj;simp only[List.mem_append,List.mem_cons,List.mem_filter,decide_eq_true_eq];constructor
 ·rintro(⟨a,c⟩|rfl|⟨a,c⟩)
  ·exact .inr ⟨a,by omega⟩
  ·exact .inl rfl
  ·exact .inr ⟨a,by omega⟩
 ·rintro(rfl|⟨a,c⟩)
  ·exact .inr (.inl rfl)
  ·by_cases h:key y<b
   ·exact .inl ⟨a,h⟩
   ·exact .inr (.inr ⟨a,by omega⟩)
theorem zd6{α:Type}{key:α→Int}{l:List α}{b:Int}{y:α}:y∈zax key l b↔y∈l∧key y≠b:=by
 unfold zax;simp only[List.mem_append,List.mem_filter,decide_eq_true_eq];constructor
 ·rintro(⟨a,c⟩|⟨a,c⟩)<;>exact⟨a,by omega⟩
 ·rintro⟨a,c⟩;by_cases h:key y<b
  ·exact .inl ⟨a,h⟩
  ·exact .inr ⟨a,by omega⟩
theorem zuu{α:Type}{key:α→Int}{l:List α}(h:Up key l){b:Int}{x:α}(hx:key x=b):Up key (zbj key l b x):=by
 unfold zbj Up;rw[List.pairwise_append,List.pairwise_cons];refine⟨h.filter _,⟨fun y hy=>?_,h.filter _⟩,fun y hy z hz=>?_⟩
 ·have:=(List.mem_filter.1 hy).2;simp at this;omega
 ·have A:=(List.mem_filter.1 hy).2;simp at A;rcases List.mem_cons.1 hz with rfl|hz
  ·omega
  ·have:=(List.mem_filter.1 hz).2;simp at this;omega
theorem zsl{α:Type}{key:α→Int}{l:List α}(h:Up key l)(b:Int):Up key (zax key l b):=by
 unfold zax Up;rw[List.pairwise_append];refine⟨h.filter _,h.filter _,fun y hy z hz=>?_⟩;have B:=(List.mem_filter.1 hy).2;have A:=(List.mem_filter.1 hz).2;simp at B A;omega
theorem zsm{α:Type}{key:α→Int}{l:List α}(h:Up key l)(b:Int):zax key l b=l.filter (fun y=>decide (key y≠b)):=by
 induction l with
 |nil=>rfl
 |cons x r ih=>
  have A:=List.pairwise_cons.1 h;have:=ih A.2;unfold zax at this⊢;rw[List.filter_cons,List.filter_cons,List.filter_cons];by_cases h1:key x<b
  ·rw[if_pos (by simpa using h1),if_neg (by simp;omega),if_pos (by simp;omega),←this];rfl
  ·have B:r.filter (fun x=>decide (key x<b))=[]:=by rw[List.filter_eq_nil_iff];intro y C;have:=A.1 y C;simp;omega
   rw[B]at this;rw[if_neg (by simpa using h1),B];by_cases h2:key x=b
   ·rw[if_neg (by simp;omega),if_neg (by simp[h2]),←this]
   ·rw[if_pos (by simp;omega),if_pos (by simp[h2]),←this];rfl
theorem zgc{l:List (Int×ByteArray)}(h:Up (·.1) l)(j:Int):l.filter (fun y=>decide (y.1=j))=((zai j l).map fun t=>(j,t)).toList:=by
 induction l with
 |nil=>rfl
 |cons x r ih=>
  have A:=List.pairwise_cons.1 h;rw[List.filter_cons,zai];by_cases e:x.1=j
  ·have B:r.filter (fun y=>decide (y.1=j))=[]:=by rw[List.filter_eq_nil_iff];intro y C;have:=A.1 y C;simp at this⊢;omega
   rw[if_pos (by simpa using e),if_pos e,B];simp[←e]
  ·rw[if_neg (by simpa using e),if_neg e];exact ih A.2
def zpw (f:Int→Option ByteArray)(j:Nat):List (Int×ByteArray):=((f (j:Int)).map fun s=>((j:Int),s)).toList
def asN (f:Int→Option ByteArray)(n:Nat):List (Int×ByteArray):=(List.range n).flatMap (zpw f)
theorem zee(f:Int→Option ByteArray)(n:Nat):asN f (n+1)=asN f n++zpw f n:=by
 rw[asN,List.range_succ,List.flatMap_append];simp[asN]
theorem zsn(f:Int→Option ByteArray)(j:Nat):(zpw f j).length≤1:=by
 unfold zpw;cases f j<;>simp
theorem zej(f:Int→Option ByteArray)(n:Nat):(asN f n).length≤n:=by
 induction n with
 |zero=>exact Nat.le_refl _
 |succ n ih=>rw[zee,List.length_append];have:=zsn f n;omega
theorem zyk{f g:Int→Option ByteArray}{n:Nat}(h:∀j:Nat,j<n→f j=g j):asN f n=asN g n:=by
 induction n with
 |zero=>rfl
 |succ n ih=>rw[zee,zee,ih fun j hj=>h j (by omega),zpw,zpw,h n (by omega)]
theorem zoh(b:Int)(l r:List (Int×ByteArray)):zai b (l++r)=if(zai b l).isSome=true then zai b l else zai b r:=by
 induction l with
 |nil=>rfl
 |cons x l ih=>
  rw[List.cons_append,zai,zai];by_cases e:x.1=b
  ·simp[e]
  ·rw[if_neg e,if_neg e,ih]
theorem zvt(f:Int→Option ByteArray)(n:Nat)(b:Int):zai b (asN f n)=if 0≤b∧b<n then f b else none:=by
 induction n with
 |zero=>rw[if_neg (by omega)];rfl
 |succ n ih=>
  rw[zee,zoh,ih];by_cases h:0≤b∧b<n
  ·rw[if_pos h,if_pos (⟨h.1,by omega⟩:0≤b∧b<(n+1:Nat))]
   have e:zai b (zpw f n)=none:=by
    unfold zpw
    cases f n with
    |none=>rfl
    |some s=>simp only[Option.map_some,Option.toList_some,zai];rw[if_neg (by omega)]
   rw[e];cases f b<;>rfl
  ·rw[if_neg h];by_cases h2:b=n
   ·subst h2;rw[if_pos (⟨by omega,by omega⟩:(0:Int)≤(n:Int)∧(n:Int)<(n+1:Nat))];unfold zpw
    cases f n with
    |none=>rfl
    |some s=>simp[zai]
   ·rw[if_neg (show¬(0≤b∧b<((n+1:Nat):Int)) by omega)];unfold zpw
    cases f n with
    |none=>rfl
    |some s=>
     have A:¬(n:Int)=b:=fun e=>h2 e.symm;simp[zai,A]
def zcu (b:Int)(o:Option ByteArray)(t:Tx):Option ByteArray:=if(zai b t.info).isSome=true then zai b t.info else if zay t.rev b=true then none else o
def newestF (l:List Tx)(b:Int):Option ByteArray:=l.foldl (zcu b) none
theorem ze9(l:List Tx)(t:Tx)(b:Int):newestF (l++[t]) b=zcu b (newestF l b) t:=by
 unfold newestF;rw[List.foldl_append];rfl
theorem zkd{l:List Tx}{k:Nat}{t:Tx}(h:l[k]?=some t)(b:Int):newestF (l.take (k+1)) b=zcu b (newestF (l.take k) b) t:=by
 rw[List.take_add_one,h];exact ze9 _ _ _
def newestL (l:List Tx):List (Int×ByteArray):=asN (newestF l) 12
open Go.Proofs.Tryz
def cmpI (x y:Int):Int:=if x<y then -1 else if y<x then 1 else 0
theorem ztu{x y:Int}(h:x<y):cmpI x y= -1:=by rw[cmpI,if_pos h]
theorem z0d{x y:Int}(h:¬x<y):¬cmpI x y<0:=by rw[cmpI,if_neg h];split<;>omega
theorem zrd(x y:Int):(cmpI x y==0)=(x==y):=by
 unfold cmpI;by_cases h1:x<y
 ·rw[if_pos h1,show(x==y)=false from by simp;omega];rfl
 ·by_cases h2:y<x
  ·rw[if_neg h1,if_pos h2,show(x==y)=false from by simp;omega];rfl
  ·rw[if_neg h1,if_neg h2,show(x==y)=true from by simp;omega];rfl
theorem z5q{α:Type}{key:α→Int}{l:List α}(h:Up key l)(b:Int){t:Nat}{x:α}(hx:l[t]?=some x):key x<b↔t<l.countP fun x=>decide (key x<b):=by
 have A:=zyi h b;constructor
 ·intro hk;by_cases e:t<l.countP fun x=>decide (key x<b)
  ·exact e
  ·have:x∈l.drop (l.countP fun x=>decide (key x<b)):=by
    refine List.mem_of_getElem? (i:=t - l.countP fun x=>decide (key x<b)) ?_;rw[List.getElem?_drop,←hx]
    congr 1;omega
   rw[A.2]at this;have:=(List.mem_filter.1 this).2;simp at this;omega
 ·intro e
  have:x∈l.take (l.countP fun x=>decide (key x<b)):=by
   refine List.mem_of_getElem? (i:=t) ?_;rw[List.getElem?_take_of_lt e];exact hx
  rw[A.1]at this;have:=(List.mem_filter.1 this).2
  simpa using this
theorem zmg(x y:Int)(w:World):
  Calls prog 158 #[.int .i64 x,.int .i64 y] w fun e w'=>e=.returned (.int .i64 (cmpI x y))∧w=w':=by
 by_cases h1:x<y
 ·have A:=zab (ztu h1);go_enter func158,ntmps158;go_wp2;go_ret;exact⟨by rw[A.o];rfl,rfl⟩
 ·by_cases h2:y<x
  ·have A:Hid (cmpI x y=1):=by rw[Hid,cmpI,if_neg h1,if_pos h2]
   go_enter func158,ntmps158;go_wp2;go_ret;exact⟨by rw[A.o];rfl,rfl⟩
  ·have A:Hid (cmpI x y=0):=by rw[Hid,cmpI,if_neg h1,if_neg h2]
   go_enter func158,ntmps158;go_wp2;go_ret;exact⟨by rw[A.o];rfl,rfl⟩
theorem zhf(x y:Int)(w:World):
  Calls prog 158 #[.int .i64 x,.int .i64 y] w fun e w'=>e=.returned (.int .i64 (cmpI x y))∧Below w.heap.size w w':=
 (zmg x y w).mono fun _ _ ⟨h1,h2⟩=>⟨h1,h2▸Below.refl _ _⟩
theorem zil(n:Int)(t:ByteArray)(b:Int)(w:World):
  Calls prog 156 #[.agg #[.int .i64 n,.string t],.int .i64 b] w fun e w'=>e=.returned (.int .i64 (cmpI n b))∧Below w.heap.size w w':=by
 go_enter func156,ntmps156;go_wp2_with (go_at_call 158;refine(zmg _ _ _).mono ?_;rintro e w' ⟨rfl,rfl⟩);go_ret;exact⟨rfl,zaa _ _⟩
