/-
  
-/
import Derived.Test.YtjnpndfpajjihacGreatGrTopMemory3
import Derived.Test.YtjnpndfpajjihacGreatTConcatI
set_option maxRecDepth 100000
set_option maxHeartbeats 40000000
namespace Go.Proofs.YtjnpndfpajjihacGreat
open Go.RowKit
theorem zgi (w:World)(base:Nat)(ty:TypeId)(v:Value)(n c:Nat)(xs:List Value)(h:w.ownsRow base 84 2 v n xs):
  (Builtin.append_ #[34,34] ty #[v,.slice none 0 c]).run Tryz.prog w=.ok v w:=by
 obtain⟨i0,hi,hz0,hz1,hz2⟩:=info_parts zuv;rcases h.2 with⟨rfl,rfl⟩|⟨g,cap,cur,rfl,hb,hg,hnc,hcm,hrest⟩
 ·exact zef w _ _ _ i0 c Tryz.underlying34 hi
 ·simp[Builtin.append_,run_underlying Tryz.underlying34,sizeOf,typeInfo,hi,Builtin.lenOf,Builtin.firstCells,hnc,storeCells]
theorem zh4 (w W:World)(base:Nat){ops:Array Oper}{rest:List Oper}{o:Oper}{a:Act}{Q:Exit→Act→World→Prop}(hgd:o.guard=none)(s x:Operand)
  (ho:o.op=.call {callee:=.builtin .append,args:=#[s,x],argTypes:=#[34,34]})
  (v:Value) (n:Nat) (xs:List Value) (hs:a.eval s=v) (hown:w.ownsRow base 84 2 v n xs) (ao:Option Addr) (c:Nat) (l:List (Int×ByteArray)) (hx:a.eval x=.slice ao l.length c) (hS:SegW w ao l)
  (hn:n+l.length≤1000) (hbase:base≤w.heap.size) (hB:Below base W w)
  (h:∀v' w',Hid (w'.ownsRow base 84 2 v' (n+l.length) (xs++cellsC l))→Hid (Below base W w')→wpList Tryz.prog ops Q rest (a.put o.dst v') w'):wpList Tryz.prog ops Q (o::rest) a w:=by
 obtain⟨i0,hi,hz0,hz1,hz2⟩:=info_parts zuv
 cases ao with
 |none=>
  have h0:l=[]:=by rcases hS with h|⟨b,off,he,_⟩;exact h;cases he
  subst h0;refine Lib.wpList_append_run w hgd s x _ _ ho _ _ hs hx v w (zgi w base o.type v n c xs hown) (h v w ?_ hB);show w.ownsRow base 84 2 v (n+0) (xs++[]);rw[List.append_nil];exact hown
 |some ad=>
  refine wpList_append_own w hgd s x 34 ho base 84 i0 (.agg #[.int .i64 0,.string ⟨#[]⟩]) 2 24 Tryz.underlying34 hi hz0 hz1 hz2 rfl (by decide) v n xs hs hown ad l.length c (cellsC l) hx (zdj l) ?_ (zg4 l) (by unfold maxLen;omega) (by omega) hbase ?_
  ·intro j u hj
   rcases hS with h|⟨b,off,he,hlt,hc⟩
   ·rw[h] at hj;simp[cellsC] at hj
   ·cases he
    rw[Addr.add_lit];exact SegC.news hc j u hj
  ·intro v' w' hown' hgrow _
   exact h v' w' hown' (hB.grown hgrow hbase (fun k hk=>(hown.lt k hk).1))
def flatC (L:List (Option Addr×Nat×List (Int×ByteArray))):List (Int×ByteArray):=(L.map (·.2.2)).flatten
theorem zm3 {L:List (Option Addr×Nat×List (Int×ByteArray))}{k:Nat}{x:Option Addr×Nat×List (Int×ByteArray)}(h:L[k]?=some x):flatC (L.take (k+1))=flatC (L.take k)++x.2.2:=by
 rw[List.take_add_one,h];simp[flatC]
theorem zkp (L:List (Option Addr×Nat×List (Int×ByteArray)))(k:Nat):(flatC (L.take k)).length≤(flatC L).length:=by
 have:flatC L=flatC (L.take k)++flatC (L.drop k):=by rw[flatC,flatC,flatC,←List.flatten_append,←List.map_append,List.take_append_drop]
 rw[this,List.length_append];omega
def z29 (w:World)(B:Nat)(L:List (Option Addr×Nat×List (Int×ByteArray))):Prop:=
 B<w.heap.size∧∀i x,L[i]?=some x→w.cell? ⟨B,i,none⟩=some (.slice x.1 x.2.2.length x.2.1)∧SegW w x.1 x.2.2
theorem zzk (n:Nat)(w:World)(hn:n≤1000):
  Calls Tryz.prog 213 #[.slice none 0 0,.int .i64 n] w fun e w'=>∃v',e=.returned v'∧w'.ownsRow w.heap.size 84 2 v' 0 []∧Below w.heap.size w w':=by
 obtain⟨i0,hi,hz0,hz1,hz2⟩:=info_parts zuv;rcases Nat.eq_zero_or_pos n with rfl|hpos
 ·go_enter Tryz.func213,Tryz.ntmps213
  go_wp2;go_ret;exact⟨_,rfl,World.ownsRow_nil _ _ _ _,Below.refl _ _⟩
 ·obtain⟨G,hG⟩:∃G,G=grownCap w n 0 84:=⟨_,rfl⟩
  have hGn:n≤G:=by rw[hG];exact grownCap_ge w _ _ _
  have hGm:G≤maxLen:=by rw[hG];exact grownCap_le_maxLen w n 0 _ (by unfold maxLen;omega)
  obtain⟨cur,hcur⟩:∃cur,cur=#[]++Builtin.zeroCells (.agg #[.int .i64 0,.string ⟨#[]⟩]:Value).cells n++Builtin.zeroCells (.agg #[.int .i64 0,.string ⟨#[]⟩]:Value).cells (G - n):=⟨_,rfl⟩
  have hsz:cur.size=G*2:=by
   rw[hcur,Array.size_append,Array.size_append,size_zeroCells,size_zeroCells];show 0+n*2+(G - n)*2=G*2;omega
  have hrz:∀ty,(Builtin.append_ #[34,3] ty #[.slice none 0 0,.int .i64 (n:Int)]).run Tryz.prog w=.ok (.slice (some ⟨w.heap.size,0,none⟩) n G) (w.drew.alloc (.cells cur 84)):=fun ty=>by
   have h:=Lib.run_append_grow_zeros (P:=Tryz.prog) w 34 3 ty 84 i0 (.agg #[.int .i64 0,.string ⟨#[]⟩]) .i64 .i64 Tryz.underlying34 Tryz.underlying3 hi hz0 none 0 0 [] (run_firstCells_none w.drew i0.size 0 0 0) n hpos (by rw[hz1];decide) (by omega) (by omega) (by rw[hz2];omega) (by rw[Nat.zero_add,hz2];exact growslice_fits (by omega) (by omega));rw[Nat.zero_add,←hG] at h;rw[h,hcur]
  have HO:Hid ((w.drew.alloc (.cells cur 84)).ownsRow w.heap.size 84 2 (.slice (some ⟨w.heap.size,0,none⟩) 0 G) 0 []):=World.ownsRow_made w.drew cur G (Nat.le_refl _) hGm hsz;clear hG hcur hsz;unfold maxLen at hGm;have h1:¬((n:Int)<0):=by omega
  have h2:(n:Int)>0:=by omega
  go_enter Tryz.func213,Tryz.ntmps213;go_wp2_with (at_builtin;refine Lib.wpList_append_run _ rfl _ _ _ _ rfl _ _ rfl rfl _ _ (hrz _) ?_);go_ret;exact⟨_,rfl,HO.o,(Below.refl _ _).drew.alloc (by simp) _⟩
theorem zlz (B m c:Nat)(L:List (Option Addr×Nat×List (Int×ByteArray)))(w:World)(hm:L.length=m)(hm2:m≤1000)(h:z29 w B L)(hn:(flatC L).length≤1000):
  Calls Tryz.prog 194 #[.slice (some ⟨B,0,none⟩) m c] w fun e w'=>∃v',e=.returned v'∧w'.ownsRow w.heap.size 84 2 v' (flatC L).length (cellsC (flatC L))∧Below w.heap.size w w':=by
 subst hm;have HS:=zaa h;clear h;go_enter Tryz.func194,Tryz.ntmps194;go_wp2
 go_loop [3,11] (fun s i=>∃k:Nat,k≤L.length∧i=.int .i64 k∧s=.int .i64 ((flatC (L.take k)).length:Int)) (fun _ i=>L.length - (intOf i).toNat)
 case atStart=>exact⟨0,Nat.zero_le _,rfl,rfl⟩
 case round=>
  obtain⟨k,hk,rfl,rfl⟩:=hrel;have hle:=zkp L k;by_cases hlt:k<L.length
  ·obtain⟨x,hx⟩:∃x,L[k]?=some x:=⟨_,List.getElem?_eq_getElem hlt⟩
   have hc:=(HS.o.2 k x hx).1;have HF:Hid ((flatC (L.take (k+1))).length=(flatC (L.take k)).length+x.2.2.length):=by rw[Hid,zm3 hx,List.length_append]
   have hle2:=zkp L (k+1);rw[HF.o] at hle2;have hlt':(k:Int)<(L.length:Int):=by omega
   clear hx;generalize (flatC (L.take k)).length=q at *;obtain⟨xa,xc,xl⟩:=x;dsimp only at hle2 hc HF;go_wp2
   go_round
   case rel=>exact⟨k+1,by omega,by go_num,by rw[HF.o];go_num⟩
   case measure=>simp[intOf];omega
  ·have e:k=L.length:=by omega
   subst e;rw[List.take_length];clear hle;obtain⟨N,hN⟩:∃N,N=(flatC L).length:=⟨_,rfl⟩;rw[←hN] at hn;rw[←hN];have HN:=zaa hN;clear hN;go_wp2_with fail;refine(zzk N w hn).mono ?_;rintro e w1 ⟨v1,rfl,hown1,hb1⟩;have HO1:=zaa hown1;have HB1:=zaa hb1;clear hown1 hb1;go_wp2
   go_loopw [6,27] (fun s i wr=>∃(k:Nat),k≤L.length∧i=.int .i64 k∧Hid (wr.ownsRow w.heap.size 84 2 s (flatC (L.take k)).length (cellsC (flatC (L.take k))))∧Hid (Below w.heap.size w wr)) (fun _ i _=>L.length - (intOf i).toNat)
   case atStart=>exact⟨0,Nat.zero_le _,rfl,HO1,HB1⟩
   case round=>
    obtain⟨k,hk,rfl,hown,hbr⟩:=hrel;have hle:=zkp L k;rw[←HN.o] at hle;by_cases hlt:k<L.length
    ·obtain⟨x,hx⟩:∃x,L[k]?=some x:=⟨_,List.getElem?_eq_getElem hlt⟩
     have hc:=zac hbr.o HS.o.1 (HS.o.2 k x hx).1;have HX:Hid (SegW wr x.1 x.2.2):=(HS.o.2 k x hx).2.below hbr.o;have HF:Hid (flatC (L.take (k+1))=flatC (L.take k)++x.2.2):=zm3 hx;have hle2:=zkp L (k+1);rw[HF.o,List.length_append,←HN.o] at hle2;have hlt':(k:Int)<(L.length:Int):=by omega
     clear hx;generalize flatC (L.take k)=q at *;obtain⟨xa,xc,xl⟩:=x;dsimp only at hle2 hc HF HX;go_wp2_with (at_builtin;refine zh4 _ w w.heap.size rfl _ _ rfl _ q.length (cellsC q) rfl hown.o xa xc xl rfl HX.o (by omega) hbr.o.size hbr.o ?_);intro v' w' hown' hB';clear hown hbr HX hc;go_wp2
     go_roundw
     case rel=>exact⟨k+1,by omega,by go_num,by rw[HF.o,List.length_append,zdk];exact hown',hB'⟩
     case measure=>simp[intOf];omega
    ·have e:k=L.length:=by omega
     subst e;rw[List.take_length] at hown;clear hle;go_wp2;go_ret;exact⟨_,rfl,hown.o,hbr.o⟩
theorem zs7 (a:Option Addr)(c:Nat)(l:List (Int×ByteArray))(b:Int)(w:World)(h:SegW w a l)(hn:l.length≤1000)(hu:Up (·.1) l):
  Calls Tryz.prog 212 #[.slice a l.length c,.int .i64 b,.func (.func 156) #[] #[]] w fun e w'=>e=.returned (.tuple #[.int .i64 ((l.countP fun x=>decide (x.1<b):Nat):Int),.bool (l.any fun x=>x.1==b)])∧Below w.heap.size w w':=by
 have HS:=zaa h;have HU:=zaa hu;clear h hu;obtain⟨cnt,hcnt⟩:∃cnt,cnt=l.countP fun x=>decide (x.1<b):=⟨_,rfl⟩;obtain⟨fnd,hfnd⟩:∃fnd,fnd=l.any fun x=>x.1==b:=⟨_,rfl⟩;rw[←hcnt,←hfnd];have HC:=zaa hcnt;have HF:=zaa hfnd;have hcn:cnt≤l.length:=by rw[hcnt];exact List.countP_le_length
 clear hcnt hfnd;go_enter Tryz.func212,Tryz.ntmps212;go_wp2
 go_loopw [9,10] (fun i j wr=>∃lo hi:Nat,i=.int .i64 lo∧j=.int .i64 hi∧lo≤cnt∧cnt≤hi∧hi≤l.length∧Below w.heap.size w wr) (fun i j _=>(intOf j).toNat - (intOf i).toNat)
 case atStart=>exact⟨0,l.length,rfl,rfl,Nat.zero_le _,hcn,Nat.le_refl _,Below.refl _ _⟩
 case round=>
  obtain⟨lo,hi,rfl,rfl,hlc,hch,hin,hbr⟩:=hrel;by_cases hlt:lo<hi
  ·obtain⟨m,hm⟩:∃m,m=(lo+hi)/2:=⟨_,rfl⟩
   have hmn:m<l.length:=by omega
   have hmi:((lo:Int)+(hi:Int))/2=(m:Int):=by omega
   have hm1:lo≤m:=by omega
   have hm2:m<hi:=by omega
   clear hm;obtain⟨b2,off,rfl,hb,hc⟩:=HS.o.resolve_left (by intro e;rw[e] at hmn;simp at hmn);obtain⟨x,hx⟩:∃x,x=l.getD m (0,ByteArray.empty):=⟨_,rfl⟩;obtain⟨hc1,hc2⟩:=hc m hmn;rw[←hx] at hc1 hc2;have g1:=zac hbr hb hc1;have g2:=zac hbr hb hc2;have HX:Hid (l[m]?=some x):=by rw[hx];exact zcb _ _ _ hmn
   have hkey:x.1<b↔m<l.countP (fun x=>decide (x.1<b)):=z4l HU.o b HX.o;rw[←HC.o] at hkey;clear hx hc hc1 hc2;obtain⟨n,t⟩:=x;dsimp only at hkey;have hlt':(lo:Int)<(hi:Int):=by omega
   have hml:(m:Int)<(l.length:Int):=by omega
   by_cases hk:n<b
   ·have hq:m<cnt:=hkey.1 hk
    have hcmp:cmpI (n) b= -1:=zs6 hk;go_wp2_with fail;refine(zia n t b _).mono ?_;rintro e w' ⟨rfl,hb'⟩;rw[hcmp];have hbb:=zae hbr hb';clear hk hkey hcmp hb';go_wp2
    go_roundw
    case rel=>exact⟨m+1,hi,by go_num,rfl,by omega,hch,hin,hbb⟩
    case measure=>simp[intOf];omega
   ·have hq:cnt≤m:=by have:=mt hkey.2 hk;omega
    have hcmp:¬cmpI (n) b<0:=zzj hk;go_wp2_with fail;refine(zia n t b _).mono ?_;rintro e w' ⟨rfl,hb'⟩;have hbb:=zae hbr hb';generalize cmpI (n) b=z at *;clear hk hkey hb';go_wp2
    go_roundw
    case rel=>exact⟨lo,m,rfl,rfl,hlc,hq,by omega,hbb⟩
    case measure=>simp[intOf];omega
  ·obtain rfl:lo=cnt:=by omega
   obtain rfl:hi=lo:=by omega
   clear hlc hch hcn;by_cases hlast:hi<l.length
   ·obtain⟨b2,off,rfl,hb,hc⟩:=HS.o.resolve_left (by intro e;rw[e] at hlast;simp at hlast)
    obtain⟨x,hx⟩:∃x,x=l.getD hi (0,ByteArray.empty):=⟨_,rfl⟩;obtain⟨hc1,hc2⟩:=hc hi hlast;rw[←hx] at hc1 hc2;have g1:=zac hbr hb hc1;have g2:=zac hbr hb hc2;have HX:Hid (l[hi]?=some x):=by rw[hx];exact zcb _ _ _ hlast
    have hf:fnd=(x.1==b):=by
     have hi':(l.any fun x=>x.1==b)=true↔∃x,l[l.countP fun x=>decide (x.1<b)]?=some x∧x.1=b:=zdw HU.o b;rw[HF.o,Bool.eq_iff_iff,hi',←HC.o,HX.o];constructor
     ·rintro⟨y,e,hy⟩;cases e;simpa using hy
     ·intro e;exact⟨x,rfl,by simpa using e⟩
    have HFX:=zaa hf;clear hx hc hc1 hc2 hf;obtain⟨n,t⟩:=x;dsimp only at HFX;have hml:(hi:Int)<(l.length:Int):=by omega
    have hcmp:=zqr (n) b;go_wp2_with fail;refine(zia n t b _).mono ?_;rintro e w' ⟨rfl,hb'⟩;have hbb:=zae hbr hb';have HCM:=zaa hcmp;generalize cmpI (n) b=z at *;clear hcmp hb';go_wp2
    go_ret2
    exact⟨by rw[HFX.o,←HCM.o];rfl,hbb⟩
   ·have hf:fnd=false:=by
     have hi':(l.any fun x=>x.1==b)=true↔∃x,l[l.countP fun x=>decide (x.1<b)]?=some x∧x.1=b:=zdw HU.o b;rw[HF.o,←Bool.not_eq_true,hi',←HC.o,List.getElem?_eq_none (by omega)];rintro⟨y,e,_⟩;cases e
    have hml:¬(hi:Int)<(l.length:Int):=by omega
    subst hf;go_wp2
    go_ret2
    exact⟨rfl,hbr⟩
theorem zja {w:World}{a:Option Addr}{l:List (Int×ByteArray)}(h:SegW w a l)(k:Nat)(hk:k≤l.length):SegW w a (l.take k):=by
 rcases h with h|⟨b,off,rfl,hlt,hc⟩
 ·exact .inl (by rw[h];simp)
 ·refine .inr ⟨b,off,rfl,hlt,fun i hi=>?_⟩
  have hi':i<k:=by simp at hi;omega
  have e:(l.take k).getD i (0,ByteArray.empty)=l.getD i (0,ByteArray.empty):=by rw[List.getD,List.getD,List.getElem?_take_of_lt hi']
  rw[e];exact hc i (by omega)
theorem zqs {w:World}{b off:Nat}{l:List (Int×ByteArray)}(h:SegW w (some ⟨b,off,none⟩) l)(k:Nat):SegW w (some ⟨b,off+k*2,none⟩) (l.drop k):=by
 rcases h with h|⟨b',off',e,hlt,hc⟩
 ·exact .inl (by rw[h];simp)
 ·cases e
  refine .inr ⟨b,off+k*2,rfl,hlt,fun i hi=>?_⟩;have e:(l.drop k).getD i (0,ByteArray.empty)=l.getD (k+i) (0,ByteArray.empty):=by rw[List.getD,List.getD,List.getElem?_drop]
  rw[e];have:=hc (k+i) (by simp at hi;omega);refine⟨?_,?_⟩
  ·rw[show off+k*2+i*2=off+(k+i)*2 from by omega];exact this.1
  ·rw[show off+k*2+i*2+1=off+(k+i)*2+1 from by omega];exact this.2
def zeq (l:List (Int×ByteArray))(b:Int):List (Int×ByteArray):=l.filter fun x=>decide (x.1<b)
def zcu (l:List (Int×ByteArray))(b:Int):List (Int×ByteArray):=l.filter fun x=>decide (b<x.1)
theorem zl0 (base:Nat)(v:Value)(l:List (Int×ByteArray))(b:Int)(w:World)(hown:w.ownsRow base 84 2 v l.length (cellsC l))(hn:l.length≤1000)(hu:Up (·.1) l):
  Calls Tryz.prog 193 #[v,.int .i64 b,.func (.func 156) #[] #[]] w fun e w'=>∃a1 c1 a2 c2,e=.returned (.tuple #[.slice a1 (zeq l b).length c1,.slice a2 (zcu l b).length c2])∧SegW w' a1 (zeq l b)∧SegW w' a2 (zcu l b)∧Below w.heap.size w w':=by
 have hcut:l.take (l.countP fun x=>decide (x.1<b))=zeq l b∧l.drop (l.countP fun x=>decide (x.1<b))=l.filter (fun x=>decide (b≤x.1)):=zxm hu b;have hany:(l.any fun x=>x.1==b)=true↔∃x,l[l.countP fun x=>decide (x.1<b)]?=some x∧x.1=b:=zdw hu b;obtain⟨a0,c0,hv,hS0,_⟩:=SegC.of_owns hown;have hsearch:=zs7 a0 c0 l b w hS0 hn hu;rw[←hv] at hsearch;obtain⟨cnt,hcnt⟩:∃cnt,cnt=l.countP fun x=>decide (x.1<b):=⟨_,rfl⟩;have hcn:cnt≤l.length:=by rw[hcnt];exact List.countP_le_length
 rw[←hcnt] at hcut hany hsearch;have hl1:(zeq l b).length=cnt:=by rw[←hcut.1,List.length_take];omega
 have H1:=zaa hcut.1;have HL:=zaa hl1
 cases hf:l.any fun x=>x.1==b with
 |true=>
  obtain⟨x,hx,hxk⟩:=hany.1 hf;have hlt:cnt<l.length:=(List.getElem?_eq_some_iff.1 hx).1
  have hb2:l.drop (cnt+1)=zcu l b:=by
   rw[hcnt] at hx⊢;exact z2m hu b x hx hxk
  have hl2:(zcu l b).length=l.length - (cnt+1):=by rw[←hb2,List.length_drop]
  have H2:=zaa hb2;have HL2:=zaa hl2;rw[hf] at hsearch;clear hx hxk hf hany hcut hcnt hb2 hl2 hl1;rcases hown.2 with⟨rfl,h0⟩|⟨g,cap,cur,rfl,hb,hg,hnc,hcm,_⟩
  ·omega
  ·unfold maxLen at hcm
   simp only[Value.slice.injEq] at hv;obtain⟨rfl,_,rfl⟩:=hv;have HS:=zaa hS0;have hlt':(cnt:Int)<(l.length:Int):=by omega
   have hlc':(l.length:Int)≤(cap:Int):=by omega
   clear hown hS0 hg;by_cases hz:cap=cnt+1
   ·subst hz
    have HLN:Hid (l.length≤cnt+1):=by unfold Hid;omega
    clear hnc hlc';have hlc':(l.length:Int)≤(cnt:Int)+1:=by have:=HLN.o;omega
    go_enter Tryz.func193,Tryz.ntmps193;go_wp2_with fail;refine hsearch.mono ?_;rintro e w1 ⟨rfl,hb1⟩;have HB:=zaa hb1;clear hsearch hb1;go_wp2
    go_quiet (fail)
    go_wp2
    go_ret2
    refine⟨_,_,_,_,by rw[HL.o,HL2.o];rfl,?_,?_,below_drewN HB.o _⟩
    ·rw[←H1.o]
     exact(zja HS.o cnt (by omega)).below (below_drewN HB.o _)
    ·refine .inl ?_
     rw[←H2.o];exact List.drop_of_length_le HLN.o
   ·have hz':¬(cap - (cnt+1)=0):=by omega
    go_enter Tryz.func193,Tryz.ntmps193;go_wp2_with fail;refine hsearch.mono ?_;rintro e w1 ⟨rfl,hb1⟩;have HB:=zaa hb1;clear hsearch hb1;go_wp2
    go_quiet (fail)
    go_wp2
    go_ret2
    refine⟨_,_,_,_,by rw[HL.o,HL2.o];rfl,?_,?_,below_drewN HB.o _⟩
    ·rw[←H1.o]
     exact(zja HS.o cnt (by omega)).below (below_drewN HB.o _)
    ·rw[←H2.o]
     have hd:=zqs HS.o (cnt+1);rw[Nat.zero_add] at hd;exact hd.below (below_drewN HB.o _)
 |false=>
  have hb2:l.drop cnt=zcu l b:=by
   rw[hcut.2];refine zxn hu b fun x hx hk=>?_;rw[hcnt] at hany;rw[hany.2 ⟨x,hx,hk⟩] at hf;cases hf
  have hl2:(zcu l b).length=l.length - cnt:=by rw[←hb2,List.length_drop]
  have H2:=zaa hb2;have HL2:=zaa hl2;rw[hf] at hsearch;clear hf hany hcut hcnt hb2 hl2 hl1;rcases hown.2 with⟨rfl,h0⟩|⟨g,cap,cur,rfl,hb,hg,hnc,hcm,_⟩
  ·have hl0:l=[]:=List.eq_nil_of_length_eq_zero h0
   subst hl0;obtain rfl:cnt=0:=by simpa using hcn
   clear hown hS0 hv;go_enter Tryz.func193,Tryz.ntmps193;go_wp2_with fail;refine hsearch.mono ?_;rintro e w1 ⟨rfl,hb1⟩;have HB:=zaa hb1;clear hsearch hb1;go_wp2
   go_quiet (fail)
   go_wp2
   go_ret2
   refine⟨_,_,_,_,by rw[HL.o,HL2.o];rfl,.inl ?_,.inl ?_,below_drewN HB.o _⟩
   ·rw[←H1.o];rfl
   ·rw[←H2.o];rfl
  ·unfold maxLen at hcm
   simp only[Value.slice.injEq] at hv;obtain⟨rfl,_,rfl⟩:=hv;have HS:=zaa hS0;have hlt':(cnt:Int)≤(l.length:Int):=by omega
   have hlc':(l.length:Int)≤(cap:Int):=by omega
   clear hown hS0 hg;by_cases hz:cap=cnt
   ·subst hz
    have HLN:Hid (l.length≤cap):=by unfold Hid;omega
    go_enter Tryz.func193,Tryz.ntmps193;go_wp2_with fail;refine hsearch.mono ?_;rintro e w1 ⟨rfl,hb1⟩;have HB:=zaa hb1;clear hsearch hb1;go_wp2
    go_quiet (fail)
    go_wp2
    go_ret2
    refine⟨_,_,_,_,by rw[HL.o,HL2.o,show l.length - cap=0 from by have:=HLN.o;omega];rfl,?_,?_,below_drewN HB.o _⟩
    ·rw[←H1.o]
     exact(zja HS.o cap (by omega)).below (below_drewN HB.o _)
    ·refine .inl ?_
     rw[←H2.o];exact List.drop_of_length_le HLN.o
   ·have hz':¬(cap - cnt=0):=by omega
    go_enter Tryz.func193,Tryz.ntmps193;go_wp2_with fail;refine hsearch.mono ?_;rintro e w1 ⟨rfl,hb1⟩;have HB:=zaa hb1;clear hsearch hb1;go_wp2
    go_quiet (fail)
    go_wp2
    go_ret2
    refine⟨_,_,_,_,by rw[HL.o,HL2.o];rfl,?_,?_,below_drewN HB.o _⟩
    ·rw[←H1.o]
     exact(zja HS.o cnt (by omega)).below (below_drewN HB.o _)
    ·rw[←H2.o]
     have hd:=zqs HS.o cnt;rw[Nat.zero_add] at hd;exact hd.below (below_drewN HB.o _)
theorem zqt (l:List (Int×ByteArray))(b:Int):(zeq l b).length≤l.length:=List.length_filter_le _ _
theorem znp (l:List (Int×ByteArray))(b:Int):(zcu l b).length≤l.length:=List.length_filter_le _ _
theorem zqu (base:Nat)(v:Value)(l:List (Int×ByteArray))(b:Int)(s:ByteArray)(w:World)(hown:w.ownsRow base 84 2 v l.length (cellsC l))(hn:l.length≤100)(hu:Up (·.1) l):
  Calls Tryz.prog 155 #[v,.int .i64 b,.func (.func 156) #[] #[],.agg #[.int .i64 b,.string s]] w fun e w'=>∃v',e=.returned v'∧w'.ownsRow w.heap.size 84 2 v' (zbr (·.1) l b (b,s)).length (cellsC (zbr (·.1) l b (b,s)))∧Below w.heap.size w w':=by
 have HO:=zaa hown;clear hown;go_enter Tryz.func155,Tryz.ntmps155;go_wp2_with fail;refine(zl0 base v l b _ (zah HO.o (zab _ _)) (by omega) hu).mono ?_;rintro e w1 ⟨a1,c1,a2,c2,rfl,hs1,hs2,hb1⟩;have HS1:=zaa hs1;have HS2:=zaa hs2;have hs1:w.heap.size<w1.heap.size:=by have:=hb1.size;simp at this;omega
 have y0:=zac hb1 (b:=w.heap.size) (o:=0) (v:=.int .i64 b) (by simp) (by simp[go_sem]);have y1:=zac hb1 (b:=w.heap.size) (o:=1) (v:=.string s) (by simp) (by simp[go_sem]);have HB:=zaa (zae (zab _ _) hb1);have q1:=zqt l b;have q2:=znp l b;have hw1:=HB.o.size;clear hs1 hs2 hb1
 have HL:Hid (∀w',Below w1.heap.size w1 w'→w'.cell? ⟨w1.heap.size+1,0,none⟩=some (.slice a1 (zeq l b).length c1)→w'.cell? ⟨w1.heap.size+1,1,none⟩=some (.slice (some ⟨w1.heap.size,0,none⟩) 1 1)→w'.cell? ⟨w1.heap.size+1,2,none⟩=some (.slice a2 (zcu l b).length c2)→SegW w' (some ⟨w1.heap.size,0,none⟩) [(b,s)]→w1.heap.size+1<w'.heap.size→z29 w' (w1.heap.size+1) [(a1,c1,zeq l b),(some ⟨w1.heap.size,0,none⟩,1,[(b,s)]),(a2,c2,zcu l b)]):=by
  intro w' hb d0 d1 d2 hseg hlt;refine⟨hlt,fun i x hx=>?_⟩
  match i,hx with
  |0,hx=>cases hx;exact⟨d0,HS1.o.below hb⟩
  |1,hx=>cases hx;exact⟨d1,hseg⟩
  |2,hx=>cases hx;exact⟨d2,HS2.o.below hb⟩
  |n+3,hx=>simp at hx
 have HF:Hid (flatC [(a1,c1,zeq l b),(some ⟨w1.heap.size,0,none⟩,1,[(b,s)]),(a2,c2,zcu l b)]=zbr (·.1) l b (b,s)):=by simp[Hid,flatC,zeq,zcu,zbr]
 go_wp2_with fail;refine(zlz (w1.heap.size+1) 3 3 [(a1,c1,zeq l b),(some ⟨w1.heap.size,0,none⟩,1,[(b,s)]),(a2,c2,zcu l b)] _ rfl (by omega) (HL.o _ (zae (zab _ _) (zab _ _)) (by simp[go_sem]) (by simp[go_sem]) (by simp[go_sem]) (.inr ⟨w1.heap.size,0,rfl,by simp;omega,fun i hi=>?_⟩) (by simp)) (by simp[flatC];omega)).mono ?_
 ·have:i=0:=by simpa using hi
  subst this;exact⟨by simp[go_sem],by simp[go_sem]⟩
 ·rintro e w2 ⟨v2,rfl,hown2,hb2⟩
  rw[HF.o] at hown2;have HO2:=zaa hown2;have hb3:=zae (zae (zab _ _) (zab _ _)) hb2;have HB3:=zaa (zae HB.o hb3);clear hown2 hb2;go_wp2;go_ret;refine⟨_,rfl,za5 HO2.o ?_,HB3.o⟩;simp;omega
theorem zj8 (base:Nat)(v:Value)(l:List (Int×ByteArray))(b:Int)(w:World)(hown:w.ownsRow base 84 2 v l.length (cellsC l))(hn:l.length≤100)(hu:Up (·.1) l):
  Calls Tryz.prog 161 #[v,.int .i64 b,.func (.func 156) #[] #[]] w fun e w'=>∃v',e=.returned v'∧w'.ownsRow w.heap.size 84 2 v' (za2 (·.1) l b).length (cellsC (za2 (·.1) l b))∧Below w.heap.size w w':=by
 have HO:=zaa hown;clear hown;go_enter Tryz.func161,Tryz.ntmps161;go_wp2_with fail;refine(zl0 base v l b _ HO.o (by omega) hu).mono ?_;rintro e w1 ⟨a1,c1,a2,c2,rfl,hs1,hs2,hb1⟩;have HS1:=zaa hs1;have HS2:=zaa hs2;have HB:=zaa hb1;have q1:=zqt l b;have q2:=znp l b;have hw1:=HB.o.size;clear hs1 hs2 hb1
 have HL:Hid (∀w',Below w1.heap.size w1 w'→w'.cell? ⟨w1.heap.size,0,none⟩=some (.slice a1 (zeq l b).length c1)→w'.cell? ⟨w1.heap.size,1,none⟩=some (.slice a2 (zcu l b).length c2)→w1.heap.size<w'.heap.size→z29 w' w1.heap.size [(a1,c1,zeq l b),(a2,c2,zcu l b)]):=by
  intro w' hb d0 d2 hlt;refine⟨hlt,fun i x hx=>?_⟩
  match i,hx with
  |0,hx=>cases hx;exact⟨d0,HS1.o.below hb⟩
  |1,hx=>cases hx;exact⟨d2,HS2.o.below hb⟩
  |n+2,hx=>simp at hx
 have HF:Hid (flatC [(a1,c1,zeq l b),(a2,c2,zcu l b)]=za2 (·.1) l b):=by simp[Hid,flatC,zeq,zcu,za2]
 go_wp2_with fail;refine(zlz w1.heap.size 2 2 [(a1,c1,zeq l b),(a2,c2,zcu l b)] _ rfl (by omega) (HL.o _ (zab _ _) (by simp[go_sem]) (by simp[go_sem]) (by simp)) (by simp[flatC];omega)).mono ?_;rintro e w2 ⟨v2,rfl,hown2,hb2⟩;rw[HF.o] at hown2;have HO2:=zaa hown2;have HB3:=zaa (zae HB.o (zae (zab _ _) hb2));clear hown2 hb2;go_wp2;go_ret;refine⟨_,rfl,za5 HO2.o ?_,HB3.o⟩;simp;omega
theorem zs8 (a:Option Addr)(c:Nat)(l:List Int)(b:Int)(w:World)(h:SegI w a l)(hn:l.length≤1000)(hu:Up id l):
  Calls Tryz.prog 214 #[.slice a l.length c,.int .i64 b,.func (.func 158) #[] #[]] w fun e w'=>e=.returned (.tuple #[.int .i64 ((l.countP fun x=>decide (x<b):Nat):Int),.bool (l.any fun x=>x==b)])∧Below w.heap.size w w':=by
 have HS:=zaa h;have HU:=zaa hu;clear h hu;obtain⟨cnt,hcnt⟩:∃cnt,cnt=l.countP fun x=>decide (x<b):=⟨_,rfl⟩;obtain⟨fnd,hfnd⟩:∃fnd,fnd=l.any fun x=>x==b:=⟨_,rfl⟩;rw[←hcnt,←hfnd];have HC:=zaa hcnt;have HF:=zaa hfnd;have hcn:cnt≤l.length:=by rw[hcnt];exact List.countP_le_length
 clear hcnt hfnd;go_enter Tryz.func214,Tryz.ntmps214;go_wp2
 go_loopw [9,10] (fun i j wr=>∃lo hi:Nat,i=.int .i64 lo∧j=.int .i64 hi∧lo≤cnt∧cnt≤hi∧hi≤l.length∧Below w.heap.size w wr) (fun i j _=>(intOf j).toNat - (intOf i).toNat)
 case atStart=>exact⟨0,l.length,rfl,rfl,Nat.zero_le _,hcn,Nat.le_refl _,Below.refl _ _⟩
 case round=>
  obtain⟨lo,hi,rfl,rfl,hlc,hch,hin,hbr⟩:=hrel;by_cases hlt:lo<hi
  ·obtain⟨m,hm⟩:∃m,m=(lo+hi)/2:=⟨_,rfl⟩
   have hmn:m<l.length:=by omega
   have hmi:((lo:Int)+(hi:Int))/2=(m:Int):=by omega
   have hm1:lo≤m:=by omega
   have hm2:m<hi:=by omega
   clear hm;obtain⟨b2,off,rfl,hb,hc⟩:=HS.o.resolve_left (by intro e;rw[e] at hmn;simp at hmn);obtain⟨x,hx⟩:∃x,x=l.getD m 0:=⟨_,rfl⟩;have hc1:=hc m hmn;rw[←hx] at hc1;have g1:=zac hbr hb hc1;have HX:Hid (l[m]?=some x):=by rw[hx];exact zcb _ _ _ hmn
   have hkey:x<b↔m<l.countP (fun x=>decide (x<b)):=z4l HU.o b HX.o;rw[←HC.o] at hkey;clear hx hc hc1;have hlt':(lo:Int)<(hi:Int):=by omega
   have hml:(m:Int)<(l.length:Int):=by omega
   by_cases hk:x<b
   ·have hq:m<cnt:=hkey.1 hk
    have hcmp:cmpI (x) b= -1:=zs6 hk;go_wp2_with fail;refine(zgy x b _).mono ?_;rintro e w' ⟨rfl,hb'⟩;rw[hcmp];have hbb:=zae hbr hb';clear hk hkey hcmp hb';go_wp2
    go_roundw
    case rel=>exact⟨m+1,hi,by go_num,rfl,by omega,hch,hin,hbb⟩
    case measure=>simp[intOf];omega
   ·have hq:cnt≤m:=by have:=mt hkey.2 hk;omega
    have hcmp:¬cmpI (x) b<0:=zzj hk;go_wp2_with fail;refine(zgy x b _).mono ?_;rintro e w' ⟨rfl,hb'⟩;have hbb:=zae hbr hb';generalize cmpI (x) b=z at *;clear hk hkey hb';go_wp2
    go_roundw
    case rel=>exact⟨lo,m,rfl,rfl,hlc,hq,by omega,hbb⟩
    case measure=>simp[intOf];omega
  ·obtain rfl:lo=cnt:=by omega
   obtain rfl:hi=lo:=by omega
   clear hlc hch hcn;by_cases hlast:hi<l.length
   ·obtain⟨b2,off,rfl,hb,hc⟩:=HS.o.resolve_left (by intro e;rw[e] at hlast;simp at hlast)
    obtain⟨x,hx⟩:∃x,x=l.getD hi 0:=⟨_,rfl⟩;have hc1:=hc hi hlast;rw[←hx] at hc1;have g1:=zac hbr hb hc1;have HX:Hid (l[hi]?=some x):=by rw[hx];exact zcb _ _ _ hlast
    have hf:fnd=(x==b):=by
     have hi':(l.any fun x=>x==b)=true↔∃x,l[l.countP fun x=>decide (x<b)]?=some x∧x=b:=zdw HU.o b;rw[HF.o,Bool.eq_iff_iff,hi',←HC.o,HX.o];constructor
     ·rintro⟨y,e,hy⟩;cases e;simpa using hy
     ·intro e;exact⟨x,rfl,by simpa using e⟩
    have HFX:=zaa hf;clear hx hc hc1 hf;have hml:(hi:Int)<(l.length:Int):=by omega
    have hcmp:=zqr (x) b;go_wp2_with fail;refine(zgy x b _).mono ?_;rintro e w' ⟨rfl,hb'⟩;have hbb:=zae hbr hb';have HCM:=zaa hcmp;generalize cmpI (x) b=z at *;clear hcmp hb';go_wp2
    go_ret2
    exact⟨by rw[HFX.o,←HCM.o];rfl,hbb⟩
   ·have hf:fnd=false:=by
     have hi':(l.any fun x=>x==b)=true↔∃x,l[l.countP fun x=>decide (x<b)]?=some x∧x=b:=zdw HU.o b;rw[HF.o,←Bool.not_eq_true,hi',←HC.o,List.getElem?_eq_none (by omega)];rintro⟨y,e,_⟩;cases e
    have hml:¬(hi:Int)<(l.length:Int):=by omega
    subst hf;go_wp2
    go_ret2
    exact⟨rfl,hbr⟩
theorem zjb {w:World}{a:Option Addr}{l:List Int}(h:SegI w a l)(k:Nat)(hk:k≤l.length):SegI w a (l.take k):=by
 rcases h with h|⟨b,off,rfl,hlt,hc⟩
 ·exact .inl (by rw[h];simp)
 ·refine .inr ⟨b,off,rfl,hlt,fun i hi=>?_⟩
  have hi':i<k:=by simp at hi;omega
  have e:(l.take k).getD i 0=l.getD i 0:=by rw[List.getD,List.getD,List.getElem?_take_of_lt hi']
  rw[e];exact hc i (by omega)
theorem zqv {w:World}{b off:Nat}{l:List Int}(h:SegI w (some ⟨b,off,none⟩) l)(k:Nat):SegI w (some ⟨b,off+k*1,none⟩) (l.drop k):=by
 rcases h with h|⟨b',off',e,hlt,hc⟩
 ·exact .inl (by rw[h];simp)
 ·cases e
  refine .inr ⟨b,off+k*1,rfl,hlt,fun i hi=>?_⟩;have e:(l.drop k).getD i 0=l.getD (k+i) 0:=by rw[List.getD,List.getD,List.getElem?_drop]
  rw[e];have:=hc (k+i) (by simp at hi;omega);rw[show off+k*1+i=off+(k+i) from by omega];exact this
def zer (l:List Int)(b:Int):List Int:=l.filter fun x=>decide (x<b)
def zcv (l:List Int)(b:Int):List Int:=l.filter fun x=>decide (b<x)
theorem zl1 (base:Nat)(v:Value)(l:List Int)(b:Int)(w:World)(hown:w.ownsRow base 3 1 v l.length (cellsI l))(hn:l.length≤1000)(hu:Up id l):
  Calls Tryz.prog 195 #[v,.int .i64 b,.func (.func 158) #[] #[]] w fun e w'=>∃a1 c1 a2 c2,e=.returned (.tuple #[.slice a1 (zer l b).length c1,.slice a2 (zcv l b).length c2])∧SegI w' a1 (zer l b)∧SegI w' a2 (zcv l b)∧Below w.heap.size w w':=by
 have hcut:l.take (l.countP fun x=>decide (x<b))=zer l b∧l.drop (l.countP fun x=>decide (x<b))=l.filter (fun x=>decide (b≤x)):=zxm hu b;have hany:(l.any fun x=>x==b)=true↔∃x,l[l.countP fun x=>decide (x<b)]?=some x∧x=b:=zdw hu b;obtain⟨a0,c0,hv,hS0,_⟩:=SegI.of_owns hown;have hsearch:=zs8 a0 c0 l b w hS0 hn hu;rw[←hv] at hsearch;obtain⟨cnt,hcnt⟩:∃cnt,cnt=l.countP fun x=>decide (x<b):=⟨_,rfl⟩;have hcn:cnt≤l.length:=by rw[hcnt];exact List.countP_le_length
 rw[←hcnt] at hcut hany hsearch;have hl1:(zer l b).length=cnt:=by rw[←hcut.1,List.length_take];omega
 have H1:=zaa hcut.1;have HL:=zaa hl1
 cases hf:l.any fun x=>x==b with
 |true=>
  obtain⟨x,hx,hxk⟩:=hany.1 hf;have hlt:cnt<l.length:=(List.getElem?_eq_some_iff.1 hx).1
  have hb2:l.drop (cnt+1)=zcv l b:=by
   rw[hcnt] at hx⊢;exact z2m hu b x hx hxk
  have hl2:(zcv l b).length=l.length - (cnt+1):=by rw[←hb2,List.length_drop]
  have H2:=zaa hb2;have HL2:=zaa hl2;rw[hf] at hsearch;clear hx hxk hf hany hcut hcnt hb2 hl2 hl1;rcases hown.2 with⟨rfl,h0⟩|⟨g,cap,cur,rfl,hb,hg,hnc,hcm,_⟩
  ·omega
  ·unfold maxLen at hcm
   simp only[Value.slice.injEq] at hv;obtain⟨rfl,_,rfl⟩:=hv;have HS:=zaa hS0;have hlt':(cnt:Int)<(l.length:Int):=by omega
   have hlc':(l.length:Int)≤(cap:Int):=by omega
   clear hown hS0 hg;by_cases hz:cap=cnt+1
   ·subst hz
    have HLN:Hid (l.length≤cnt+1):=by unfold Hid;omega
    clear hnc hlc';have hlc':(l.length:Int)≤(cnt:Int)+1:=by have:=HLN.o;omega
    go_enter Tryz.func195,Tryz.ntmps195;go_wp2_with fail;refine hsearch.mono ?_;rintro e w1 ⟨rfl,hb1⟩;have HB:=zaa hb1;clear hsearch hb1;go_wp2
    go_quiet (fail)
    go_wp2
    go_ret2
    refine⟨_,_,_,_,by rw[HL.o,HL2.o];rfl,?_,?_,below_drewN HB.o _⟩
    ·rw[←H1.o]
     exact(zjb HS.o cnt (by omega)).below (below_drewN HB.o _)
    ·refine .inl ?_
     rw[←H2.o];exact List.drop_of_length_le HLN.o
   ·have hz':¬(cap - (cnt+1)=0):=by omega
    go_enter Tryz.func195,Tryz.ntmps195;go_wp2_with fail;refine hsearch.mono ?_;rintro e w1 ⟨rfl,hb1⟩;have HB:=zaa hb1;clear hsearch hb1;go_wp2
    go_quiet (fail)
    go_wp2
    go_ret2
    refine⟨_,_,_,_,by rw[HL.o,HL2.o];rfl,?_,?_,below_drewN HB.o _⟩
    ·rw[←H1.o]
     exact(zjb HS.o cnt (by omega)).below (below_drewN HB.o _)
    ·rw[←H2.o]
     have hd:=zqv HS.o (cnt+1);rw[Nat.zero_add,Nat.mul_one] at hd;exact hd.below (below_drewN HB.o _)
 |false=>
  have hb2:l.drop cnt=zcv l b:=by
   rw[hcut.2];refine zxn hu b fun x hx hk=>?_;rw[hcnt] at hany;rw[hany.2 ⟨x,hx,hk⟩] at hf;cases hf
  have hl2:(zcv l b).length=l.length - cnt:=by rw[←hb2,List.length_drop]
  have H2:=zaa hb2;have HL2:=zaa hl2;rw[hf] at hsearch;clear hf hany hcut hcnt hb2 hl2 hl1;rcases hown.2 with⟨rfl,h0⟩|⟨g,cap,cur,rfl,hb,hg,hnc,hcm,_⟩
  ·have hl0:l=[]:=List.eq_nil_of_length_eq_zero h0
   subst hl0;obtain rfl:cnt=0:=by simpa using hcn
   clear hown hS0 hv;go_enter Tryz.func195,Tryz.ntmps195;go_wp2_with fail;refine hsearch.mono ?_;rintro e w1 ⟨rfl,hb1⟩;have HB:=zaa hb1;clear hsearch hb1;go_wp2
   go_quiet (fail)
   go_wp2
   go_ret2
   refine⟨_,_,_,_,by rw[HL.o,HL2.o];rfl,.inl ?_,.inl ?_,below_drewN HB.o _⟩
   ·rw[←H1.o];rfl
   ·rw[←H2.o];rfl
  ·unfold maxLen at hcm
   simp only[Value.slice.injEq] at hv;obtain⟨rfl,_,rfl⟩:=hv;have HS:=zaa hS0;have hlt':(cnt:Int)≤(l.length:Int):=by omega
   have hlc':(l.length:Int)≤(cap:Int):=by omega
   clear hown hS0 hg;by_cases hz:cap=cnt
   ·subst hz
    have HLN:Hid (l.length≤cap):=by unfold Hid;omega
    go_enter Tryz.func195,Tryz.ntmps195;go_wp2_with fail;refine hsearch.mono ?_;rintro e w1 ⟨rfl,hb1⟩;have HB:=zaa hb1;clear hsearch hb1;go_wp2
    go_quiet (fail)
    go_wp2
    go_ret2
    refine⟨_,_,_,_,by rw[HL.o,HL2.o,show l.length - cap=0 from by have:=HLN.o;omega];rfl,?_,?_,below_drewN HB.o _⟩
    ·rw[←H1.o]
     exact(zjb HS.o cap (by omega)).below (below_drewN HB.o _)
    ·refine .inl ?_
     rw[←H2.o];exact List.drop_of_length_le HLN.o
   ·have hz':¬(cap - cnt=0):=by omega
    go_enter Tryz.func195,Tryz.ntmps195;go_wp2_with fail;refine hsearch.mono ?_;rintro e w1 ⟨rfl,hb1⟩;have HB:=zaa hb1;clear hsearch hb1;go_wp2
    go_quiet (fail)
    go_wp2
    go_ret2
    refine⟨_,_,_,_,by rw[HL.o,HL2.o];rfl,?_,?_,below_drewN HB.o _⟩
    ·rw[←H1.o]
     exact(zjb HS.o cnt (by omega)).below (below_drewN HB.o _)
    ·rw[←H2.o]
     have hd:=zqv HS.o cnt;rw[Nat.zero_add,Nat.mul_one] at hd;exact hd.below (below_drewN HB.o _)
theorem zqw (l:List Int)(b:Int):(zer l b).length≤l.length:=List.length_filter_le _ _
theorem znq (l:List Int)(b:Int):(zcv l b).length≤l.length:=List.length_filter_le _ _
theorem zzl (base:Nat)(v:Value)(l:List Int)(b:Int)(w:World)(hown:w.ownsRow base 3 1 v l.length (cellsI l))(hn:l.length≤100)(hu:Up id l):
  Calls Tryz.prog 162 #[v,.int .i64 b,.func (.func 158) #[] #[],.int .i64 b] w fun e w'=>∃v',e=.returned v'∧w'.ownsRow w.heap.size 3 1 v' (zbr id l b b).length (cellsI (zbr id l b b))∧Below w.heap.size w w':=by
 have HO:=zaa hown;clear hown;go_enter Tryz.func162,Tryz.ntmps162;go_wp2_with fail;refine(zl1 base v l b _ HO.o (by omega) hu).mono ?_;rintro e w1 ⟨a1,c1,a2,c2,rfl,hs1,hs2,hb1⟩;have HS1:=zaa hs1;have HS2:=zaa hs2;have HB:=zaa hb1;have q1:=zqw l b;have q2:=znq l b;have hw1:=HB.o.size;clear hs1 hs2 hb1
 have HL:Hid (∀w',Below w1.heap.size w1 w'→w'.cell? ⟨w1.heap.size+1,0,none⟩=some (.slice a1 (zer l b).length c1)→w'.cell? ⟨w1.heap.size+1,1,none⟩=some (.slice (some ⟨w1.heap.size,0,none⟩) 1 1)→w'.cell? ⟨w1.heap.size+1,2,none⟩=some (.slice a2 (zcv l b).length c2)→SegI w' (some ⟨w1.heap.size,0,none⟩) [b]→w1.heap.size+1<w'.heap.size→zxz w' (w1.heap.size+1) [(a1,c1,zer l b),(some ⟨w1.heap.size,0,none⟩,1,[b]),(a2,c2,zcv l b)]):=by
  intro w' hb d0 d1 d2 hseg hlt;refine⟨hlt,fun i x hx=>?_⟩
  match i,hx with
  |0,hx=>cases hx;exact⟨d0,HS1.o.below hb⟩
  |1,hx=>cases hx;exact⟨d1,hseg⟩
  |2,hx=>cases hx;exact⟨d2,HS2.o.below hb⟩
  |n+3,hx=>simp at hx
 have HF:Hid (flatI [(a1,c1,zer l b),(some ⟨w1.heap.size,0,none⟩,1,[b]),(a2,c2,zcv l b)]=zbr id l b b):=by simp[Hid,flatI,zer,zcv,zbr]
 go_wp2_with fail;refine(zh5 (w1.heap.size+1) 3 3 [(a1,c1,zer l b),(some ⟨w1.heap.size,0,none⟩,1,[b]),(a2,c2,zcv l b)] _ rfl (by omega) (HL.o _ (zae (zab _ _) (zab _ _)) (by simp[go_sem]) (by simp[go_sem]) (by simp[go_sem]) (.inr ⟨w1.heap.size,0,rfl,by simp;omega,fun i hi=>?_⟩) (by simp)) (by simp[flatI];omega)).mono ?_
 ·have:i=0:=by simpa using hi
  subst this;simp[go_sem]
 ·rintro e w2 ⟨v2,rfl,hown2,hb2⟩
  rw[HF.o] at hown2;have HO2:=zaa hown2;have hb3:=zae (zae (zab _ _) (zab _ _)) hb2;have HB3:=zaa (zae HB.o hb3);clear hown2 hb2;go_wp2;go_ret;refine⟨_,rfl,za5 HO2.o ?_,HB3.o⟩;simp;omega
theorem zqx (base:Nat)(v:Value)(l:List Int)(b:Int)(w:World)(hown:w.ownsRow base 3 1 v l.length (cellsI l))(hn:l.length≤100)(hu:Up id l):
  Calls Tryz.prog 157 #[v,.int .i64 b,.func (.func 158) #[] #[]] w fun e w'=>∃v',e=.returned v'∧w'.ownsRow w.heap.size 3 1 v' (za2 id l b).length (cellsI (za2 id l b))∧Below w.heap.size w w':=by
 have HO:=zaa hown;clear hown;go_enter Tryz.func157,Tryz.ntmps157;go_wp2_with fail;refine(zl1 base v l b _ HO.o (by omega) hu).mono ?_;rintro e w1 ⟨a1,c1,a2,c2,rfl,hs1,hs2,hb1⟩;have HS1:=zaa hs1;have HS2:=zaa hs2;have HB:=zaa hb1;have q1:=zqw l b;have q2:=znq l b;have hw1:=HB.o.size;clear hs1 hs2 hb1
 have HL:Hid (∀w',Below w1.heap.size w1 w'→w'.cell? ⟨w1.heap.size,0,none⟩=some (.slice a1 (zer l b).length c1)→w'.cell? ⟨w1.heap.size,1,none⟩=some (.slice a2 (zcv l b).length c2)→w1.heap.size<w'.heap.size→zxz w' w1.heap.size [(a1,c1,zer l b),(a2,c2,zcv l b)]):=by
  intro w' hb d0 d2 hlt;refine⟨hlt,fun i x hx=>?_⟩
  match i,hx with
  |0,hx=>cases hx;exact⟨d0,HS1.o.below hb⟩
  |1,hx=>cases hx;exact⟨d2,HS2.o.below hb⟩
  |n+2,hx=>simp at hx
 have HF:Hid (flatI [(a1,c1,zer l b),(a2,c2,zcv l b)]=za2 id l b):=by simp[Hid,flatI,zer,zcv,za2]
 go_wp2_with fail;refine(zh5 w1.heap.size 2 2 [(a1,c1,zer l b),(a2,c2,zcv l b)] _ rfl (by omega) (HL.o _ (zab _ _) (by simp[go_sem]) (by simp[go_sem]) (by simp)) (by simp[flatI];omega)).mono ?_;rintro e w2 ⟨v2,rfl,hown2,hb2⟩;rw[HF.o] at hown2;have HO2:=zaa hown2;have HB3:=zaa (zae HB.o (zae (zab _ _) hb2));clear hown2 hb2;go_wp2;go_ret;refine⟨_,rfl,za5 HO2.o ?_,HB3.o⟩;simp;omega
end Go.Proofs.YtjnpndfpajjihacGreat

