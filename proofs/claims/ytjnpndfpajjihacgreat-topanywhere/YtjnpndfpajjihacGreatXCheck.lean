/- -/
import Derived.Test.YtjnpndfpajjihacGreatGrTopAnywhere4
import Derived.Test.YtjnpndfpajjihacGreatGrTopAnywhere14
import Derived.Test.YtjnpndfpajjihacGreatGrTopAnywhere23
namespace Go.Proofs.YtjnpndfpajjihacGreat
open Go.Proofs.Tryz
set_option maxRecDepth 100000
set_option maxHeartbeats 40000000
open Go.RowKit
def zg0 (x:Int×ByteArray):Bool:= !(zao x.1 0 11&&decide (x.2.size=32))
def zbr (p seq:Int):Mk:=⟨1,seq,p,[],[]⟩
def checkE (l:List (Int×ByteArray))(p seq:Int):Int:=if goodM (zbr p seq)≠0 then goodM (zbr p seq) else if l.any zg0=true then 1 else 0
def checkS (l:List (Int×ByteArray))(p seq:Int):List St:=if checkE l p seq=0 then homeS l++[zbm 0 (encT (zbr p seq)),zb1] else[]
theorem zqh(n:Int)(s:ByteArray)(w:World):
  Calls prog 146 #[.agg #[.int .i64 n,.string s]] w fun e w'=>e=.returned (.bool (zg0 (n,s)))∧Below w.heap.size w w':=by
 have D:zg0 (n,s)=(decide (n<0)||decide (12≤n)||((s.size:Int) !=32)):=by
  unfold zg0 zao;by_cases h0:n<0
  ·have:¬0≤n:=by omega
   simp[h0,this]
  ·by_cases h1:12≤n
   ·have A:¬n≤11:=by omega
    simp[h1,A]
   ·have A:n≤11:=by omega
    have C:0≤n:=by omega
    have E:¬12≤n:=h1;by_cases h5:s.size=32
    ·simp[h0,A,C,E,h5]
    ·have F:((s.size:Int) !=32)=true:=by rw[bne_iff_ne];omega
     simp[h0,A,C,E,h5,F]
 have B:=zaa D;clear D;go_enter func146,ntmps146;by_cases h0:n<0
 ·go_wp2;go_ret;exact⟨by rw[B.o];simp[h0],zab _ _⟩
 ·by_cases h1:12≤n
  ·go_wp2;go_ret;exact⟨by rw[B.o];simp[h1],zab _ _⟩
  ·go_wp2;go_ret;exact⟨by rw[B.o,show decide (n<0)=false from decide_eq_false (by omega),show decide (12≤n)=false from decide_eq_false (by omega)];rfl,zab _ _⟩
theorem z6p{w:World}{b:Nat}{x y:St}(h0:w.cell? ⟨b,0,none⟩=some (.int .i64 x.1))(h1:w.cell? ⟨b,1,none⟩=some (.int .i64 x.2.1))(h2:w.cell? ⟨b,2,none⟩=some (.string x.2.2))(h3:w.cell? ⟨b,3,none⟩=some (.int .i64 y.1))(h4:w.cell? ⟨b,4,none⟩=some (.int .i64 y.2.1))(h5:w.cell? ⟨b,5,none⟩=some (.string y.2.2)):
  ∀j u,(cellsSt [x,y])[j]?=some u→w.cell? (Addr.add ⟨b,0,none⟩ j)=some u:=by
 intro j u A;rw[Addr.add_lit,Nat.zero_add]
 match j,A with
 |0,A=>simp[cellsSt]at A;subst A;exact h0
 |1,A=>simp[cellsSt]at A;subst A;exact h1
 |2,A=>simp[cellsSt]at A;subst A;exact h2
 |3,A=>simp[cellsSt]at A;subst A;exact h3
 |4,A=>simp[cellsSt]at A;subst A;exact h4
 |5,A=>simp[cellsSt]at A;subst A;exact h5
 |j+6,A=>simp[cellsSt]at A
theorem zow{w:World}{ops:Array Oper}{rest:List Oper}{o:Oper}{a:Act}{Q:Exit→Act→World→Prop}(hgd:o.guard=none)(s x:Operand)
  (ho:o.op=.call {callee:=.builtin .append,args:=#[s,x],argTypes:=#[91,91]})
  (base:Nat) (v:Value) (l:List St) (hs:a.eval s=v) (hown:w.ownsRow base 124 3 v l.length (cellsSt l)) (b:Nat) (y z:St) (hx:a.eval x=.slice (some ⟨b,0,none⟩) 2 2)
  (hnews:∀j u,(cellsSt [y,z])[j]?=some u→w.cell? (Addr.add ⟨b,0,none⟩ j)=some u) (h63:l.length*24≤140737488380000) (hbase:base≤w.heap.size)
  (h:∀v' w',zse w' base v' (l++[y,z])→w.grownBy w' v.ownBlock→wpList prog ops Q rest (a.put o.dst v') w'):wpList prog ops Q (o::rest) a w:=by
 obtain⟨F,I,C,A,B⟩:=info_parts zyb;refine wpList_append_own_wide w hgd s x 91 ho base 124 F (.agg #[.int .i64 0,.int .i64 0,.string ⟨#[]⟩]) 3 32 underlying91 I C A B rfl (by decide) v l.length (cellsSt l) hs hown ⟨b,0,none⟩ 2 2 (cellsSt [y,z]) hx rfl hnews (zid _) (by unfold maxLen;omega) (by omega) hbase ?_;intro v' w' E D _;refine h v' w' ?_ D;rw[zse,zfg,List.length_append];exact E
theorem z2o(l:List (Int×ByteArray)):(homeS l).length≤l.length+1:=by
 rw[homeS,List.length_append,zck];split<;>simp
theorem zwe(a:Option Addr)(c:Nat)(l:List (Int×ByteArray))(p seq:Int)(w:World)(h:SegW w a l)(hn:l.length*24≤140737488355328):
  Calls prog 115 #[.slice a l.length c,.int .i64 p,.int .i64 seq] w fun e w'=>∃a2 c2,e=.returned (.tuple #[.slice a2 (checkS l p seq).length c2,.int .i64 (checkE l p seq)])∧(checkS l p seq).length≤c2∧SegSt w' a2 (checkS l p seq)∧Below w.heap.size w w'∧∀b off,a2=some ⟨b,off,none⟩→w.heap.size≤b:=by
 have HS:=zaa h;clear h;obtain⟨m,r⟩:∃m,m=zbr p seq:=⟨_,rfl⟩;have O:=zaa r
 have z:∀W,IsMk W (.agg #[.int .i64 1,.int .i64 seq,.int .i64 p,.slice none 0 0,.slice none 0 0]) m:=by
  intro W;rw[r];exact⟨none,0,none,0,rfl,.inl rfl,.inl rfl,Nat.zero_le _,Nat.zero_le _⟩
 have HI:=zaa z;clear r z;go_enter func115,ntmps115;go_wp2_with fail;refine(zds _ m _ (HI.o _)).mono ?_;rintro e w1 ⟨rfl,I⟩;by_cases hg:goodM m=0
 ·rw[hg];have A0:l.length≤maxLen:=by unfold maxLen;omega
  obtain⟨s,q⟩:∃s,s=encT m:=⟨_,rfl⟩;rw[←q];have X:=zaa q;clear q;have E:=zaa I;clear I;go_wp2_with fail;refine(zi5 zg0 146 #[] (Go.Proofs.enters_of func146 (by kernel_rfl) rfl) a c l _ (HS.o.below E.o) A0 (fun x W hb=>(zqh x.1 x.2 W).mono fun _ _ ⟨h1,h2⟩=>⟨h1,hb.trans (h2.mono hb.size)⟩)).mono ?_;rintro e w2 ⟨rfl,k⟩;have F:=zaa (zae E.o k);clear k E
  cases hc:l.any zg0 with
  |true=>
   have C:Hid (checkE l p seq=1):=by rw[Hid,checkE,←O.o,if_neg (by simp[hg]),if_pos hc]
   have A:Hid (checkS l p seq=[]):=by rw[Hid,checkS,C.o];rfl
   go_wp2;exact bodyPost_ret (v:=.tuple #[.slice none 0 0,.int .i64 1]) (by simp[results,results115,go_sem]) rfl ⟨none,0,by rw[C.o,A.o];rfl,by rw[A.o];exact Nat.le_refl _,by rw[A.o];exact .inl rfl,F.o,fun _ _ e=>by cases e⟩
  |false=>
   have C:Hid (checkE l p seq=0):=by rw[Hid,checkE,←O.o,if_neg (by simp[hg]),if_neg (by simp[hc])]
   have A:Hid (checkS l p seq=homeS l++[zbm 0 s,zb1]):=by rw[Hid,checkS,if_pos C.o,←O.o,←X.o]
   have u:Hid (∀x∈l,0≤x.1∧x.1≤11):=by
    intro x hx;have:=List.any_eq_false.1 hc x hx;simp[zg0,zao]at this;exact this.1
   have hq:=z2o l;clear X hc O HI hg;go_wp2_with fail;refine(zuy a c l _ (HS.o.below F.o) hn u.o).mono ?_;rintro e w3 ⟨v3,rfl,d,Z⟩;have R:=zaa (zba d F.o.size);have i:=zaa (zae F.o Z);clear d Z F;generalize homeS l=L at *;go_wp2_with fail;refine(zlw 0 s _).mono ?_;rintro e w4 ⟨rfl,J⟩;have Y:=zaa (zah R.o J);have S:=zaa (zae i.o J);clear J R i;go_wp2_with fail;refine(zjw _).mono ?_;rintro e w5 ⟨rfl,N⟩;have K:=zaa (zah Y.o N);have D:=zaa (zae S.o N);clear N Y S;go_wp2_with (at_builtin;refine zow rfl _ _ rfl w.heap.size _ L rfl (zah K.o (zab _ _)) w5.heap.size (zbm 0 s) zb1 rfl (z6p (by simp[go_sem,zbm]) (by simp[go_sem,zbm]) (by simp[go_sem,zbm]) (by simp[go_sem,zb1]) (by simp[go_sem,zb1]) (by simp[go_sem,zb1])) (by omega) (Nat.le_trans D.o.size (by simp)) ?_);intro v' w' B M;have y:Hid (Below w.heap.size w w'):=(D.o.alloc D.o.size _).grown M (Nat.le_trans D.o.size (by simp)) (fun j hj=>(K.o.lt j hj).1);obtain⟨a2,c2,hv,U,Q⟩:=SegSt.of_owns B;have A1:=zaa Q;have n:=zaa (zsd B hv);have A2:=zaa U;subst hv;clear B M U Q K D;go_wp2;exact bodyPost_ret (v:=.tuple #[.slice a2 (L++[zbm 0 s,zb1]).length c2,.int .i64 0]) (by simp[results,results115,go_sem]) rfl ⟨a2,c2,by rw[C.o,A.o],by rw[A.o];exact n.o,by rw[A.o];exact A2.o,y.o,A1.o⟩
 ·have C:Hid (checkE l p seq=goodM m):=by rw[Hid,checkE,←O.o,if_pos (by simpa using hg)]
  have A:Hid (checkS l p seq=[]):=by rw[Hid,checkS,C.o,if_neg hg]
  have M:(goodM m !=0)=true:=by simpa using hg
  have E:=zaa I;clear I;generalize goodM m=G at *;go_wp2;exact bodyPost_ret (v:=.tuple #[.slice none 0 0,.int .i64 G]) (by simp[results,results115,go_sem]) rfl ⟨none,0,by rw[C.o,A.o];rfl,by rw[A.o];exact Nat.le_refl _,by rw[A.o];exact .inl rfl,E.o,fun _ _ e=>by cases e⟩
