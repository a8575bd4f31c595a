/- -/
import Derived.Test.YtjnpndfpajjihacGreatGrTopOrdered4
import Derived.Test.YtjnpndfpajjihacGreatGrTopOrdered13
import Derived.Test.YtjnpndfpajjihacGreatGrTopOrdered22
namespace Go.Proofs.YtjnpndfpajjihacGreat
open Go.Proofs.Tryz
set_option maxRecDepth 100000
set_option maxHeartbeats 40000000
open Go.RowKit
def zg3 (x:Int×ByteArray):Bool:= !(zap x.1 0 11&&decide (x.2.size=32))
def zbq (p seq:Int):Mk:=⟨1,seq,p,[],[]⟩
def checkE (l:List (Int×ByteArray))(p seq:Int):Int:=if goodM (zbq p seq)≠0 then goodM (zbq p seq) else if l.any zg3=true then 1 else 0
def zbr (l:List (Int×ByteArray))(p seq:Int):List St:=if checkE l p seq=0 then homeS l++[zbl 0 (encT (zbq p seq)),zb1] else[]
theorem zqf(n:Int)(s:ByteArray)(w:World):
  Calls prog 146 #[.agg #[.int .i64 n,.string s]] w fun e w'=>e=.returned (.bool (zg3 (n,s)))∧Below w.heap.size w w':=by
 have D:zg3 (n,s)=(decide (n<0)||decide (12≤n)||((s.size:Int) !=32)):=by
  unfold zg3 zap;by_cases h0:n<0
  ·have:¬0≤n:=by omega
   simp[h0,this]
  ·by_cases h1:12≤n
   ·have A:¬n≤11:=by omega
    simp[h1,A]
   ·have A:n≤11:=by omega
    have C:0≤n:=by omega
    have E:¬12≤n:=h1;by_cases h5:s.size=32
    ·simp[h0,A,C,E,h5]
    ·have F:((s.size:Int) !=32)=true:=by rw[bne_iff_ne];omega
     simp[h0,A,C,E,h5,F]
 have B:=zab D;clear D;go_enter func146,ntmps146;by_cases h0:n<0
 ·go_wp2;go_ret;exact⟨by rw[B.o];simp[h0],zaa _ _⟩
 ·by_cases h1:12≤n
  ·go_wp2;go_ret;exact⟨by rw[B.o];simp[h1],zaa _ _⟩
  ·go_wp2;go_ret;exact⟨by rw[B.o,show decide (n<0)=false from decide_eq_false (by omega),show decide (12≤n)=false from decide_eq_false (by omega)];rfl,zaa _ _⟩
theorem z57{w:World}{b:Nat}{x y:St}(h0:w.cell? ⟨b,0,none⟩=some (.int .i64 x.1))(h1:w.cell? ⟨b,1,none⟩=some (.int .i64 x.2.1))(h2:w.cell? ⟨b,2,none⟩=some (.string x.2.2))(h3:w.cell? ⟨b,3,none⟩=some (.int .i64 y.1))(h4:w.cell? ⟨b,4,none⟩=some (.int .i64 y.2.1))(h5:w.cell? ⟨b,5,none⟩=some (.string y.2.2)):
  ∀j u,(cellsSt [x,y])[j]?=some u→w.cell? (Addr.add ⟨b,0,none⟩ j)=some u:=by
 intro j u A;rw[Addr.add_lit,Nat.zero_add]
 match j,A with
 |0,A=>simp[cellsSt]at A;subst A;exact h0
 |1,A=>simp[cellsSt]at A;subst A;exact h1
 |2,A=>simp[cellsSt]at A;subst A;exact h2
 |3,A=>simp[cellsSt]at A;subst A;exact h3
 |4,A=>simp[cellsSt]at A;subst A;exact h4
 |5,A=>simp[cellsSt]at A;subst A;exact h5
 |j+6,A=>simp[cellsSt]at A
theorem zox{w:World}{ops:Array Oper}{rest:List Oper}{o:Oper}{a:Act}{Q:Exit→Act→World→Prop}(hgd:o.guard=none)(s x:Operand)
  (ho:o.op=.call {callee:=.builtin .append,args:=#[s,x],argTypes:=#[91,91]})
  (base:Nat) (v:Value) (l:List St) (hs:a.eval s=v) (hown:w.ownsRow base 124 3 v l.length (cellsSt l)) (b:Nat) (y z:St) (hx:a.eval x=.slice (some ⟨b,0,none⟩) 2 2)
  (hnews:∀j u,(cellsSt [y,z])[j]?=some u→w.cell? (Addr.add ⟨b,0,none⟩ j)=some u) (h63:l.length*24≤140737488380000) (hbase:base≤w.heap.size)
  (h:∀v' w',zsh w' base v' (l++[y,z])→w.grownBy w' v.ownBlock→wpList prog ops Q rest (a.put o.dst v') w'):wpList prog ops Q (o::rest) a w:=by
 obtain⟨D,F,B,C,A⟩:=info_parts zyb;refine wpList_append_own_wide w hgd s x 91 ho base 124 D (.agg #[.int .i64 0,.int .i64 0,.string ⟨#[]⟩]) 3 32 underlying91 F B C A rfl (by decide) v l.length (cellsSt l) hs hown ⟨b,0,none⟩ 2 2 (cellsSt [y,z]) hx rfl hnews (zib _) (by unfold maxLen;omega) (by omega) hbase ?_;intro v' w' I E _;refine h v' w' ?_ E;rw[zsh,zfi,List.length_append];exact I
theorem z2h(l:List (Int×ByteArray)):(homeS l).length≤l.length+1:=by
 rw[homeS,List.length_append,zcj];split<;>simp
theorem zwf(a:Option Addr)(c:Nat)(l:List (Int×ByteArray))(p seq:Int)(w:World)(h:SegW w a l)(hn:l.length*24≤140737488355328):
  Calls prog 115 #[.slice a l.length c,.int .i64 p,.int .i64 seq] w fun e w'=>∃a2 c2,e=.returned (.tuple #[.slice a2 (zbr l p seq).length c2,.int .i64 (checkE l p seq)])∧(zbr l p seq).length≤c2∧SegSt w' a2 (zbr l p seq)∧Below w.heap.size w w'∧∀b off,a2=some ⟨b,off,none⟩→w.heap.size≤b:=by
 have z:=zab h;clear h;obtain⟨m,r⟩:∃m,m=zbq p seq:=⟨_,rfl⟩;have O:=zab r
 have hI:∀W,IsMk W (.agg #[.int .i64 1,.int .i64 seq,.int .i64 p,.slice none 0 0,.slice none 0 0]) m:=by
  intro W;rw[r];exact⟨none,0,none,0,rfl,.inl rfl,.inl rfl,Nat.zero_le _,Nat.zero_le _⟩
 have HI:=zab hI;clear r hI;go_enter func115,ntmps115;go_wp2_with fail;refine(zds _ m _ (HI.o _)).mono ?_;rintro e w1 ⟨rfl,I⟩;by_cases hg:goodM m=0
 ·rw[hg];have A2:l.length≤maxLen:=by unfold maxLen;omega
  obtain⟨s,q⟩:∃s,s=encT m:=⟨_,rfl⟩;rw[←q];have k:=zab q;clear q;have D:=zab I;clear I;go_wp2_with fail;refine(zi6 zg3 146 #[] (Go.Proofs.enters_of func146 (by kernel_rfl) rfl) a c l _ (z.o.below D.o) A2 (fun x W hb=>(zqf x.1 x.2 W).mono fun _ _ ⟨h1,h2⟩=>⟨h1,hb.trans (h2.mono hb.size)⟩)).mono ?_;rintro e w2 ⟨rfl,d⟩;have C:=zab (zae D.o d);clear d D
  cases hc:l.any zg3 with
  |true=>
   have E:Hid (checkE l p seq=1):=by rw[Hid,checkE,←O.o,if_neg (by simp[hg]),if_pos hc]
   have A:Hid (zbr l p seq=[]):=by rw[Hid,zbr,E.o];rfl
   go_wp2;exact bodyPost_ret (v:=.tuple #[.slice none 0 0,.int .i64 1]) (by simp[results,results115,go_sem]) rfl ⟨none,0,by rw[E.o,A.o];rfl,by rw[A.o];exact Nat.le_refl _,by rw[A.o];exact .inl rfl,C.o,fun _ _ e=>by cases e⟩
  |false=>
   have E:Hid (checkE l p seq=0):=by rw[Hid,checkE,←O.o,if_neg (by simp[hg]),if_neg (by simp[hc])]
   have A:Hid (zbr l p seq=homeS l++[zbl 0 s,zb1]):=by rw[Hid,zbr,if_pos E.o,←O.o,←k.o]
   have u:Hid (∀x∈l,0≤x.1∧x.1≤11):=by
    intro x hx;have:=List.any_eq_false.1 hc x hx;simp[zg3,zap]at this;exact this.1
   have hq:=z2h l;clear k hc O HI hg;go_wp2_with fail;refine(zu0 a c l _ (z.o.below C.o) hn u.o).mono ?_;rintro e w3 ⟨v3,rfl,R,S⟩;have Y:=zab (za6 R C.o.size);have i:=zab (zae C.o S);clear R S C;generalize homeS l=L at *;go_wp2_with fail;refine(zlx 0 s _).mono ?_;rintro e w4 ⟨rfl,N⟩;have Q:=zab (zah Y.o N);have Z:=zab (zae i.o N);clear N Y i;go_wp2_with fail;refine(zjy _).mono ?_;rintro e w5 ⟨rfl,K⟩;have M:=zab (zah Q.o K);have F:=zab (zae Z.o K);clear K Q Z;go_wp2_with (at_builtin;refine zox rfl _ _ rfl w.heap.size _ L rfl (zah M.o (zaa _ _)) w5.heap.size (zbl 0 s) zb1 rfl (z57 (by simp[go_sem,zbl]) (by simp[go_sem,zbl]) (by simp[go_sem,zbl]) (by simp[go_sem,zb1]) (by simp[go_sem,zb1]) (by simp[go_sem,zb1])) (by omega) (Nat.le_trans F.o.size (by simp)) ?_);intro v' w' B J;have A1:Hid (Below w.heap.size w w'):=(F.o.alloc F.o.size _).grown J (Nat.le_trans F.o.size (by simp)) (fun j hj=>(M.o.lt j hj).1);obtain⟨a2,c2,hv,X,U⟩:=SegSt.of_owns B;have y:=zab U;have n:=zab (zsg B hv);have A0:=zab X;subst hv;clear B J X U M F;go_wp2;exact bodyPost_ret (v:=.tuple #[.slice a2 (L++[zbl 0 s,zb1]).length c2,.int .i64 0]) (by simp[results,results115,go_sem]) rfl ⟨a2,c2,by rw[E.o,A.o],by rw[A.o];exact n.o,by rw[A.o];exact A0.o,A1.o,y.o⟩
 ·have E:Hid (checkE l p seq=goodM m):=by rw[Hid,checkE,←O.o,if_pos (by simpa using hg)]
  have A:Hid (zbr l p seq=[]):=by rw[Hid,zbr,E.o,if_neg hg]
  have J:(goodM m !=0)=true:=by simpa using hg
  have D:=zab I;clear I;generalize goodM m=G at *;go_wp2;exact bodyPost_ret (v:=.tuple #[.slice none 0 0,.int .i64 G]) (by simp[results,results115,go_sem]) rfl ⟨none,0,by rw[E.o,A.o];rfl,by rw[A.o];exact Nat.le_refl _,by rw[A.o];exact .inl rfl,D.o,fun _ _ e=>by cases e⟩
