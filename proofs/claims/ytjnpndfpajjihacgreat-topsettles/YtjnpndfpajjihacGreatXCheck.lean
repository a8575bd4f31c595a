/- -/
import Derived.Test.YtjnpndfpajjihacGreatGrTopSettles4
import Derived.Test.YtjnpndfpajjihacGreatGrTopSettles13
import Derived.Test.YtjnpndfpajjihacGreatGrTopSettles22
namespace Go.Proofs.YtjnpndfpajjihacGreat
open Go.Proofs.Tryz
set_option maxRecDepth 100000
set_option maxHeartbeats 40000000
open Go.RowKit
def zg4 (x:Int×ByteArray):Bool:= !(zap x.1 0 11&&decide (x.2.size=32))
def zbq (p seq:Int):Mk:=⟨1,seq,p,[],[]⟩
def checkE (l:List (Int×ByteArray))(p seq:Int):Int:=if goodM (zbq p seq)≠0 then goodM (zbq p seq) else if l.any zg4=true then 1 else 0
def checkS (l:List (Int×ByteArray))(p seq:Int):List St:=if checkE l p seq=0 then homeS l++[zbm 0 (encT (zbq p seq)),zb1] else[]
theorem zp7(n:Int)(s:ByteArray)(w:World):
  Calls prog 146 #[.agg #[.int .i64 n,.string s]] w fun e w'=>e=.returned (.bool (zg4 (n,s)))∧Below w.heap.size w w':=by
 have E:zg4 (n,s)=(decide (n<0)||decide (12≤n)||((s.size:Int) !=32)):=by
  unfold zg4 zap;by_cases h0:n<0
  ·have:¬0≤n:=by omega
   simp[h0,this]
  ·by_cases h1:12≤n
   ·have A:¬n≤11:=by omega
    simp[h1,A]
   ·have A:n≤11:=by omega
    have D:0≤n:=by omega
    have C:¬12≤n:=h1;by_cases h5:s.size=32
    ·simp[h0,A,D,C,h5]
    ·have F:((s.size:Int) !=32)=true:=by rw[bne_iff_ne];omega
     simp[h0,A,D,C,h5,F]
 have B:=zaa E;clear E;go_enter func146,ntmps146;by_cases h0:n<0
 ·go_wp2;go_ret;exact⟨by rw[B.o];simp[h0],zab _ _⟩
 ·by_cases h1:12≤n
  ·go_wp2;go_ret;exact⟨by rw[B.o];simp[h1],zab _ _⟩
  ·go_wp2;go_ret;exact⟨by rw[B.o,show decide (n<0)=false from decide_eq_false (by omega),show decide (12≤n)=false from decide_eq_false (by omega)];rfl,zab _ _⟩
theorem z52{w:World}{b:Nat}{x y:St}(h0:w.cell? ⟨b,0,none⟩=some (.int .i64 x.1))(h1:w.cell? ⟨b,1,none⟩=some (.int .i64 x.2.1))(h2:w.cell? ⟨b,2,none⟩=some (.string x.2.2))(h3:w.cell? ⟨b,3,none⟩=some (.int .i64 y.1))(h4:w.cell? ⟨b,4,none⟩=some (.int .i64 y.2.1))(h5:w.cell? ⟨b,5,none⟩=some (.string y.2.2)):
  ∀j u,(cellsSt [x,y])[j]?=some u→w.cell? (Addr.add ⟨b,0,none⟩ j)=some u:=by
 intro j u A;rw[Addr.add_lit,Nat.zero_add]
 match j,A with
 |0,A=>simp[cellsSt]at A;subst A;exact h0
 |1,A=>simp[cellsSt]at A;subst A;exact h1
 |2,A=>simp[cellsSt]at A;subst A;exact h2
 |3,A=>simp[cellsSt]at A;subst A;exact h3
 |4,A=>simp[cellsSt]at A;subst A;exact h4
 |5,A=>simp[cellsSt]at A;subst A;exact h5
 |j+6,A=>simp[cellsSt]at A
theorem zol{w:World}{ops:Array Oper}{rest:List Oper}{o:Oper}{a:Act}{Q:Exit→Act→World→Prop}(hgd:o.guard=none)(s x:Operand)
  (ho:o.op=.call {callee:=.builtin .append,args:=#[s,x],argTypes:=#[91,91]})
  (base:Nat) (v:Value) (l:List St) (hs:a.eval s=v) (hown:w.ownsRow base 124 3 v l.length (cellsSt l)) (b:Nat) (y z:St) (hx:a.eval x=.slice (some ⟨b,0,none⟩) 2 2)
  (hnews:∀j u,(cellsSt [y,z])[j]?=some u→w.cell? (Addr.add ⟨b,0,none⟩ j)=some u) (h63:l.length*24≤140737488380000) (hbase:base≤w.heap.size)
  (h:∀v' w',zsc w' base v' (l++[y,z])→w.grownBy w' v.ownBlock→wpList prog ops Q rest (a.put o.dst v') w'):wpList prog ops Q (o::rest) a w:=by
 obtain⟨E,I,C,A,B⟩:=info_parts zx6;refine wpList_append_own_wide w hgd s x 91 ho base 124 E (.agg #[.int .i64 0,.int .i64 0,.string ⟨#[]⟩]) 3 32 underlying91 I C A B rfl (by decide) v l.length (cellsSt l) hs hown ⟨b,0,none⟩ 2 2 (cellsSt [y,z]) hx rfl hnews (zic _) (by unfold maxLen;omega) (by omega) hbase ?_;intro v' w' D F _;refine h v' w' ?_ F;rw[zsc,zfn,List.length_append];exact D
theorem z2a(l:List (Int×ByteArray)):(homeS l).length≤l.length+1:=by
 rw[homeS,List.length_append,zck];split<;>simp
theorem zwc(a:Option Addr)(c:Nat)(l:List (Int×ByteArray))(p seq:Int)(w:World)(h:SegW w a l)(hn:l.length*24≤140737488355328):
  Calls prog 115 #[.slice a l.length c,.int .i64 p,.int .i64 seq] w fun e w'=>∃a2 c2,e=.returned (.tuple #[.slice a2 (checkS l p seq).length c2,.int .i64 (checkE l p seq)])∧(checkS l p seq).length≤c2∧SegSt w' a2 (checkS l p seq)∧Below w.heap.size w w'∧∀b off,a2=some ⟨b,off,none⟩→w.heap.size≤b:=by
 have HS:=zaa h;clear h;obtain⟨m,r⟩:∃m,m=zbq p seq:=⟨_,rfl⟩;have J:=zaa r
 have hI:∀W,IsMk W (.agg #[.int .i64 1,.int .i64 seq,.int .i64 p,.slice none 0 0,.slice none 0 0]) m:=by
  intro W;rw[r];exact⟨none,0,none,0,rfl,.inl rfl,.inl rfl,Nat.zero_le _,Nat.zero_le _⟩
 have u:=zaa hI;clear r hI;go_enter func115,ntmps115;go_wp2_with fail;refine(zdv _ m _ (u.o _)).mono ?_;rintro e w1 ⟨rfl,I⟩;by_cases hg:goodM m=0
 ·rw[hg];have y:l.length≤maxLen:=by unfold maxLen;omega
  obtain⟨s,q⟩:∃s,s=encT m:=⟨_,rfl⟩;rw[←q];have Q:=zaa q;clear q;have D:=zaa I;clear I;go_wp2_with fail;refine(zi4 zg4 146 #[] (Go.Proofs.enters_of func146 (by kernel_rfl) rfl) a c l _ (HS.o.below D.o) y (fun x W hb=>(zp7 x.1 x.2 W).mono fun _ _ ⟨h1,h2⟩=>⟨h1,hb.trans (h2.mono hb.size)⟩)).mono ?_;rintro e w2 ⟨rfl,S⟩;have C:=zaa (zae D.o S);clear S D
  cases hc:l.any zg4 with
  |true=>
   have E:Hid (checkE l p seq=1):=by rw[Hid,checkE,←J.o,if_neg (by simp[hg]),if_pos hc]
   have A:Hid (checkS l p seq=[]):=by rw[Hid,checkS,E.o];rfl
   go_wp2;exact bodyPost_ret (v:=.tuple #[.slice none 0 0,.int .i64 1]) (by simp[results,results115,go_sem]) rfl ⟨none,0,by rw[E.o,A.o];rfl,by rw[A.o];exact Nat.le_refl _,by rw[A.o];exact .inl rfl,C.o,fun _ _ e=>by cases e⟩
  |false=>
   have E:Hid (checkE l p seq=0):=by rw[Hid,checkE,←J.o,if_neg (by simp[hg]),if_neg (by simp[hc])]
   have A:Hid (checkS l p seq=homeS l++[zbm 0 s,zb1]):=by rw[Hid,checkS,if_pos E.o,←J.o,←Q.o]
   have A2:Hid (∀x∈l,0≤x.1∧x.1≤11):=by
    intro x hx;have:=List.any_eq_false.1 hc x hx;simp[zg4,zap]at this;exact this.1
   have hq:=z2a l;clear Q hc J u hg;go_wp2_with fail;refine(zuw a c l _ (HS.o.below C.o) hn A2.o).mono ?_;rintro e w3 ⟨v3,rfl,i,X⟩;have k:=zaa (za8 i C.o.size);have R:=zaa (zae C.o X);clear i X C;generalize homeS l=L at *;go_wp2_with fail;refine(zln 0 s _).mono ?_;rintro e w4 ⟨rfl,O⟩;have d:=zaa (zah k.o O);have Y:=zaa (zae R.o O);clear O k R;go_wp2_with fail;refine(zju _).mono ?_;rintro e w5 ⟨rfl,K⟩;have N:=zaa (zah d.o K);have F:=zaa (zae Y.o K);clear K d Y;go_wp2_with (at_builtin;refine zol rfl _ _ rfl w.heap.size _ L rfl (zah N.o (zab _ _)) w5.heap.size (zbm 0 s) zb1 rfl (z52 (by simp[go_sem,zbm]) (by simp[go_sem,zbm]) (by simp[go_sem,zbm]) (by simp[go_sem,zb1]) (by simp[go_sem,zb1]) (by simp[go_sem,zb1])) (by omega) (Nat.le_trans F.o.size (by simp)) ?_);intro v' w' B M;have A1:Hid (Below w.heap.size w w'):=(F.o.alloc F.o.size _).grown M (Nat.le_trans F.o.size (by simp)) (fun j hj=>(N.o.lt j hj).1);obtain⟨a2,c2,hv,U,Z⟩:=SegSt.of_owns B;have z:=zaa Z;have n:=zaa (zsb B hv);have A0:=zaa U;subst hv;clear B M U Z N F;go_wp2;exact bodyPost_ret (v:=.tuple #[.slice a2 (L++[zbm 0 s,zb1]).length c2,.int .i64 0]) (by simp[results,results115,go_sem]) rfl ⟨a2,c2,by rw[E.o,A.o],by rw[A.o];exact n.o,by rw[A.o];exact A0.o,A1.o,z.o⟩
 ·have E:Hid (checkE l p seq=goodM m):=by rw[Hid,checkE,←J.o,if_pos (by simpa using hg)]
  have A:Hid (checkS l p seq=[]):=by rw[Hid,checkS,E.o,if_neg hg]
  have M:(goodM m !=0)=true:=by simpa using hg
  have D:=zaa I;clear I;generalize goodM m=G at *;go_wp2;exact bodyPost_ret (v:=.tuple #[.slice none 0 0,.int .i64 G]) (by simp[results,results115,go_sem]) rfl ⟨none,0,by rw[E.o,A.o];rfl,by rw[A.o];exact Nat.le_refl _,by rw[A.o];exact .inl rfl,D.o,fun _ _ e=>by cases e⟩
