/- -/
import Derived.Test.YtjnpndfpajjihacGreatGrTopMemory4
import Derived.Test.YtjnpndfpajjihacGreatGrTopMemory14
import Derived.Test.YtjnpndfpajjihacGreatGrTopMemory23
namespace Go.Proofs.YtjnpndfpajjihacGreat
set_option maxRecDepth 100000
set_option maxHeartbeats 40000000
open Go.RowKit
def zgn (x:Int×ByteArray):Bool:= !(zam x.1 0 11&&decide (x.2.size=32))
def zbo (p seq:Int):Mk:=⟨1,seq,p,[],[]⟩
def checkE (l:List (Int×ByteArray))(p seq:Int):Int:=if goodM (zbo p seq)≠0 then goodM (zbo p seq) else if l.any zgn=true then 1 else 0
def zbp (l:List (Int×ByteArray))(p seq:Int):List St:=if checkE l p seq=0 then homeS l++[zbh 0 (encT (zbo p seq)),zby] else[]
theorem zps (n:Int)(s:ByteArray)(w:World):
  Calls Tryz.prog 146 #[.agg #[.int .i64 n,.string s]] w fun e w'=>e=.returned (.bool (zgn (n,s)))∧Below w.heap.size w w':=by
 have e0:zgn (n,s)=(decide (n<0)||decide (12≤n)||((s.size:Int) !=32)):=by
  unfold zgn zam;by_cases h0:n<0
  ·have:¬0≤n:=by omega
   simp[h0,this]
  ·by_cases h1:12≤n
   ·have h2:¬n≤11:=by omega
    simp[h1,h2]
   ·have h2:n≤11:=by omega
    have h3:0≤n:=by omega
    have h4:¬12≤n:=h1;by_cases h5:s.size=32
    ·simp[h0,h2,h3,h4,h5]
    ·have h6:((s.size:Int) !=32)=true:=by rw[bne_iff_ne];omega
     simp[h0,h2,h3,h4,h5,h6]
 have E0:=zaa e0;clear e0;go_enter Tryz.func146,Tryz.ntmps146;by_cases h0:n<0
 ·go_wp2
  go_ret;exact⟨by rw[E0.o];simp[h0],zab _ _⟩
 ·by_cases h1:12≤n
  ·go_wp2
   go_ret;exact⟨by rw[E0.o];simp[h1],zab _ _⟩
  ·go_wp2
   go_ret;exact⟨by rw[E0.o,show decide (n<0)=false from decide_eq_false (by omega),show decide (12≤n)=false from decide_eq_false (by omega)];rfl,zab _ _⟩
theorem z44 {w:World}{b:Nat}{x y:St}(h0:w.cell? ⟨b,0,none⟩=some (.int .i64 x.1))(h1:w.cell? ⟨b,1,none⟩=some (.int .i64 x.2.1))(h2:w.cell? ⟨b,2,none⟩=some (.string x.2.2))(h3:w.cell? ⟨b,3,none⟩=some (.int .i64 y.1))(h4:w.cell? ⟨b,4,none⟩=some (.int .i64 y.2.1))(h5:w.cell? ⟨b,5,none⟩=some (.string y.2.2)):
  ∀j u,(cellsSt [x,y])[j]?=some u→w.cell? (Addr.add ⟨b,0,none⟩ j)=some u:=by
 intro j u hj;rw[Addr.add_lit,Nat.zero_add]
 match j,hj with
 |0,hj=>simp[cellsSt] at hj;subst hj;exact h0
 |1,hj=>simp[cellsSt] at hj;subst hj;exact h1
 |2,hj=>simp[cellsSt] at hj;subst hj;exact h2
 |3,hj=>simp[cellsSt] at hj;subst hj;exact h3
 |4,hj=>simp[cellsSt] at hj;subst hj;exact h4
 |5,hj=>simp[cellsSt] at hj;subst hj;exact h5
 |j+6,hj=>simp[cellsSt] at hj
theorem zoe {w:World}{ops:Array Oper}{rest:List Oper}{o:Oper}{a:Act}{Q:Exit→Act→World→Prop}(hgd:o.guard=none)(s x:Operand)
  (ho:o.op=.call {callee:=.builtin .append,args:=#[s,x],argTypes:=#[91,91]})
  (base:Nat) (v:Value) (l:List St) (hs:a.eval s=v) (hown:w.ownsRow base 124 3 v l.length (cellsSt l)) (b:Nat) (y z:St) (hx:a.eval x=.slice (some ⟨b,0,none⟩) 2 2)
  (hnews:∀j u,(cellsSt [y,z])[j]?=some u→w.cell? (Addr.add ⟨b,0,none⟩ j)=some u) (h63:l.length*24≤140737488380000) (hbase:base≤w.heap.size)
  (h:∀v' w',zrv w' base v' (l++[y,z])→w.grownBy w' v.ownBlock→wpList Tryz.prog ops Q rest (a.put o.dst v') w'):wpList Tryz.prog ops Q (o::rest) a w:=by
 obtain⟨i0,hi,hz0,hz1,hz2⟩:=info_parts zxf;refine wpList_append_own_wide w hgd s x 91 ho base 124 i0 (.agg #[.int .i64 0,.int .i64 0,.string ⟨#[]⟩]) 3 32 Tryz.underlying91 hi hz0 hz1 hz2 rfl (by decide) v l.length (cellsSt l) hs hown ⟨b,0,none⟩ 2 2 (cellsSt [y,z]) hx rfl hnews (zhy _) (by unfold maxLen;omega) (by omega) hbase ?_;intro v' w' k1 k2 _;refine h v' w' ?_ k2;rw[zrv,ze5,List.length_append];exact k1
theorem z1e (l:List (Int×ByteArray)):(homeS l).length≤l.length+1:=by
 rw[homeS,List.length_append,zcf];split<;>simp
theorem zvl (a:Option Addr)(c:Nat)(l:List (Int×ByteArray))(p seq:Int)(w:World)(h:SegW w a l)(hn:l.length*24≤140737488355328):
  Calls Tryz.prog 115 #[.slice a l.length c,.int .i64 p,.int .i64 seq] w fun e w'=>∃a2 c2,e=.returned (.tuple #[.slice a2 (zbp l p seq).length c2,.int .i64 (checkE l p seq)])∧(zbp l p seq).length≤c2∧SegSt w' a2 (zbp l p seq)∧Below w.heap.size w w'∧∀b off,a2=some ⟨b,off,none⟩→w.heap.size≤b:=by
 have HS:=zaa h;clear h;obtain⟨m,hm⟩:∃m,m=zbo p seq:=⟨_,rfl⟩;have HM:=zaa hm
 have hI:∀W,IsMk W (.agg #[.int .i64 1,.int .i64 seq,.int .i64 p,.slice none 0 0,.slice none 0 0]) m:=by
  intro W;rw[hm];exact⟨none,0,none,0,rfl,.inl rfl,.inl rfl,Nat.zero_le _,Nat.zero_le _⟩
 have HI:=zaa hI;clear hm hI;go_enter Tryz.func115,Tryz.ntmps115;go_wp2_with fail;refine(zdn _ m _ (HI.o _)).mono ?_;rintro e w1 ⟨rfl,hb1⟩;by_cases hg:goodM m=0
 ·rw[hg]
  have hnl:l.length≤maxLen:=by unfold maxLen;omega
  obtain⟨s,hs⟩:∃s,s=encT m:=⟨_,rfl⟩;rw[←hs];have HSE:=zaa hs;clear hs;have HB1:=zaa hb1;clear hb1;go_wp2_with fail;refine(zit zgn 146 #[] (Go.Proofs.enters_of Tryz.func146 (by kernel_rfl) rfl) a c l _ (HS.o.below HB1.o) hnl (fun x W hb=>(zps x.1 x.2 W).mono fun _ _ ⟨h1,h2⟩=>⟨h1,hb.trans (h2.mono hb.size)⟩)).mono ?_;rintro e w2 ⟨rfl,hb2⟩;have HB2:=zaa (zae HB1.o hb2);clear hb2 HB1
  cases hc:l.any zgn with
  |true=>
   have HE:Hid (checkE l p seq=1):=by rw[Hid,checkE,←HM.o,if_neg (by simp[hg]),if_pos hc]
   have HT:Hid (zbp l p seq=[]):=by rw[Hid,zbp,HE.o];rfl
   go_wp2;exact bodyPost_ret (v:=.tuple #[.slice none 0 0,.int .i64 1]) (by simp[results,Tryz.results115,go_sem]) rfl ⟨none,0,by rw[HE.o,HT.o];rfl,by rw[HT.o];exact Nat.le_refl _,by rw[HT.o];exact .inl rfl,HB2.o,fun _ _ e=>by cases e⟩
  |false=>
   have HE:Hid (checkE l p seq=0):=by rw[Hid,checkE,←HM.o,if_neg (by simp[hg]),if_neg (by simp[hc])]
   have HT:Hid (zbp l p seq=homeS l++[zbh 0 s,zby]):=by rw[Hid,zbp,if_pos HE.o,←HM.o,←HSE.o]
   have HBD:Hid (∀x∈l,0≤x.1∧x.1≤11):=by
    intro x hx;have:=List.any_eq_false.1 hc x hx;simp[zgn,zam] at this;exact this.1
   have hq:=z1e l;clear HSE hc HM HI hg;go_wp2_with fail;refine(zub a c l _ (HS.o.below HB2.o) hn HBD.o).mono ?_;rintro e w3 ⟨v3,rfl,hO3,hb3⟩;have HO3:=zaa (za5 hO3 HB2.o.size);have HB3:=zaa (zae HB2.o hb3);clear hO3 hb3 HB2;generalize homeS l=L at *;go_wp2_with fail;refine(zle 0 s _).mono ?_;rintro e w4 ⟨rfl,hb4⟩;have HO4:=zaa (zah HO3.o hb4);have HB4:=zaa (zae HB3.o hb4);clear hb4 HO3 HB3;go_wp2_with fail;refine(zjj _).mono ?_;rintro e w5 ⟨rfl,hb5⟩;have HO5:=zaa (zah HO4.o hb5);have HB5:=zaa (zae HB4.o hb5);clear hb5 HO4 HB4;go_wp2_with (at_builtin;refine zoe rfl _ _ rfl w.heap.size _ L rfl (zah HO5.o (zab _ _)) w5.heap.size (zbh 0 s) zby rfl (z44 (by simp[go_sem,zbh]) (by simp[go_sem,zbh]) (by simp[go_sem,zbh]) (by simp[go_sem,zby]) (by simp[go_sem,zby]) (by simp[go_sem,zby])) (by omega) (Nat.le_trans HB5.o.size (by simp)) ?_);intro v' w' hown' hg';have HB':Hid (Below w.heap.size w w'):=(HB5.o.alloc HB5.o.size _).grown hg' (Nat.le_trans HB5.o.size (by simp)) (fun j hj=>(HO5.o.lt j hj).1);obtain⟨a2,c2,hv,hS2,hF2⟩:=SegSt.of_owns hown';have HF2:=zaa hF2;have HCAP:=zaa (zru hown' hv);have HS2:=zaa hS2;subst hv;clear hown' hg' hS2 hF2 HO5 HB5;go_wp2;exact bodyPost_ret (v:=.tuple #[.slice a2 (L++[zbh 0 s,zby]).length c2,.int .i64 0]) (by simp[results,Tryz.results115,go_sem]) rfl ⟨a2,c2,by rw[HE.o,HT.o],by rw[HT.o];exact HCAP.o,by rw[HT.o];exact HS2.o,HB'.o,HF2.o⟩
 ·have HE:Hid (checkE l p seq=goodM m):=by rw[Hid,checkE,←HM.o,if_pos (by simpa using hg)]
  have HT:Hid (zbp l p seq=[]):=by rw[Hid,zbp,HE.o,if_neg hg]
  have hg':(goodM m !=0)=true:=by simpa using hg
  have HB1:=zaa hb1;clear hb1;generalize goodM m=G at *;go_wp2;exact bodyPost_ret (v:=.tuple #[.slice none 0 0,.int .i64 G]) (by simp[results,Tryz.results115,go_sem]) rfl ⟨none,0,by rw[HE.o,HT.o];rfl,by rw[HT.o];exact Nat.le_refl _,by rw[HT.o];exact .inl rfl,HB1.o,fun _ _ e=>by cases e⟩
end Go.Proofs.YtjnpndfpajjihacGreat

