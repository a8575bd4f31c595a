/-
  
-/
import Derived.Test.YtjnpndfpajjihacGreatJMaps
import Derived.Test.YtjnpndfpajjihacGreatGrTopSettles47
set_option maxRecDepth 100000
set_option maxHeartbeats 40000000
namespace Go.Proofs.YtjnpndfpajjihacGreat
open Go.RowKit
structure BkAt (W:World)(K Ms:Nat)(k:Bk)(Mn n m:Nat)(fs:Int→Option Nat):Prop where
 box:W.heap[K]?=some (.cells #[.map (some Mn),.map (some Ms),.int .i64 k.sealed,.int .i64 k.told,.bool k.down] 59 (0,0))
 now:z58 z6d W Mn n k.now
 sts:z58 z6e W Ms m fs
 none:∀x,fs x=none→k.states x=none
 some:∀x M,fs x=some M→M≠Mn∧∃st,k.states x=some st∧z58 z6d W M n st
section
variable {W W':World} {K Ms:Nat} {k:Bk} {Mn n m:Nat} {fs:Int→Option Nat}
end
theorem z1d(B:Nat)(X:List Nat)(j:Jn)(b:Nat)(w:World)(h:JAt w B X j)(hb:b<12)(h16:j.disk.safe.length*16≤140737488355328)(h24:j.disk.wr.length*24≤140737488355328):
  Calls Tryz.prog 26 #[.pointer (some ⟨B,0,none⟩),.int .i64 b] w fun e w'=>e=.returned (.string (zal j.disk ((25+b:Nat):Int)))∧Below w.heap.size w w':=by
 have M:=zaa h;clear h;have hw:IntKind.i64.wrap (25+(b:Int))=((25+b:Nat):Int):=by rw[IntKind.wrap_i64];omega
 have F:(25+(b:Int))=((25+b:Nat):Int):=by omega
 have L:=zaa F;clear F;go_enter Tryz.func26,Tryz.ntmps26;go_wp2_with fail;refine(z1b B X j w M.o h16 h24).mono ?_;rintro e K ⟨v,rfl,I,D⟩;have J:=zaa I;have C:=zaa D;clear I D;go_wp2_with fail;refine(zkx v j.disk _ K J.o).mono ?_;rintro e w2 ⟨rfl,A⟩;have E:=zaa (zae C.o A);clear A C J;go_wp2;go_ret;exact⟨by first|rfl|(rw[L.o]),E.o⟩
open Go.Proofs.Tryz
theorem z3h(l:List Ac):∀k:Nat,(jOf l k).acts≤(k:Int):=by
 intro k
 induction k with
 |zero=>rw[zvi];exact(by decide:(0:Int)≤0)
 |succ k ih=>
  by_cases hk:k<l.length
  ·rw[zvj hk];obtain⟨D,B,C,A⟩:=z09 l k;rcases zr1 B (l.getD k ac0) C A with⟨_,e⟩|⟨_,e,_⟩
   ·rw[e];show(jOf l k).acts≤_;omega
   ·rw[e];omega
  ·have:jOf l (k+1)=jOf l k:=by rw[jOf,jOf,List.take_of_length_le (by omega),List.take_of_length_le (by omega)]
   rw[this];omega
theorem z1e{j:Jn}(h:∃D,Md j D):j.disk.safe.length*16≤140737488355328∧j.disk.wr.length*24≤140737488355328:=by
 obtain⟨D,A⟩:=h;have hg:=zhq A.disk;exact⟨by omega,by omega⟩
theorem z5t(u v:Value)(w:World):(Instr.field 46 (.agg #[u,v]) 1).run prog w=.ok v w:=by
 simp[Instr.field,go_sem,asAgg]
theorem Rest.mono{j:Jn}{c d:Int}(h:Rest j c)(hd:c≤d):Rest j d:=⟨h.md,h.a0,Int.le_trans h.a1 hd,h.up,h.st⟩
theorem Rest.pj{j:Jn}{c:Int}(h:Rest j c)(hc:c≤400):PJ j:=PJ.of h.md h.a0 (Int.le_trans h.a1 hc)
def Off (j:Jn)(q:Nat):Prop:=∀y:Nat,y<q→(zel j.now y).on=false
theorem Rest.off{j:Jn}{c:Int}{q:Nat}(h:Rest j c)(ho:Off j q)(hc:c<400)(hq:q<3):Rest (doJ j (zfb q)).1 (c+1)∧Off (doJ j (zfb q)).1 (q+1):=by
 obtain⟨B,C,A⟩:=h.stop hc (q:Int) (by omega);refine⟨B,fun y hy=>?_⟩;by_cases e:y=q
 ·rw[e];exact C
 ·rw[A y (by omega) (by omega)];exact ho y (by omega)
theorem Off.all{j:Jn}(h:Off j 3):zfm j.now=false:=by
 have A:=h 0 (by omega);have B:=h 1 (by omega);have C:=h 2 (by omega);simp only[zel]at A B C;simp at A B C;rw[zfm,A,B,C];rfl
def zvk (B:Nat)(LB:Nat)(q:Nat)(z:ByteArray):Nat→Value→World→Prop
 |0,v,_=>v=.pointer (some ⟨LB,0,none⟩)
 |1,v,_=>v=.int .i64 0
 |2,v,_=>v=.bool false
 |3,v,_=>v=.bool false
 |4,v,_=>v=.pointer (some ⟨LB,2,none⟩)
 |5,v,_=>v=.string z
 |6,v,_=>v=.pointer (some ⟨B,0,none⟩)
 |7,v,_=>v=.int .i64 (q:Int)
 |8,v,_=>v=.string z
 |9,v,_=>v=.bool false
 |10,v,_=>v=.bool false
 |_,_,_=>True
theorem zr8{B:Nat}{LB:Nat}{q:Nat}{z:ByteArray}{w w':World}(_hb:Below w.heap.size w w'){i:Nat}:∀kk uu,kk≠i→zvk B LB q z kk uu w→zvk B LB q z kk uu w':=by
 intro kk uu _ h
 match kk,h with
 |0,h|1,h|2,h|3,h|4,h|5,h|6,h|7,h|8,h|9,h|10,h=>exact h
 |_+11,_=>exact trivial
theorem z4m{ops:Array Oper}{a0 a:Act}(hF:FrOf ops a0 a)(n k:Nat)(hs:a0.tmps.size=n)(hd:a0.defers=[])(hk:k≤n)(h:((List.range k).all fun t=> !(zva ops).contains t)=true):a=⟨(a0.tmps.toList.take k++(List.range' k (n - k)).map fun t=>a.eval (.tmp t)).toArray,[]⟩:=by
 have B:=zci a n (hF.size.trans hs) (hF.defers.trans hd);have C:=zci a0 n hs hd
 have A:a0.tmps.toList=(List.range n).map fun t=>a0.eval (.tmp t):=by
  have:=congrArg (fun x:Act=>x.tmps.toList) C
  simpa using this
 refine B.trans ?_
 congr 2
 rw[A,←List.map_take,List.take_range,Nat.min_eq_left hk]
 conv=>lhs;rw[show List.range n=List.range k++List.range' k (n - k) from by rw[List.range_eq_range',List.range_eq_range'];have e:= @List.range'_append_1 0 k (n - k);rw[Nat.zero_add,Nat.add_sub_cancel' hk]at e;exact e.symm]
 rw[List.map_append]
 congr 1
 exact List.map_congr_left fun t ht=>hF.other t (by simpa using List.all_eq_true.1 h t ht)
theorem zr9(a:Option Addr)(c:Nat)(l:List Ac)(w:World)(hA:SegA w a l)(hlen:l.length≤maxLen)(hok:∀y∈l,OkA y)(hcap:l.length≤c):
  Calls prog 10 #[.slice a l.length c] w fun e w'=>e=.returned (.bool true)∧Below w.heap.size w w':=by
 have H5:=hlen;unfold maxLen at H5;obtain⟨L,hL⟩:∃L,L=l.take 100:=⟨_,rfl⟩;have HA:Hid (SegA w a L):=by rw[hL];exact hA.takeN 100
 have F8:Hid (∀y∈L,OkA y):=by rw[hL];exact fun y hy=>hok y (List.mem_of_mem_take hy)
 have J5:L.length=min 100 l.length:=by rw[hL,List.length_take]
 have HL:Hid (L.length≤maxLen):=by unfold maxLen;show _≤_;omega
 have M6:=z3t;have M7:=z5t;have A8:=zaa J5;clear hA hok hlen hL J5;go_enter func10,ntmps10
 go_upto_if 19 with fail
 go_cut [0] from 17 to 125 (fun s wx=>s=.slice a L.length c∧wx=w)
 case first=>
  by_cases h100:100<l.length
  ·have K7:(100:Int)<(l.length:Int):=by omega
   have M8:100≤c:=by omega
   go_wp2_with fail
   go_meet
   exact⟨by rw[A8.o,Nat.min_eq_left (by omega)],rfl⟩
  ·have K7:¬(100:Int)<(l.length:Int):=by omega
   go_wp2_with fail
   go_meet
   exact⟨by rw[A8.o,Nat.min_eq_right (by omega)],rfl⟩
 case rest=>
  obtain⟨rfl,I2⟩:=hcut;rw[I2];clear I2;go_wp2_with fail;refine(zx5 a c L w [] HA.o HL.o F8.o (by simp)).mono ?_;rintro e w1 ⟨B,rfl,hB,Y,H3⟩;have M5:=Y.lt;obtain⟨C,C9⟩:∃C,C=w1.heap.size:=⟨_,rfl⟩;obtain⟨W1,D6⟩:∃W1,W1=w1.alloc (.cells #[.pointer (some ⟨B,0,none⟩)] 24):=⟨_,rfl⟩
  have K1:Hid (SetS w W1 B C (jOf L (played L))):=by
   rw[D6,C9];exact⟨Y.below (zab _ _),heap_alloc_new _ _,zae H3 (zab _ _),by omega,hB⟩
  have H8:Hid (PJ (jOf L (played L))):=z09 _ _;have M3:(jOf L (played L)).acts≤100:=by have h1:=z3h L (played L);have h2:played L≤100:=(by have:=A8.o;unfold played;omega);omega
  have F6:=zaa D6;have K4:=zaa C9;generalize jOf L (played L)=j0 at *;clear Y H3 D6 C9 hB M5 HA F8 HL A8 H5 hcap;go_wp2_with fail;rw[←F6.o,←K4.o];clear F6 K4;obtain⟨D0,F0,x,_⟩:=H8.o;refine(zfk w W1 B C j0 K1.o ⟨D0,F0⟩ x (by omega)).mono ?_;rintro e w2 ⟨rfl,j1,N,D7⟩;have c2:=D7.cell;have D9:=zaa D7;have B5:=zaa N;clear D7 F0 x H8 K1 N;go_wp2_with fail;refine(zr5 B [B] j1 w2 D9.o.ja).mono ?_;rintro e w3 ⟨rfl,G6⟩;obtain⟨W3,D8⟩:∃W3,W3=w3.alloc (.cells #[.int .i64 j1.rh,.int .i64 j1.ru] 26):=⟨_,rfl⟩;have A1:Hid (SetS w W3 B C j1):=by rw[D8];exact D9.o.below (zae G6 (zab _ _))
  have E9:=zaa D8;clear D9 c2 G6 D8
  go_upto_if 39 with fail
  rw[←E9.o];clear E9
  go_cut [2,8] from 17 to 125 (fun s _ wx=>s=.bool false∧Hid (∃j,SetS w wx B C j∧Rest j 203))
  case first=>
   have c3:=A1.o.cell;have N:=B5.o;have M9:=N.a1
   cases hd:j1.down with
   |false=>
    have S:Hid (∃j,SetS w W3 B C j∧Rest j 203):=⟨j1,A1.o,N.md,N.a0,by omega,hd,N.st⟩;clear A1 B5 N;go_wp2_with fail
    go_meet
    exact⟨rfl,S⟩
   |true=>
    have H7:=N.a0;obtain⟨D1,B4⟩:=N.md;obtain⟨d4,t4,l4,k4⟩:=z4l B4 (by omega) hd N.st;have K2:=zr4 B4 H7 (by omega) backAc;have J0:=zaa K2;have J1:=zaa (PJ.of ⟨D1,B4⟩ H7 (by omega));have G1:=zaa d4;have H6:=zaa t4;have C5:=zaa k4;clear B4 N d4 t4 l4 k4 K2;go_wp2_with fail;refine(zhj w W3 B C j1 A1.o J1.o backAc (show(0:Int)≤9223372036854775807 by decide) (show(⟨#[]⟩:ByteArray).size≤maxLen by decide)).mono ?_;rintro e w4 ⟨rfl,F4⟩;obtain⟨E,O⟩:∃E,E=(doJ j1 backAc).2:=⟨_,rfl⟩;rw[←O]at C5⊢;rw[show vRp E=.agg #[.int .i64 E.code,.int .i64 E.n,.string E.text] from rfl,C5.o];have I1:=zaa F4;generalize (doJ j1 backAc).1=j4 at *;obtain⟨H4,N1⟩:=J0.o;have G3:=zaa H4;clear O F4 C5 J0 H4 J1 A1 c3 B5;go_wp2_with fail;refine(zfk w w4 B C j4 I1.o G3.o (by omega) (by omega)).mono ?_;rintro e w5 ⟨rfl,j5,A2,G2⟩;have S:Hid (∃j,SetS w w5 B C j∧Rest j 203):=⟨j5,G2,A2.md,A2.a0,by have:=A2.a1;omega,(A2.dn G1.o).2 H6.o,A2.st⟩;clear A2 G2 G1 H6 G3 I1;go_wp2_with fail
    go_meet
    exact⟨rfl,S⟩
  case rest=>
   obtain⟨rfl,S⟩:=hcut;clear A1 B5 M3;obtain⟨jf,K0,I0⟩:=S.o;have I5:Hid (∃j,SetS w wc B C j∧Rest j (203+0)∧Off j 0):=⟨jf,K0,I0.mono (by omega),fun y hy=>absurd hy (by omega)⟩;clear S K0 I0;go_wp2_with fail
   go_loopw [9,50] (fun _ i wr=>∃q:Nat,q≤3∧i=.int .i64 q∧Hid (∃j,SetS w wr B C j∧Rest j (203+(q:Int))∧Off j q)) (fun _ i _=>3 - (intOf i).toNat)
   case atStart=>exact⟨0,by omega,by go_num,I5⟩
   case round=>
    obtain⟨q,hq,rfl,HR⟩:=hrel;clear I5;obtain⟨j,hS,A,hO⟩:=HR.o;by_cases hq3:q<3
    ·have i3:(q:Int)<3:=by omega
     have cJ:=hS.cell;obtain⟨K3,J6⟩:=A.off hO (by omega) hq3;have G9:=zaa K3;have I8:=zaa J6;have X:=zaa hS;have u:=zaa (A.pj (by omega));clear HR hS A hO K3 J6;go_wp2_with fail;refine(zhj w wr B C j X.o u.o (zfb q) (show(0:Int)≤9223372036854775807 by decide) (show(⟨#[]⟩:ByteArray).size≤maxLen by decide)).mono ?_;rintro e w6 ⟨rfl,H9⟩;have HN:Hid (∃j,SetS w w6 B C j∧Rest j (203+((q+1:Nat):Int))∧Off j (q+1)):=⟨_,H9,G9.o.mono (by omega),I8.o⟩;clear H9 G9 I8 X u cJ;go_wp2
     go_roundw
     case rel=>exact⟨q+1,by omega,by go_num,HN⟩
     case measure=>first|(simp[intOf];omega)|simp[intOf]
    ·have i3:¬(q:Int)<3:=by omega
     have F7:q=3:=by omega
     have cJ:=hS.cell;obtain⟨h1,h2,h3,h4,h5,h6⟩:=A.seal (by omega) (Off.all (by rw[←F7];exact hO));have Q:=zaa h1;have R:Hid (∃J,J=(doJ j zek).1∧J.down=false∧zcg J.now=true∧(∃D,Md J D)∧0≤J.acts∧J.acts≤207):=⟨_,rfl,h2,h3,h4,h5,by omega⟩;have X:=zaa hS;have u:=zaa (A.pj (by omega));clear HR hS A hO h1 h2 h3 h4 h5 h6 F7 hq3;go_wp2_with fail;refine(zhj w wr B C j X.o u.o zek (show(0:Int)≤9223372036854775807 by decide) (show(⟨#[]⟩:ByteArray).size≤maxLen by decide)).mono ?_;rintro e w7 ⟨rfl,r⟩;obtain⟨J,Y,hd,hx,A5,x,L6⟩:=R.o;rw[←Y]at r;obtain⟨E,O⟩:∃E,E=(doJ j zek).2:=⟨_,rfl⟩;rw[←O]at Q⊢;rw[show vRp E=.agg #[.int .i64 E.code,.int .i64 E.n,.string E.text] from rfl];have Z:=zaa r;have HD:=zaa hd;have HX:=zaa hx;have m:=zaa A5;clear r hd hx A5 Y O R X u cJ
     go_upto_region 19 with fail
     go_cut [10,72] from 17 to 125 (fun _ s wx=>s=.bool false∧Hid (∃j,SetS w wx B C j∧Rest j 258∧zcg j.now=true))
     case first=>
      have hc:=Q.o;clear Q;rcases hc with hc|hc
      all_goals
       rw[hc];clear hc;go_wp2_with fail;refine(zfk w w7 B C J Z.o m.o x (by omega)).mono ?_;rintro e w8 ⟨rfl,je,I,A4⟩;have S:Hid (∃j,SetS w w8 B C j∧Rest j 258∧zcg j.now=true):=⟨je,A4,⟨I.md,I.a0,by have:=I.a1;omega,(I.up HD.o).1,I.st⟩,by rw[(I.up HD.o).2.1];exact HX.o⟩;clear I A4 Z HD HX m;go_wp2_with fail
       go_meet
       exact⟨rfl,S⟩
     case rest=>
      obtain⟨rfl,J7⟩:=hcut;clear Q Z HD HX m;have E3:=J7.o;obtain⟨j9,E0,C4,J8⟩:=E3;have cJ:=E0.cell;obtain⟨h1,h2,h3,h4,h5,h6,h7⟩:=C4.gone (by omega);have Q:=zaa h1;have R:Hid (∃J,J=(doJ j9 zct).1∧J.down=false∧(zcg J.now=true∧((J.steps=[]∧J.done=[])∨(J.steps≠[]∧J.work=7)))∧(∃D,Md J D)∧0≤J.acts∧J.acts≤259):=⟨_,rfl,h2,⟨by rw[h3];exact J8,h4⟩,h5,h6,by omega⟩;have X:=zaa E0;have u:=zaa (C4.pj (by omega));clear J7 E0 C4 J8 h1 h2 h3 h4 h5 h6 h7;go_wp2_with fail;refine(zhj w _ B C j9 X.o u.o zct (show(0:Int)≤9223372036854775807 by decide) (show(⟨#[]⟩:ByteArray).size≤maxLen by decide)).mono ?_;rintro e L5 ⟨rfl,r⟩;obtain⟨J,Y,hd,hx,A5,x,L6⟩:=R.o;rw[←Y]at r;obtain⟨E,O⟩:∃E,E=(doJ j9 zct).2:=⟨_,rfl⟩;rw[←O]at Q⊢;rw[show vRp E=.agg #[.int .i64 E.code,.int .i64 E.n,.string E.text] from rfl];have Z:=zaa r;have HD:=zaa hd;have HX:=zaa hx;have m:=zaa A5;clear r hd hx A5 Y O R X u cJ
      go_upto_region 22 with fail
      go_cut [11,87] from 17 to 125 (fun _ s wx=>s=.bool false∧Hid (∃j,SetS w wx B C j∧Rest j 310∧Calm j))
      case first=>
       have hc:=Q.o;clear Q;rcases hc with hc|hc
       all_goals
        rw[hc];clear hc;go_wp2_with fail;refine(zfk w L5 B C J Z.o m.o x (by omega)).mono ?_;rintro e L3 ⟨rfl,je,I,A4⟩
        have S:Hid (∃j,SetS w L3 B C j∧Rest j 310∧Calm j):=by
         have hu:=I.up HD.o;have hr:Rest je 310:=⟨I.md,I.a0,by have:=I.a1;omega,hu.1,I.st⟩;refine⟨je,A4,hr,hr.calm (by rw[hu.2.1];exact HX.o.1) ?_⟩;rcases HX.o.2 with⟨q1,q2⟩|⟨q1,q2⟩
         ·rw[hu.2.2.1 q1,q2]
         ·exact hu.2.2.2 q2 q1
        clear I A4 Z HD HX m;go_wp2_with fail
        go_meet
        exact⟨rfl,S⟩
      case rest=>
       obtain⟨rfl,J3⟩:=hcut;clear Q Z HD HX m;have E3:=J3.o;obtain⟨jc,B3,H2,F1⟩:=E3;have cJ:=B3.cell;have lJ:=B3.lt;have X:=zaa B3;have HR:=zaa H2;have HC:=zaa F1;clear J3 B3 H2 F1;go_wp2_with fail;refine(zr5 B [B] jc _ X.o.ja).mono ?_;rintro e M2 ⟨rfl,D4⟩;rw[HC.o.ru,HC.o.up];have B0:=X.o.below D4;have L8:=B0.cell;have M1:=B0.lt;have E7:Hid (SetS w (M2.alloc (.cells #[.int .i64 jc.rh,.int .i64 0] 26)) B C jc):=B0.below (zab _ _);have G4:=z1e HR.o.md;have D3:=zaa G4;clear B0 D4 X cJ lJ G4;go_wp2_with fail;refine(zr6 B [B] jc _ E7.o.ja D3.o.1 D3.o.2).mono ?_;rintro e L4 ⟨pa,pc,qa,qc,rfl,_,_,E1⟩;rw[show jc.disk.wr.length=0 from by rw[HC.o.wr];rfl];have G7:Hid (∃j,SetS w L4 B C j∧Calm j∧(∃D,Md j D)∧0≤j.acts∧j.acts≤310+((0:Nat):Int)):=⟨jc,E7.o.below E1,HC.o,HR.o.md,HR.o.a0,by have:=HR.o.a1;omega⟩;clear E1 E7 D3 HC HR L8 M1;go_wp2_with fail
       go_loopw [15,16] (fun i _ wr=>∃q:Nat,q≤12∧i=.int .i64 q∧Hid (∃j,SetS w wr B C j∧Calm j∧(∃D,Md j D)∧0≤j.acts∧j.acts≤310+(q:Int))) (fun i _ _=>12 - (intOf i).toNat)
       case atStart=>exact⟨0,by omega,by go_num,G7⟩
       case round=>
        obtain⟨q,hq,rfl,HQ⟩:=hrel;clear G7;obtain⟨jl,A6,k,G5,D5,K9⟩:=HQ.o;by_cases hq12:q<12
        ·have M4:(q:Int)<12:=by omega
         have cJ:=A6.cell;obtain⟨k1,k2,k3⟩:=k.look (by omega) hq12;obtain⟨DL,B6⟩:=G5;obtain⟨m1,m2⟩:=zr4 B6 D5 (by omega) (zdd q);have H1:Calm (doJ jl (zdd q)).1:=by rw[k3];exact⟨k.ru,k.up,k.wr,k.rd⟩
         have G8:(doJ jl (zdd q)).1.disk=jl.disk:=by rw[k3]
         have R:Hid (∃J,J=(doJ jl (zdd q)).1∧Calm J∧(∃D,Md J D)∧0≤J.acts∧J.acts≤310+((q+1:Nat):Int)∧J.disk=jl.disk):=⟨_,rfl,H1,m1,by omega,by omega,G8⟩;have u:=zaa (PJ.of ⟨DL,B6⟩ D5 (by omega));have J9:=zaa A6;have E8:=zaa k1;have B1:=zaa k2;clear HQ A6 k B6 D5 K9 k1 k2 k3 m1 m2 H1 G8;go_wp2_with fail;refine(zhj w wr B C jl J9.o u.o (zdd q) (show(0:Int)≤9223372036854775807 by decide) (show(⟨#[]⟩:ByteArray).size≤maxLen by decide)).mono ?_;rintro e B2 ⟨rfl,A7⟩;obtain⟨J,Y,J2,I9,I3,L9,G0⟩:=R.o;rw[←Y]at A7;obtain⟨E,O⟩:∃E,E=(doJ jl (zdd q)).2:=⟨_,rfl⟩;rw[←O]at E8 B1⊢;rw[show vRp E=.agg #[.int .i64 E.code,.int .i64 E.n,.string E.text] from rfl,E8.o];obtain⟨z,hz⟩:∃z,z=E.text:=⟨_,rfl⟩;rw[←hz]at B1⊢;have HZ:Hid (zal J.disk ((25+q:Nat):Int)=z):=by show _=_;rw[G0];exact B1.o.symm
         generalize E.n=nn at *;obtain⟨W,hW⟩:∃W,W=B2.alloc (.cells #[.int .i64 0,.int .i64 nn,.string z] 31):=⟨_,rfl⟩;obtain⟨U,E4⟩:∃U,U=B2.heap.size:=⟨_,rfl⟩;have F9:Below B2.heap.size B2 W:=by rw[hW];exact zab _ _
         have J4:W.heap[U]?=some (.cells #[.int .i64 0,.int .i64 nn,.string z] 31 (0,0)):=by rw[hW,E4];exact heap_alloc_new _ _
         have A3:=zaa (A7.below F9);have C8:=zaa J2;have A9:=zaa I9;have HB:=zaa J4;have HW:=zaa hW;have I4:=zaa E4;have N0:=I3;clear Y J2 I9 G0 A7 O hz E8 B1 u J9 R cJ F9 J4 hW E4
         go_upto_region 31 with fail
         rw[←HW.o,←I4.o];clear HW I4
         go_cut [125] from 107 to 125 (fun s wx=>s=.bool false∧Hid (∃j,SetS w wx B C j∧Calm j∧(∃D,Md j D)∧0≤j.acts∧j.acts≤310+((q+1:Nat):Int)))
         case first=>
          rename_i JJ KK M0 L1;have C0:Hid (W.cell? ⟨U,0,none⟩=some (.int .i64 0)):=(cell_of_row W _ 0 _ _ _ HB.o).trans rfl;have C1:Hid (W.cell? ⟨U,1,none⟩=some (.int .i64 nn)):=(cell_of_row W _ 1 _ _ _ HB.o).trans rfl;have C2:Hid (W.cell? ⟨U,2,none⟩=some (.string z)):=(cell_of_row W _ 2 _ _ _ HB.o).trans rfl;have CJ:=zaa A3.o.cell;have C3:U<W.heap.size:=(Array.getElem?_eq_some_iff.1 HB.o).1;have K6:C<W.heap.size:=A3.o.lt;have H0:=zaa (z1e A9.o);refine(show∀A0:Act,A0=_→Code.wp prog _ _ A0 _ from fun A0 hA0=>?_) _ rfl;have M:A0.tmps.size=126:=by rw[hA0];rfl
          have F2:A0.defers=[]:=by rw[hA0]
          have v3:A0.eval (.tmp 3)=.pointer (some ⟨C,0,none⟩):=by rw[hA0];rfl
          have F5:A0.eval (.tmp 15)=.int .i64 (q:Int):=by rw[hA0];rfl
          have B8:A0.eval (.tmp 16)=.pointer (some ⟨U,0,none⟩):=by rw[hA0];rfl
          have L0:=zaa hA0;clear hA0;refine zdz (fun w'=>Below W.heap.size W w') [115,116,117,118,119,120,121,122,123,124,125] (zvk B U q z) (by kernel_rfl) (by kernel_rfl) (by kernel_rfl) ((Below.refl _ _).drew) ⟨?_,?_,?_,?_,?_,?_,?_,?_,?_,?_,?_,trivial⟩ ?_
          ·exact zbh B8 M (fun _=>rfl) fun ρ w' A z=>by simp only[execOp];go_simp
          ·exact zam 0 115 M (fun _ _ h=>h) (fun _=>rfl) fun ρ w' A p=>by have c0:w'.cell? ⟨U,0,none⟩=some (.int .i64 0):=zac A C3 C0.o;simp only[execOp];go_simp
          ·intro a w' K A F
           have E2:a.eval (.tmp 116)=.int .i64 0:=F ⟨1,.data⟩ (by simp) rfl;exact zf6 _ rfl rfl (by have K5:=Act.eval_const a (.int .i64 0);revert E2 K5;generalize a.eval=ρ;intro E2 K5;simp only[execOp];go_simp) K M A rfl
          ·exact zam 2 117 M (fun _ _ h=>h) (fun _=>rfl) fun ρ w' A p=>by simp only[execOp];go_simp
          ·intro a w' K A F
           have d:a.eval (.tmp 118)=.bool false:=F ⟨3,Ground.guard⟩ (by simp) rfl;have I6:=(K.other 16 rfl).trans B8;exact zej _ rfl (zbk (b:=false) rfl rfl d) (by revert I6;generalize a.eval=ρ;intro I6;simp only[execOp];go_simp) K M A rfl
          ·intro a w' K A F
           have d:a.eval (.tmp 118)=.bool false:=F ⟨3,Ground.guard⟩ (by simp) rfl;have E6:a.eval (.tmp 119)=.pointer (some ⟨U,2,none⟩):=F ⟨4,.data⟩ (by simp) rfl;have c0:w'.cell? ⟨U,2,none⟩=some (.string z):=zac A C3 C2.o;exact zej _ rfl (zbk (b:=false) rfl rfl d) (by revert E6;generalize a.eval=ρ;intro E6;simp only[execOp];go_simp) K M A rfl
          ·intro a w' K A F
           have d:a.eval (.tmp 118)=.bool false:=F ⟨3,Ground.guard⟩ (by simp) rfl;have z3:=(K.other 3 rfl).trans v3;have c0:w'.cell? ⟨C,0,none⟩=some (.pointer (some ⟨B,0,none⟩)):=zac A K6 CJ.o;exact zej _ rfl (zbk (b:=false) rfl rfl d) (by revert z3;generalize a.eval=ρ;intro z3;simp only[execOp];go_simp) K M A rfl
          ·intro a w' K A F
           have d:a.eval (.tmp 118)=.bool false:=F ⟨3,Ground.guard⟩ (by simp) rfl;have I7:=(K.other 15 rfl).trans F5;exact zej _ rfl (zbk (b:=false) rfl rfl d) (by revert I7;generalize a.eval=ρ;intro I7;simp only[execOp];go_simp) K M A rfl
          ·intro a w' K A F
           have d:a.eval (.tmp 118)=.bool false:=F ⟨3,Ground.guard⟩ (by simp) rfl;have C6:a.eval (.tmp 121)=.pointer (some ⟨B,0,none⟩):=F ⟨6,.data⟩ (by simp) rfl;have B7:a.eval (.tmp 122)=.int .i64 (q:Int):=F ⟨7,.data⟩ (by simp) rfl;refine znt 26 #[.pointer (some ⟨B,0,none⟩),.int .i64 (q:Int)] rfl (zbk (b:=false) rfl rfl d) (by have pf:=Act.eval_func a 26;revert C6 B7 pf;generalize a.eval=ρ;intro C6 B7 pf;simp only[execOp];go_simp) _ (z1d B [B] J q w' (A3.o.ja.below A) hq12 H0.o.1 H0.o.2) ?_;rintro e w2 ⟨rfl,F3⟩;refine⟨_,rfl,_,rfl,zae A F3,?_,zr8 F3⟩;show zvk _ _ _ _ _ ((a.put (some 123) _).eval (.tmp 123)) w2;rw[zax K M (by decide)];rw[HZ.o];exact rfl
          ·intro a w' K A F
           have d:a.eval (.tmp 118)=.bool false:=F ⟨3,Ground.guard⟩ (by simp) rfl;have C7:a.eval (.tmp 120)=.string z:=F ⟨5,.data⟩ (by simp) rfl;have B9:a.eval (.tmp 123)=.string z:=F ⟨8,.data⟩ (by simp) rfl;exact zej _ rfl (zbk (b:=false) rfl rfl d) (by revert C7 B9;generalize a.eval=ρ;intro C7 B9;simp only[execOp];go_simp) K M A rfl
          ·intro a w' K A F
           have D2:a.eval (.tmp 118)=.bool false:=F ⟨3,.data⟩ (by simp) rfl;have E5:a.eval (.tmp 124)=.bool false:=F ⟨9,.data⟩ (by simp) rfl;exact zf6 _ rfl rfl (by revert D2 E5;generalize a.eval=ρ;intro D2 E5;simp only[execOp];go_simp) K M A rfl
          ·intro a W' K A F
           have K8:a.eval (.tmp 125)=.bool false:=F 10 (by decide);have hl:=z4m K 126 115 M F2 (by omega) (by kernel_rfl);rw[L0.o]at hl;have S:Hid (∃j,SetS w W' B C j∧Calm j∧(∃D,Md j D)∧0≤j.acts∧j.acts≤310+((q+1:Nat):Int)):=⟨J,A3.o.below A,C8.o,A9.o,I3,L9⟩;clear A A3 C8 A9 HB HZ F K M F2 v3 F5 B8;refine L1 _ _ (Met.intro (M0 _ _ ?_))
           (repeat apply Exists.intro)
           refine⟨⟨?_,S⟩,hl⟩;exact K8
         case rest=>
          obtain⟨rfl,HN⟩:=hcut;clear A3 C8 A9 HB HZ;go_wp2
          go_roundw
          case rel=>exact⟨q+1,by omega,by go_num,HN⟩
          case measure=>first|(simp[intOf];omega)|simp[intOf]
        ·have M4:¬(q:Int)<12:=by omega
         have L2:=zaa A6.bel;clear HQ A6 k G5;go_wp2;go_ret;exact⟨rfl,L2.o⟩
