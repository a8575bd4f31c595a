/-
  
-/
import Derived.Maps.RangeWalk
import Derived.Test.YtjnpndfpajjihacGreatGrTopOrdered47
import Derived.Test.YtjnpndfpajjihacGreatJDisk
set_option maxRecDepth 100000
set_option maxHeartbeats 40000000
namespace Go.Proofs.YtjnpndfpajjihacGreat
open Go.RowKit
theorem z1k(B:Nat)(X:List Nat)(j:Jn)(b:Nat)(w:World)(h:JAt w B X j)(hb:b<12)(h16:j.disk.safe.length*16≤140737488355328)(h24:j.disk.wr.length*24≤140737488355328):
  Calls Tryz.prog 26 #[.pointer (some ⟨B,0,none⟩),.int .i64 b] w fun e w'=>e=.returned (.string (zal j.disk ((25+b:Nat):Int)))∧Below w.heap.size w w':=by
 have M:=zab h;clear h;have hw:IntKind.i64.wrap (25+(b:Int))=((25+b:Nat):Int):=by rw[IntKind.wrap_i64];omega
 have I:(25+(b:Int))=((25+b:Nat):Int):=by omega
 have K:=zab I;clear I;go_enter Tryz.func26,Tryz.ntmps26;go_wp2_with fail;refine(z1j B X j w M.o h16 h24).mono ?_;rintro e L ⟨v,rfl,F,D⟩;have E:=zab F;have C:=zab D;clear F D;go_wp2_with fail;refine(zk4 v j.disk _ L E.o).mono ?_;rintro e w2 ⟨rfl,A⟩;have J:=zab (zae C.o A);clear A C E;go_wp2;go_ret;exact⟨by first|rfl|(rw[K.o]),J.o⟩
theorem z1l(B:Nat)(X:List Nat)(j:Jn)(w:World)(h:JAt w B X j):
  Calls Tryz.prog 14 #[.pointer (some ⟨B,0,none⟩)] w fun e w'=>e=.returned (.tuple #[.agg #[.int .i64 j.rh,.int .i64 j.ru],.int .i64 j.last,.bool j.down])∧Below w.heap.size w w':=by
 obtain⟨_,da,dc,db,dd,na,nc,nb,nd,ne,nf,sa,sc,sb,sd,se,sf,ca,cc,fa,fc,ta,tc,A,_⟩:=h;have A2:=(Array.getElem?_eq_some_iff.1 A).1;have c3:w.cell? ⟨B,3,none⟩=some (.int .i64 j.rh):=zak A 3;have c4:w.cell? ⟨B,4,none⟩=some (.int .i64 j.ru):=zak A 4;have c5:w.cell? ⟨B,5,none⟩=some (.int .i64 j.last):=zak A 5;have c6:w.cell? ⟨B,6,none⟩=some (.bool j.down):=zak A 6;have A1:¬B=w.heap.size:=by omega
 have A0:¬w.heap.size=B:=by omega
 clear A;go_enter Tryz.func14,Tryz.ntmps14;go_wp2
 go_region
 all_goals
  go_wp2;refine bodyPost_ret (v:=.tuple #[.agg #[.int .i64 j.rh,.int .i64 j.ru],.int .i64 j.last,.bool j.down]) (by simp[results,Tryz.results14,go_sem]) rfl ⟨rfl,?_⟩
  repeat first|refine Below.setCell ?_ (by simp) _|refine Below.drew ?_
  exact zaa _ _
