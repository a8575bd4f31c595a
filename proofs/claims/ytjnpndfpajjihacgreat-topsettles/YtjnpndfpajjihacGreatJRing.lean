/- -/
import Derived.Test.YtjnpndfpajjihacGreatGrTopSettles4
import Derived.Deep.RegionHeld3
namespace Go.Proofs.YtjnpndfpajjihacGreat
set_option maxRecDepth 100000
set_option maxHeartbeats 40000000
open Go.RowKit
theorem zr5(B:Nat)(X:List Nat)(j:Jn)(w:World)(h:JAt w B X j):
  Calls Tryz.prog 14 #[.pointer (some ⟨B,0,none⟩)] w fun e w'=>e=.returned (.tuple #[.agg #[.int .i64 j.rh,.int .i64 j.ru],.int .i64 j.last,.bool j.down])∧Below w.heap.size w w':=by
 obtain⟨_,da,dc,db,dd,na,nc,nb,nd,ne,nf,sa,sc,sb,sd,se,sf,ca,cc,fa,fc,ta,tc,A,_⟩:=h;have A1:=(Array.getElem?_eq_some_iff.1 A).1;have c3:w.cell? ⟨B,3,none⟩=some (.int .i64 j.rh):=zak A 3;have c4:w.cell? ⟨B,4,none⟩=some (.int .i64 j.ru):=zak A 4;have c5:w.cell? ⟨B,5,none⟩=some (.int .i64 j.last):=zak A 5;have c6:w.cell? ⟨B,6,none⟩=some (.bool j.down):=zak A 6;have A2:¬B=w.heap.size:=by omega
 have A0:¬w.heap.size=B:=by omega
 clear A;go_enter Tryz.func14,Tryz.ntmps14;go_wp2
 go_region
 all_goals
  go_wp2;refine bodyPost_ret (v:=.tuple #[.agg #[.int .i64 j.rh,.int .i64 j.ru],.int .i64 j.last,.bool j.down]) (by simp[results,Tryz.results14,go_sem]) rfl ⟨rfl,?_⟩
  repeat first|refine Below.setCell ?_ (by simp) _|refine Below.drew ?_
  exact zab _ _
