import Derived.Test.YtjnpndfpajjihadGreatGrJournalRuns45
import Derived.Test.YtjnpndfpajjihadGreatGrJournalRuns50
namespace Go.Proofs.YtjnpndfpajjihadGreat
open Go.RowKit
open Option renaming none -> Z,some -> J
open Go renaming World -> K
open Value renaming pointer -> C
theorem zQ(R:Nat)(X:List Nat)(j:Jn)(w:K)(h:RAt w R X j)(Q:∀x∈X,x<w.heap.size)(L:RJ j)(a:Ac)(c:a.n<=9223372036854775807):
  Calls Tryz.prog 12 #[C (J ⟨R,0,Z⟩),vAc a] w (nD w R X (doJ j a)):=by
 obtain⟨B,b,D,an,A⟩:=a;unfold vAc;by_cases hf:400<=j.acts
 .exact fR R X j w h B b D an A (by have:=L.a1;omega)
 by_cases hk:B<1\/11<B
 .exact xY R X j w h Q L B b D an A hf hk
 by_cases k8:B=8
 .subst k8;exact PW R X j w h Q L b D an A hf
 by_cases k10:B=10
 .subst k10;exact oT R X j w h Q L b D an A hf c
 by_cases k11:B=11
 .subst k11;exact fY R X j w h Q L b D an A hf
 cases hd:j.down with
 |true=>exact CV R X j w h Q L B b D an A hf (by omega) (by omega) k8 k10 k11 hd
 |false=>
  by_cases k6:B=6
  .subst k6;exact Wa R X j w h Q L b D an A hf hd
  by_cases k7:B=7
  .subst k7;exact Ia R X j w h Q L b D an A hf hd
  by_cases k9:B=9
  .subst k9;exact Db R X j w h Q L b D an A hf hd
  exact GT R X j w h Q L B b D an A hf (by omega) hd
