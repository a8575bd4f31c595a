/-
  
-/
import Derived.Test.YtjnpndfpajjihacGreatShelf
import Derived.Test.YtjnpndfpajjihacGreatGrTopAnywhere6
set_option maxRecDepth 100000
set_option maxHeartbeats 40000000
namespace Go.Proofs.YtjnpndfpajjihacGreat
open Go.Proofs.Tryz
open Go.RowKit
theorem zsg(c:Nat):Lib.repeatL [(0:UInt8)] c=List.replicate c 0:=by
 induction c with
 |zero=>rfl
 |succ k ih=>simp[Lib.repeatL,List.replicate_succ,ih]
theorem z16(s:ByteArray)(h:32≤s.size):fitT s=s.extract 0 32:=by
 apply ByteArray.ext;rw[fitT,z5g,show 32 - s.size=0 from by omega];apply Array.ext';simp[ByteArray.data_extract]
theorem zyf(s z:ByteArray)(h:¬32≤s.size)(hz:z=⟨(List.replicate (32 - s.size) 0).toArray⟩):fitT s=s++z:=by
 apply ByteArray.ext;rw[ByteArray.data_append,hz];apply Array.ext';have hl:s.data.toList.length=s.size:=rfl;simp only[fitT,z5g,Array.toList_append];rw[List.take_of_length_le (by omega)]
theorem z4c(c:Nat)(w:World)(hc:c≤32):
  Calls prog 54 #[.string ⟨#[0]⟩,.int .i64 c] w fun e w'=>∃z:ByteArray,e=.returned (.string z)∧z=⟨(List.replicate c 0).toArray⟩∧Below w.heap.size w w':=by
 refine(Tryz.strings_Repeat ⟨#[0]⟩ c w (by omega) (by show 1*c≤_;omega)).mono ?_;rintro e w1 ⟨rfl,hb⟩;exact⟨_,rfl,by rw[zsg],hb⟩
theorem zf9(s:ByteArray)(w:World)(hs:s.size≤maxLen):
  Calls prog 25 #[.string s] w fun e w'=>e=.returned (.string (fitT s))∧Below w.heap.size w w':=by
 unfold maxLen at hs;by_cases h:32≤s.size
 ·have D:(32:Int)≤(s.size:Int):=by omega
  go_enter func25,ntmps25;go_wp2;go_ret;refine⟨?_,Below.refl _ _⟩;rw[z16 s h];rfl
 ·have D:¬(32:Int)≤(s.size:Int):=by omega
  go_enter func25,ntmps25;have A:(32:Int) - (s.size:Int)=((32 - s.size:Nat):Int):=by omega
  have E:Hid ((32:Int) - (s.size:Int)=((32 - s.size:Nat):Int)):=A;clear A;go_wp2_with fail;rw[E.o];refine(z4c (32 - s.size) _ (by omega)).mono ?_;rintro e w1 ⟨z,rfl,B,C⟩;have A0:z.size≤32:=by rw[B];show(List.replicate (32 - s.size) (0:UInt8)).toArray.size≤32;simp
  have F:Hid (fitT s=s++z):=zyf s z h B;clear B;go_wp2;go_ret;exact⟨by rw[F.o];rfl,C⟩
