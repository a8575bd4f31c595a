/-
  
-/
import Derived.Test.YtjnpndfpajjihacGreatShelf
import Derived.Test.YtjnpndfpajjihacGreatGrTopOrdered5
set_option maxRecDepth 100000
set_option maxHeartbeats 40000000
namespace Go.Proofs.YtjnpndfpajjihacGreat
open Go.Proofs.Tryz
open Go.RowKit
theorem zsj(c:Nat):Lib.repeatL [(0:UInt8)] c=List.replicate c 0:=by
 induction c with
 |zero=>rfl
 |succ k ih=>simp[Lib.repeatL,List.replicate_succ,ih]
theorem z1z(s:ByteArray)(h:32≤s.size):fitT s=s.extract 0 32:=by
 apply ByteArray.ext;rw[fitT,z41,show 32 - s.size=0 from by omega];apply Array.ext';simp[ByteArray.data_extract]
theorem zyf(s z:ByteArray)(h:¬32≤s.size)(hz:z=⟨(List.replicate (32 - s.size) 0).toArray⟩):fitT s=s++z:=by
 apply ByteArray.ext;rw[ByteArray.data_append,hz];apply Array.ext';have hl:s.data.toList.length=s.size:=rfl;simp only[fitT,z41,Array.toList_append];rw[List.take_of_length_le (by omega)]
theorem z33(c:Nat)(w:World)(hc:c≤32):
  Calls prog 54 #[.string ⟨#[0]⟩,.int .i64 c] w fun e w'=>∃z:ByteArray,e=.returned (.string z)∧z=⟨(List.replicate c 0).toArray⟩∧Below w.heap.size w w':=by
 refine(Tryz.strings_Repeat ⟨#[0]⟩ c w (by omega) (by show 1*c≤_;omega)).mono ?_;rintro e w1 ⟨rfl,hb⟩;exact⟨_,rfl,by rw[zsj],hb⟩
theorem zgb(s:ByteArray)(w:World)(hs:s.size≤maxLen):
  Calls prog 25 #[.string s] w fun e w'=>e=.returned (.string (fitT s))∧Below w.heap.size w w':=by
 unfold maxLen at hs;by_cases h:32≤s.size
 ·have F:(32:Int)≤(s.size:Int):=by omega
  go_enter func25,ntmps25;go_wp2;go_ret;refine⟨?_,Below.refl _ _⟩;rw[z1z s h];rfl
 ·have F:¬(32:Int)≤(s.size:Int):=by omega
  go_enter func25,ntmps25;have A:(32:Int) - (s.size:Int)=((32 - s.size:Nat):Int):=by omega
  have D:Hid ((32:Int) - (s.size:Int)=((32 - s.size:Nat):Int)):=A;clear A;go_wp2_with fail;rw[D.o];refine(z33 (32 - s.size) _ (by omega)).mono ?_;rintro e w1 ⟨z,rfl,B,C⟩;have A0:z.size≤32:=by rw[B];show(List.replicate (32 - s.size) (0:UInt8)).toArray.size≤32;simp
  have E:Hid (fitT s=s++z):=zyf s z h B;clear B;go_wp2;go_ret;exact⟨by rw[E.o];rfl,C⟩
