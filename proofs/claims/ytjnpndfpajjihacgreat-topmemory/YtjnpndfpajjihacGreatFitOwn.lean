/- -/
import Derived.Test.YtjnpndfpajjihacGreatGrTopMemory0
import Derived.Test.YtjnpndfpajjihacGreatShelf
namespace Go.Proofs.YtjnpndfpajjihacGreat
set_option maxRecDepth 100000
set_option maxHeartbeats 40000000
open Go.RowKit
theorem zrx (c:Nat):Lib.repeatL [(0:UInt8)] c=List.replicate c 0:=by
 induction c with
 |zero=>rfl
 |succ k ih=>simp[Lib.repeatL,List.replicate_succ,ih]
theorem z0x (s:ByteArray)(h:32≤s.size):fitT s=s.extract 0 32:=by
 apply ByteArray.ext;rw[fitT,z3w,show 32 - s.size=0 from by omega];apply Array.ext';simp[ByteArray.data_extract]
theorem zxj (s z:ByteArray)(h:¬32≤s.size)(hz:z=⟨(List.replicate (32 - s.size) 0).toArray⟩):fitT s=s++z:=by
 apply ByteArray.ext;rw[ByteArray.data_append,hz];apply Array.ext';have hl:s.data.toList.length=s.size:=rfl;simp only[fitT,z3w,Array.toList_append];rw[List.take_of_length_le (by omega)]
theorem z21 (c:Nat)(w:World)(hc:c≤32):
  Calls Tryz.prog 54 #[.string ⟨#[0]⟩,.int .i64 c] w fun e w'=>∃z:ByteArray,e=.returned (.string z)∧z=⟨(List.replicate c 0).toArray⟩∧Below w.heap.size w w':=by
 refine(Tryz.strings_Repeat ⟨#[0]⟩ c w (by omega) (by show 1*c≤_;omega)).mono ?_;rintro e w1 ⟨rfl,hb⟩;exact⟨_,rfl,by rw[zrx],hb⟩
theorem zgb (s:ByteArray)(w:World)(hs:s.size≤maxLen):
  Calls Tryz.prog 25 #[.string s] w fun e w'=>e=.returned (.string (fitT s))∧Below w.heap.size w w':=by
 unfold maxLen at hs;by_cases h:32≤s.size
 ·have h':(32:Int)≤(s.size:Int):=by omega
  go_enter Tryz.func25,Tryz.ntmps25;go_wp2;go_ret;refine⟨?_,Below.refl _ _⟩;rw[z0x s h];rfl
 ·have h':¬(32:Int)≤(s.size:Int):=by omega
  go_enter Tryz.func25,Tryz.ntmps25;have e32:(32:Int) - (s.size:Int)=((32 - s.size:Nat):Int):=by omega
  have HE:Hid ((32:Int) - (s.size:Int)=((32 - s.size:Nat):Int)):=e32;clear e32;go_wp2_with fail;rw[HE.o];refine(z21 (32 - s.size) _ (by omega)).mono ?_;rintro e w1 ⟨z,rfl,hz,hb1⟩;have hz1:z.size≤32:=by rw[hz];show(List.replicate (32 - s.size) (0:UInt8)).toArray.size≤32;simp
  have HZ:Hid (fitT s=s++z):=zxj s z h hz;clear hz;go_wp2;go_ret;exact⟨by rw[HZ.o];rfl,hb1⟩
end Go.Proofs.YtjnpndfpajjihacGreat

