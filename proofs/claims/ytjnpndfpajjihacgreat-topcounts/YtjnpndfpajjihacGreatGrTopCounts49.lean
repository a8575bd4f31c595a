/-
  
-/
import Derived.Test.YtjnpndfpajjihacGreatGrTopCounts48
import Derived.Test.YtjnpndfpajjihacGreatGrTopCounts41
import Derived.Test.YtjnpndfpajjihacGreatXTellsP
import Derived.Test.YtjnpndfpajjihacGreatGrTopCounts32
import Derived.Test.YtjnpndfpajjihacGreatJRing
import Derived.Test.YtjnpndfpajjihacGreatGrTopCounts1
import Derived.Test.YtjnpndfpajjihacGreatJRunning
import Derived.Test.YtjnpndfpajjihacGreatJDisk
set_option maxRecDepth 100000
set_option maxHeartbeats 40000000
namespace Go.Proofs.YtjnpndfpajjihacGreat
open Go.RowKit
theorem Ready.bump {j:Jn}(h:Ready j)(x:Int)(h0:0≤x)(h1:x≤400):Ready {j with acts:=x}:=⟨h.done,h.found,h.next,h.seq,h.last,h.info,h.data,h.few,h.used0,h.used1,h0,h1⟩
theorem zsz (B:Nat)(X:List Nat)(j:Jn)(w:World)(h:JAt w B X j)(hX:∀x∈X,x<w.heap.size)(hK:Ready j)(ak ah ab an:Int)(at0:ByteArray)(hn:an≤9223372036854775807)(ht:at0.size≤maxLen)(hf:400≤j.acts):
  Calls Tryz.prog 15 #[.pointer (some ⟨B,0,none⟩),.agg #[.int .i64 ak,.int .i64 ah,.int .i64 ab,.int .i64 an,.string at0]] w (zc4 w B X (doJ j ⟨ak,ah,ab,an,at0⟩)):=by
 have HJ:=zaa h
 have hlt:=h.lt
 have hBX:=h.1
 have HX:=zaa hX
 have HK:=zaa hK
 have HTX:=zaa ht
 have HAN:=zaa hn
 have ha0:=hK.acts0
 have ha1:=hK.acts1
 have hwa:IntKind.i64.wrap (j.acts+1)=j.acts+1:=by rw[IntKind.wrap_i64];omega
 obtain⟨_,da,dc,db,dd,na,nc,nb,nd,ne,nf,sa,sc,sb,sd,se,sf,ca,cc,fa,fc,ta,tc,h1,_⟩:=id h
 have c0:w.cell? ⟨B,0,none⟩=some (.int .i64 j.acts):=zag h1 0
 have fc0:w.frozen? ⟨B,0,none⟩=false:=frozen_of_row w _ _ _ _ h1
 have c6:w.cell? ⟨B,6,none⟩=some (.bool j.down):=zag h1 6
 have fc6:w.frozen? ⟨B,6,none⟩=false:=frozen_of_row w _ _ _ _ h1
 clear h hX hK hn ht h1
 have hne:¬w.heap.size=B:=by omega
 have hne1:¬w.heap.size+1=B:=by omega
 have HE:Hid (doJ j ⟨ak,ah,ab,an,at0⟩=(j,zap 11)):=by rw[Hid,doJ,if_pos hf]
 have hf2:(400:Int)≤j.acts:=hf
 go_enter Tryz.func15,Tryz.ntmps15
 go_wp2_with fail
 have hs0:w.heap.size=w.heap.size:=rfl
 have HJ0:=HJ
 have HB0:Hid (ButL [B] w.heap.size w w):=ButL.refl _ _ _
 obtain⟨W1,hW1⟩:∃W1,W1=(w.alloc (.cells #[.int .i64 ak,.int .i64 ah,.int .i64 ab,.int .i64 an,.string at0] 23)).alloc (.cells #[.int .i64 0,.int .i64 0,.string ⟨#[]⟩] 31):=⟨_,rfl⟩
 have hz1:(w.alloc (.cells #[.int .i64 ak,.int .i64 ah,.int .i64 ab,.int .i64 an,.string at0] 23)).heap.size=w.heap.size+1:=by simp
 have hbW:Below w.heap.size w W1:=by rw[hW1];exact zad (below1 _ _) (below1 _ _)
 have HJ1:Hid (JAt W1 B ((w.heap.size+1)::X) j):=HJ0.o.more hbW (by omega)
 have HB1:Hid (ButL [B] w.heap.size w W1):=HB0.o.trans (Y:=[]) (ButL.of_below hbW) (by omega) (by simp)
 have KR:Hid (W1.heap[w.heap.size+1]?=some (.cells #[.int .i64 0,.int .i64 0,.string ⟨#[]⟩] 31 (0,0))):=by rw[hW1,←hz1];exact heap_alloc_new _ _
 have hs1:W1.heap.size=w.heap.size+2:=by rw[hW1];simp
 have hrl:w.heap.size+1<W1.heap.size:=by omega
 have hrB:w.heap.size+1≠B:=by omega
 have HX2:Hid (∀x∈((w.heap.size+1)::X),x<W1.heap.size):=fun x hx=>by
  rcases List.mem_cons.1 hx with rfl|hx
  ·exact hrl
  ·have:=HX.o x hx;omega
 rw[←hW1]
 clear hW1 hz1
 clear hf hf2
 refine(jcode_any 11 _).mono ?_
 rintro e w2 ⟨rfl,hb2⟩
 have KR2:=zaa (zac hb2 hrl KR.o)
 have HJ2:=zaa (HJ1.o.below hb2)
 have HB2:=zaa (HB1.o.trans (Y:=[]) (ButL.of_below hb2) HB1.o.size (by simp))
 clear hb2
 obtain⟨⟨y0,y1,y2⟩,yf⟩:=zbe KR2.o
 go_wp2
 exact za5 HE.o KR2.o HJ2.o HB2.o hrB hBX fun W u0 u1 u2=>by simp[results,Tryz.results15,go_sem,u0,u1,u2]
theorem zwd (B:Nat)(X:List Nat)(j:Jn)(w:World)(h:JAt w B X j)(hX:∀x∈X,x<w.heap.size)(hK:Ready j)(ak ah ab an:Int)(at0:ByteArray)(hn:an≤9223372036854775807)(ht:at0.size≤maxLen)(hf:¬400≤j.acts)(hk:ak<1):
  Calls Tryz.prog 15 #[.pointer (some ⟨B,0,none⟩),.agg #[.int .i64 ak,.int .i64 ah,.int .i64 ab,.int .i64 an,.string at0]] w (zc4 w B X (doJ j ⟨ak,ah,ab,an,at0⟩)):=by
 have HJ:=zaa h
 have hlt:=h.lt
 have hBX:=h.1
 have HX:=zaa hX
 have HK:=zaa hK
 have HTX:=zaa ht
 have HAN:=zaa hn
 have ha0:=hK.acts0
 have ha1:=hK.acts1
 have hwa:IntKind.i64.wrap (j.acts+1)=j.acts+1:=by rw[IntKind.wrap_i64];omega
 obtain⟨_,da,dc,db,dd,na,nc,nb,nd,ne,nf,sa,sc,sb,sd,se,sf,ca,cc,fa,fc,ta,tc,h1,_⟩:=id h
 have c0:w.cell? ⟨B,0,none⟩=some (.int .i64 j.acts):=zag h1 0
 have fc0:w.frozen? ⟨B,0,none⟩=false:=frozen_of_row w _ _ _ _ h1
 have c6:w.cell? ⟨B,6,none⟩=some (.bool j.down):=zag h1 6
 have fc6:w.frozen? ⟨B,6,none⟩=false:=frozen_of_row w _ _ _ _ h1
 clear h hX hK hn ht h1
 have hne:¬w.heap.size=B:=by omega
 have hne1:¬w.heap.size+1=B:=by omega
 have HE:Hid (doJ j ⟨ak,ah,ab,an,at0⟩=(({j with acts:=j.acts+1}:Jn),zap 3)):=by rw[Hid,doJ,if_neg hf,doneJ,if_pos (.inl hk)]
 have hf2:¬(j.acts≥400):=hf
 go_enter Tryz.func15,Tryz.ntmps15
 go_wp2_with fail
 obtain⟨W0,hW0⟩:∃W0,W0=w.setCell ⟨B,0,none⟩ (.int .i64 (j.acts+1)):=⟨_,rfl⟩
 rw[←hW0]
 have hs0:W0.heap.size=w.heap.size:=by rw[hW0];simp[World.setCell]
 have HJ0:Hid (JAt W0 B X ({j with acts:=j.acts+1}:Jn)):=by rw[hW0];exact HJ.o.putActs _
 have HB0:Hid (ButL [B] w.heap.size w W0):=by rw[hW0];exact(ButL.refl _ _ _).set (.inl (by simp)) 0 _
 clear hW0
 obtain⟨W1,hW1⟩:∃W1,W1=(W0.alloc (.cells #[.int .i64 ak,.int .i64 ah,.int .i64 ab,.int .i64 an,.string at0] 23)).alloc (.cells #[.int .i64 0,.int .i64 0,.string ⟨#[]⟩] 31):=⟨_,rfl⟩
 have hz1:(W0.alloc (.cells #[.int .i64 ak,.int .i64 ah,.int .i64 ab,.int .i64 an,.string at0] 23)).heap.size=w.heap.size+1:=by simp[hs0]
 have hbW:Below W0.heap.size W0 W1:=by rw[hW1];exact zad (below1 _ _) (below1 _ _)
 have HJ1:Hid (JAt W1 B ((w.heap.size+1)::X) ({j with acts:=j.acts+1}:Jn)):=HJ0.o.more hbW (by omega)
 have HB1:Hid (ButL [B] w.heap.size w W1):=HB0.o.trans (Y:=[]) (ButL.of_below hbW) (by omega) (by simp)
 have KR:Hid (W1.heap[w.heap.size+1]?=some (.cells #[.int .i64 0,.int .i64 0,.string ⟨#[]⟩] 31 (0,0))):=by rw[hW1,←hz1];exact heap_alloc_new _ _
 have hs1:W1.heap.size=w.heap.size+2:=by rw[hW1];simp[hs0]
 have hrl:w.heap.size+1<W1.heap.size:=by omega
 have hrB:w.heap.size+1≠B:=by omega
 have HX2:Hid (∀x∈((w.heap.size+1)::X),x<W1.heap.size):=fun x hx=>by
  rcases List.mem_cons.1 hx with rfl|hx
  ·exact hrl
  ·have:=HX.o x hx;omega
 rw[←hW1]
 clear hW1 hz1
 clear hf hf2 hk
 refine(jcode_any 3 _).mono ?_
 rintro e w2 ⟨rfl,hb2⟩
 have KR2:=zaa (zac hb2 hrl KR.o)
 have HJ2:=zaa (HJ1.o.below hb2)
 have HB2:=zaa (HB1.o.trans (Y:=[]) (ButL.of_below hb2) HB1.o.size (by simp))
 clear hb2
 obtain⟨⟨y0,y1,y2⟩,yf⟩:=zbe KR2.o
 go_wp2
 exact za5 HE.o KR2.o HJ2.o HB2.o hrB hBX fun W u0 u1 u2=>by simp[results,Tryz.results15,go_sem,u0,u1,u2]
theorem zs0 (B:Nat)(X:List Nat)(j:Jn)(w:World)(h:JAt w B X j)(hX:∀x∈X,x<w.heap.size)(hK:Ready j)(ak ah ab an:Int)(at0:ByteArray)(hn:an≤9223372036854775807)(ht:at0.size≤maxLen)(hf:¬400≤j.acts)(hk:11<ak):
  Calls Tryz.prog 15 #[.pointer (some ⟨B,0,none⟩),.agg #[.int .i64 ak,.int .i64 ah,.int .i64 ab,.int .i64 an,.string at0]] w (zc4 w B X (doJ j ⟨ak,ah,ab,an,at0⟩)):=by
 have HJ:=zaa h
 have hlt:=h.lt
 have hBX:=h.1
 have HX:=zaa hX
 have HK:=zaa hK
 have HTX:=zaa ht
 have HAN:=zaa hn
 have ha0:=hK.acts0
 have ha1:=hK.acts1
 have hwa:IntKind.i64.wrap (j.acts+1)=j.acts+1:=by rw[IntKind.wrap_i64];omega
 obtain⟨_,da,dc,db,dd,na,nc,nb,nd,ne,nf,sa,sc,sb,sd,se,sf,ca,cc,fa,fc,ta,tc,h1,_⟩:=id h
 have c0:w.cell? ⟨B,0,none⟩=some (.int .i64 j.acts):=zag h1 0
 have fc0:w.frozen? ⟨B,0,none⟩=false:=frozen_of_row w _ _ _ _ h1
 have c6:w.cell? ⟨B,6,none⟩=some (.bool j.down):=zag h1 6
 have fc6:w.frozen? ⟨B,6,none⟩=false:=frozen_of_row w _ _ _ _ h1
 clear h hX hK hn ht h1
 have hne:¬w.heap.size=B:=by omega
 have hne1:¬w.heap.size+1=B:=by omega
 have HE:Hid (doJ j ⟨ak,ah,ab,an,at0⟩=(({j with acts:=j.acts+1}:Jn),zap 3)):=by rw[Hid,doJ,if_neg hf,doneJ,if_pos (.inr hk)]
 have hf2:¬(j.acts≥400):=hf
 have hk2:¬ak<1:=by omega
 go_enter Tryz.func15,Tryz.ntmps15
 go_wp2_with fail
 obtain⟨W0,hW0⟩:∃W0,W0=w.setCell ⟨B,0,none⟩ (.int .i64 (j.acts+1)):=⟨_,rfl⟩
 rw[←hW0]
 have hs0:W0.heap.size=w.heap.size:=by rw[hW0];simp[World.setCell]
 have HJ0:Hid (JAt W0 B X ({j with acts:=j.acts+1}:Jn)):=by rw[hW0];exact HJ.o.putActs _
 have HB0:Hid (ButL [B] w.heap.size w W0):=by rw[hW0];exact(ButL.refl _ _ _).set (.inl (by simp)) 0 _
 clear hW0
 obtain⟨W1,hW1⟩:∃W1,W1=(W0.alloc (.cells #[.int .i64 ak,.int .i64 ah,.int .i64 ab,.int .i64 an,.string at0] 23)).alloc (.cells #[.int .i64 0,.int .i64 0,.string ⟨#[]⟩] 31):=⟨_,rfl⟩
 have hz1:(W0.alloc (.cells #[.int .i64 ak,.int .i64 ah,.int .i64 ab,.int .i64 an,.string at0] 23)).heap.size=w.heap.size+1:=by simp[hs0]
 have hbW:Below W0.heap.size W0 W1:=by rw[hW1];exact zad (below1 _ _) (below1 _ _)
 have HJ1:Hid (JAt W1 B ((w.heap.size+1)::X) ({j with acts:=j.acts+1}:Jn)):=HJ0.o.more hbW (by omega)
 have HB1:Hid (ButL [B] w.heap.size w W1):=HB0.o.trans (Y:=[]) (ButL.of_below hbW) (by omega) (by simp)
 have KR:Hid (W1.heap[w.heap.size+1]?=some (.cells #[.int .i64 0,.int .i64 0,.string ⟨#[]⟩] 31 (0,0))):=by rw[hW1,←hz1];exact heap_alloc_new _ _
 have hs1:W1.heap.size=w.heap.size+2:=by rw[hW1];simp[hs0]
 have hrl:w.heap.size+1<W1.heap.size:=by omega
 have hrB:w.heap.size+1≠B:=by omega
 have HX2:Hid (∀x∈((w.heap.size+1)::X),x<W1.heap.size):=fun x hx=>by
  rcases List.mem_cons.1 hx with rfl|hx
  ·exact hrl
  ·have:=HX.o x hx;omega
 rw[←hW1]
 clear hW1 hz1
 clear hf hf2 hk hk2
 refine(jcode_any 3 _).mono ?_
 rintro e w2 ⟨rfl,hb2⟩
 have KR2:=zaa (zac hb2 hrl KR.o)
 have HJ2:=zaa (HJ1.o.below hb2)
 have HB2:=zaa (HB1.o.trans (Y:=[]) (ButL.of_below hb2) HB1.o.size (by simp))
 clear hb2
 obtain⟨⟨y0,y1,y2⟩,yf⟩:=zbe KR2.o
 go_wp2
 exact za5 HE.o KR2.o HJ2.o HB2.o hrB hBX fun W u0 u1 u2=>by simp[results,Tryz.results15,go_sem,u0,u1,u2]
theorem z1j (B:Nat)(X:List Nat)(j:Jn)(w:World)(h:JAt w B X j)(hX:∀x∈X,x<w.heap.size)(hK:Ready j)(ah ab an:Int)(at0:ByteArray)(hn:an≤9223372036854775807)(ht:at0.size≤maxLen)(hf:¬400≤j.acts):
  Calls Tryz.prog 15 #[.pointer (some ⟨B,0,none⟩),.agg #[.int .i64 8,.int .i64 ah,.int .i64 ab,.int .i64 an,.string at0]] w (zc4 w B X (doJ j ⟨8,ah,ab,an,at0⟩)):=by
 have HJ:=zaa h
 have hlt:=h.lt
 have hBX:=h.1
 have HX:=zaa hX
 have HK:=zaa hK
 have HTX:=zaa ht
 have HAN:=zaa hn
 have ha0:=hK.acts0
 have ha1:=hK.acts1
 have hwa:IntKind.i64.wrap (j.acts+1)=j.acts+1:=by rw[IntKind.wrap_i64];omega
 obtain⟨_,da,dc,db,dd,na,nc,nb,nd,ne,nf,sa,sc,sb,sd,se,sf,ca,cc,fa,fc,ta,tc,h1,_⟩:=id h
 have c0:w.cell? ⟨B,0,none⟩=some (.int .i64 j.acts):=zag h1 0
 have fc0:w.frozen? ⟨B,0,none⟩=false:=frozen_of_row w _ _ _ _ h1
 have c6:w.cell? ⟨B,6,none⟩=some (.bool j.down):=zag h1 6
 have fc6:w.frozen? ⟨B,6,none⟩=false:=frozen_of_row w _ _ _ _ h1
 clear h hX hK hn ht h1
 have hne:¬w.heap.size=B:=by omega
 have hne1:¬w.heap.size+1=B:=by omega
 have HE:Hid (doJ j ⟨8,ah,ab,an,at0⟩=zig ({j with acts:=j.acts+1}:Jn)):=by rw[Hid,doJ,if_neg hf,doneJ];simp
 have hf2:¬(j.acts≥400):=hf
 go_enter Tryz.func15,Tryz.ntmps15
 go_wp2_with fail
 obtain⟨W0,hW0⟩:∃W0,W0=w.setCell ⟨B,0,none⟩ (.int .i64 (j.acts+1)):=⟨_,rfl⟩
 rw[←hW0]
 have hs0:W0.heap.size=w.heap.size:=by rw[hW0];simp[World.setCell]
 have HJ0:Hid (JAt W0 B X ({j with acts:=j.acts+1}:Jn)):=by rw[hW0];exact HJ.o.putActs _
 have HB0:Hid (ButL [B] w.heap.size w W0):=by rw[hW0];exact(ButL.refl _ _ _).set (.inl (by simp)) 0 _
 clear hW0
 obtain⟨W1,hW1⟩:∃W1,W1=(W0.alloc (.cells #[.int .i64 8,.int .i64 ah,.int .i64 ab,.int .i64 an,.string at0] 23)).alloc (.cells #[.int .i64 0,.int .i64 0,.string ⟨#[]⟩] 31):=⟨_,rfl⟩
 have hz1:(W0.alloc (.cells #[.int .i64 8,.int .i64 ah,.int .i64 ab,.int .i64 an,.string at0] 23)).heap.size=w.heap.size+1:=by simp[hs0]
 have hbW:Below W0.heap.size W0 W1:=by rw[hW1];exact zad (below1 _ _) (below1 _ _)
 have HJ1:Hid (JAt W1 B ((w.heap.size+1)::X) ({j with acts:=j.acts+1}:Jn)):=HJ0.o.more hbW (by omega)
 have HB1:Hid (ButL [B] w.heap.size w W1):=HB0.o.trans (Y:=[]) (ButL.of_below hbW) (by omega) (by simp)
 have KR:Hid (W1.heap[w.heap.size+1]?=some (.cells #[.int .i64 0,.int .i64 0,.string ⟨#[]⟩] 31 (0,0))):=by rw[hW1,←hz1];exact heap_alloc_new _ _
 have hs1:W1.heap.size=w.heap.size+2:=by rw[hW1];simp[hs0]
 have hrl:w.heap.size+1<W1.heap.size:=by omega
 have hrB:w.heap.size+1≠B:=by omega
 have HX2:Hid (∀x∈((w.heap.size+1)::X),x<W1.heap.size):=fun x hx=>by
  rcases List.mem_cons.1 hx with rfl|hx
  ·exact hrl
  ·have:=HX.o x hx;omega
 rw[←hW1]
 clear hW1 hz1
 clear hf hf2
 refine(zy3 B ((w.heap.size+1)::X) ({j with acts:=j.acts+1}:Jn) W1 HJ1.o HX2.o HK.o.done HK.o.found HK.o.next).mono ?_
 rintro e w2 ⟨rfl,hJ2,hB2⟩
 have KR2:Hid (w2.heap[w.heap.size+1]?=some (.cells #[.int .i64 0,.int .i64 0,.string ⟨#[]⟩] 31 (0,0))):=(hB2.block _ (by omega) (by simpa using hrB)).trans KR.o
 have HJ2:=zaa hJ2
 have HB2:Hid (ButL [B] w.heap.size w w2):=HB1.o.trans hB2 HB1.o.size (by simp)
 have hs2:W1.heap.size≤w2.heap.size:=hB2.size
 clear hJ2 hB2
 obtain⟨P,hP⟩:∃P,P=zig ({j with acts:=j.acts+1}:Jn):=⟨_,rfl⟩
 rw[←hP] at HE HJ2⊢
 have HE3:Hid (doJ j ⟨8,ah,ab,an,at0⟩=(P.1,⟨P.2.code,P.2.n,P.2.text⟩)):=HE.o
 rw[show vRp P.2=.agg #[.int .i64 P.2.code,.int .i64 P.2.n,.string P.2.text] from rfl]
 clear hP HE
 obtain⟨⟨y0,y1,y2⟩,yf⟩:=zbe KR2.o
 go_wp2
 exact za5 HE3.o KR2.o HJ2.o HB2.o hrB hBX fun W u0 u1 u2=>by simp[results,Tryz.results15,go_sem,u0,u1,u2]
theorem zzh (B:Nat)(X:List Nat)(j:Jn)(w:World)(h:JAt w B X j)(hX:∀x∈X,x<w.heap.size)(hK:Ready j)(ah ab an:Int)(at0:ByteArray)(hn:an≤9223372036854775807)(ht:at0.size≤maxLen)(hf:¬400≤j.acts):
  Calls Tryz.prog 15 #[.pointer (some ⟨B,0,none⟩),.agg #[.int .i64 10,.int .i64 ah,.int .i64 ab,.int .i64 an,.string at0]] w (zc4 w B X (doJ j ⟨10,ah,ab,an,at0⟩)):=by
 have HJ:=zaa h
 have hlt:=h.lt
 have hBX:=h.1
 have HX:=zaa hX
 have HK:=zaa hK
 have HTX:=zaa ht
 have HAN:=zaa hn
 have ha0:=hK.acts0
 have ha1:=hK.acts1
 have hwa:IntKind.i64.wrap (j.acts+1)=j.acts+1:=by rw[IntKind.wrap_i64];omega
 obtain⟨_,da,dc,db,dd,na,nc,nb,nd,ne,nf,sa,sc,sb,sd,se,sf,ca,cc,fa,fc,ta,tc,h1,_⟩:=id h
 have c0:w.cell? ⟨B,0,none⟩=some (.int .i64 j.acts):=zag h1 0
 have fc0:w.frozen? ⟨B,0,none⟩=false:=frozen_of_row w _ _ _ _ h1
 have c6:w.cell? ⟨B,6,none⟩=some (.bool j.down):=zag h1 6
 have fc6:w.frozen? ⟨B,6,none⟩=false:=frozen_of_row w _ _ _ _ h1
 clear h hX hK hn ht h1
 have hne:¬w.heap.size=B:=by omega
 have hne1:¬w.heap.size+1=B:=by omega
 have HE:Hid (doJ j ⟨10,ah,ab,an,at0⟩=zih ({j with acts:=j.acts+1}:Jn) an):=by rw[Hid,doJ,if_neg hf,doneJ];simp
 have hf2:¬(j.acts≥400):=hf
 go_enter Tryz.func15,Tryz.ntmps15
 go_wp2_with fail
 obtain⟨W0,hW0⟩:∃W0,W0=w.setCell ⟨B,0,none⟩ (.int .i64 (j.acts+1)):=⟨_,rfl⟩
 rw[←hW0]
 have hs0:W0.heap.size=w.heap.size:=by rw[hW0];simp[World.setCell]
 have HJ0:Hid (JAt W0 B X ({j with acts:=j.acts+1}:Jn)):=by rw[hW0];exact HJ.o.putActs _
 have HB0:Hid (ButL [B] w.heap.size w W0):=by rw[hW0];exact(ButL.refl _ _ _).set (.inl (by simp)) 0 _
 clear hW0
 obtain⟨W1,hW1⟩:∃W1,W1=(W0.alloc (.cells #[.int .i64 10,.int .i64 ah,.int .i64 ab,.int .i64 an,.string at0] 23)).alloc (.cells #[.int .i64 0,.int .i64 0,.string ⟨#[]⟩] 31):=⟨_,rfl⟩
 have hz1:(W0.alloc (.cells #[.int .i64 10,.int .i64 ah,.int .i64 ab,.int .i64 an,.string at0] 23)).heap.size=w.heap.size+1:=by simp[hs0]
 have hbW:Below W0.heap.size W0 W1:=by rw[hW1];exact zad (below1 _ _) (below1 _ _)
 have HJ1:Hid (JAt W1 B ((w.heap.size+1)::X) ({j with acts:=j.acts+1}:Jn)):=HJ0.o.more hbW (by omega)
 have HB1:Hid (ButL [B] w.heap.size w W1):=HB0.o.trans (Y:=[]) (ButL.of_below hbW) (by omega) (by simp)
 have KR:Hid (W1.heap[w.heap.size+1]?=some (.cells #[.int .i64 0,.int .i64 0,.string ⟨#[]⟩] 31 (0,0))):=by rw[hW1,←hz1];exact heap_alloc_new _ _
 have hs1:W1.heap.size=w.heap.size+2:=by rw[hW1];simp[hs0]
 have hrl:w.heap.size+1<W1.heap.size:=by omega
 have hrB:w.heap.size+1≠B:=by omega
 have HX2:Hid (∀x∈((w.heap.size+1)::X),x<W1.heap.size):=fun x hx=>by
  rcases List.mem_cons.1 hx with rfl|hx
  ·exact hrl
  ·have:=HX.o x hx;omega
 rw[←hW1]
 clear hW1 hz1
 clear hf hf2
 refine(zwc B ((w.heap.size+1)::X) ({j with acts:=j.acts+1}:Jn) W1 HJ1.o HX2.o an HAN.o).mono ?_
 rintro e w2 ⟨rfl,hJ2,hB2⟩
 have KR2:Hid (w2.heap[w.heap.size+1]?=some (.cells #[.int .i64 0,.int .i64 0,.string ⟨#[]⟩] 31 (0,0))):=(hB2.block _ (by omega) (by simpa using hrB)).trans KR.o
 have HJ2:=zaa hJ2
 have HB2:Hid (ButL [B] w.heap.size w w2):=HB1.o.trans hB2 HB1.o.size (by simp)
 have hs2:W1.heap.size≤w2.heap.size:=hB2.size
 clear hJ2 hB2
 obtain⟨P,hP⟩:∃P,P=zih ({j with acts:=j.acts+1}:Jn) an:=⟨_,rfl⟩
 rw[←hP] at HE HJ2⊢
 have HE3:Hid (doJ j ⟨10,ah,ab,an,at0⟩=(P.1,⟨P.2.code,P.2.n,P.2.text⟩)):=HE.o
 rw[show vRp P.2=.agg #[.int .i64 P.2.code,.int .i64 P.2.n,.string P.2.text] from rfl]
 clear hP HE
 obtain⟨⟨y0,y1,y2⟩,yf⟩:=zbe KR2.o
 go_wp2
 exact za5 HE3.o KR2.o HJ2.o HB2.o hrB hBX fun W u0 u1 u2=>by simp[results,Tryz.results15,go_sem,u0,u1,u2]
theorem zzi (B:Nat)(X:List Nat)(j:Jn)(w:World)(h:JAt w B X j)(hX:∀x∈X,x<w.heap.size)(hK:Ready j)(ah ab an:Int)(at0:ByteArray)(hn:an≤9223372036854775807)(ht:at0.size≤maxLen)(hf:¬400≤j.acts):
  Calls Tryz.prog 15 #[.pointer (some ⟨B,0,none⟩),.agg #[.int .i64 11,.int .i64 ah,.int .i64 ab,.int .i64 an,.string at0]] w (zc4 w B X (doJ j ⟨11,ah,ab,an,at0⟩)):=by
 have HJ:=zaa h
 have hlt:=h.lt
 have hBX:=h.1
 have HX:=zaa hX
 have HK:=zaa hK
 have HTX:=zaa ht
 have HAN:=zaa hn
 have ha0:=hK.acts0
 have ha1:=hK.acts1
 have hwa:IntKind.i64.wrap (j.acts+1)=j.acts+1:=by rw[IntKind.wrap_i64];omega
 obtain⟨_,da,dc,db,dd,na,nc,nb,nd,ne,nf,sa,sc,sb,sd,se,sf,ca,cc,fa,fc,ta,tc,h1,_⟩:=id h
 have c0:w.cell? ⟨B,0,none⟩=some (.int .i64 j.acts):=zag h1 0
 have fc0:w.frozen? ⟨B,0,none⟩=false:=frozen_of_row w _ _ _ _ h1
 have c6:w.cell? ⟨B,6,none⟩=some (.bool j.down):=zag h1 6
 have fc6:w.frozen? ⟨B,6,none⟩=false:=frozen_of_row w _ _ _ _ h1
 clear h hX hK hn ht h1
 have hne:¬w.heap.size=B:=by omega
 have hne1:¬w.heap.size+1=B:=by omega
 have HE:Hid (doJ j ⟨11,ah,ab,an,at0⟩=zbz ({j with acts:=j.acts+1}:Jn)):=by rw[Hid,doJ,if_neg hf,doneJ];simp
 have hf2:¬(j.acts≥400):=hf
 go_enter Tryz.func15,Tryz.ntmps15
 go_wp2_with fail
 obtain⟨W0,hW0⟩:∃W0,W0=w.setCell ⟨B,0,none⟩ (.int .i64 (j.acts+1)):=⟨_,rfl⟩
 rw[←hW0]
 have hs0:W0.heap.size=w.heap.size:=by rw[hW0];simp[World.setCell]
 have HJ0:Hid (JAt W0 B X ({j with acts:=j.acts+1}:Jn)):=by rw[hW0];exact HJ.o.putActs _
 have HB0:Hid (ButL [B] w.heap.size w W0):=by rw[hW0];exact(ButL.refl _ _ _).set (.inl (by simp)) 0 _
 clear hW0
 obtain⟨W1,hW1⟩:∃W1,W1=(W0.alloc (.cells #[.int .i64 11,.int .i64 ah,.int .i64 ab,.int .i64 an,.string at0] 23)).alloc (.cells #[.int .i64 0,.int .i64 0,.string ⟨#[]⟩] 31):=⟨_,rfl⟩
 have hz1:(W0.alloc (.cells #[.int .i64 11,.int .i64 ah,.int .i64 ab,.int .i64 an,.string at0] 23)).heap.size=w.heap.size+1:=by simp[hs0]
 have hbW:Below W0.heap.size W0 W1:=by rw[hW1];exact zad (below1 _ _) (below1 _ _)
 have HJ1:Hid (JAt W1 B ((w.heap.size+1)::X) ({j with acts:=j.acts+1}:Jn)):=HJ0.o.more hbW (by omega)
 have HB1:Hid (ButL [B] w.heap.size w W1):=HB0.o.trans (Y:=[]) (ButL.of_below hbW) (by omega) (by simp)
 have KR:Hid (W1.heap[w.heap.size+1]?=some (.cells #[.int .i64 0,.int .i64 0,.string ⟨#[]⟩] 31 (0,0))):=by rw[hW1,←hz1];exact heap_alloc_new _ _
 have hs1:W1.heap.size=w.heap.size+2:=by rw[hW1];simp[hs0]
 have hrl:w.heap.size+1<W1.heap.size:=by omega
 have hrB:w.heap.size+1≠B:=by omega
 have HX2:Hid (∀x∈((w.heap.size+1)::X),x<W1.heap.size):=fun x hx=>by
  rcases List.mem_cons.1 hx with rfl|hx
  ·exact hrl
  ·have:=HX.o x hx;omega
 rw[←hW1]
 clear hW1 hz1
 clear hf hf2
 refine(zyu B ((w.heap.size+1)::X) ({j with acts:=j.acts+1}:Jn) W1 HJ1.o HX2.o HK.o.few).mono ?_
 rintro e w2 ⟨rfl,hJ2,hB2⟩
 have KR2:Hid (w2.heap[w.heap.size+1]?=some (.cells #[.int .i64 0,.int .i64 0,.string ⟨#[]⟩] 31 (0,0))):=(hB2.block _ (by omega) (by simpa using hrB)).trans KR.o
 have HJ2:=zaa hJ2
 have HB2:Hid (ButL [B] w.heap.size w w2):=HB1.o.trans hB2 HB1.o.size (by simp)
 have hs2:W1.heap.size≤w2.heap.size:=hB2.size
 clear hJ2 hB2
 obtain⟨P,hP⟩:∃P,P=zbz ({j with acts:=j.acts+1}:Jn):=⟨_,rfl⟩
 rw[←hP] at HE HJ2⊢
 have HE3:Hid (doJ j ⟨11,ah,ab,an,at0⟩=(P.1,⟨P.2.code,P.2.n,P.2.text⟩)):=HE.o
 rw[show vRp P.2=.agg #[.int .i64 P.2.code,.int .i64 P.2.n,.string P.2.text] from rfl]
 clear hP HE
 obtain⟨⟨y0,y1,y2⟩,yf⟩:=zbe KR2.o
 go_wp2
 exact za5 HE3.o KR2.o HJ2.o HB2.o hrB hBX fun W u0 u1 u2=>by simp[results,Tryz.results15,go_sem,u0,u1,u2]
theorem zs1 (B:Nat)(X:List Nat)(j:Jn)(w:World)(h:JAt w B X j)(hX:∀x∈X,x<w.heap.size)(hK:Ready j)(ak ah ab an:Int)(at0:ByteArray)(hn:an≤9223372036854775807)(ht:at0.size≤maxLen)(hf:¬400≤j.acts)(h0:1≤ak)(h11:ak≤11)(k8:¬ak=8)(k10:¬ak=10)(k11:¬ak=11)(hd:j.down=true):
  Calls Tryz.prog 15 #[.pointer (some ⟨B,0,none⟩),.agg #[.int .i64 ak,.int .i64 ah,.int .i64 ab,.int .i64 an,.string at0]] w (zc4 w B X (doJ j ⟨ak,ah,ab,an,at0⟩)):=by
 have HJ:=zaa h
 have hlt:=h.lt
 have hBX:=h.1
 have HX:=zaa hX
 have HK:=zaa hK
 have HTX:=zaa ht
 have HAN:=zaa hn
 have ha0:=hK.acts0
 have ha1:=hK.acts1
 have hwa:IntKind.i64.wrap (j.acts+1)=j.acts+1:=by rw[IntKind.wrap_i64];omega
 obtain⟨_,da,dc,db,dd,na,nc,nb,nd,ne,nf,sa,sc,sb,sd,se,sf,ca,cc,fa,fc,ta,tc,h1,_⟩:=id h
 have c0:w.cell? ⟨B,0,none⟩=some (.int .i64 j.acts):=zag h1 0
 have fc0:w.frozen? ⟨B,0,none⟩=false:=frozen_of_row w _ _ _ _ h1
 have c6:w.cell? ⟨B,6,none⟩=some (.bool j.down):=zag h1 6
 have fc6:w.frozen? ⟨B,6,none⟩=false:=frozen_of_row w _ _ _ _ h1
 clear h hX hK hn ht h1
 have hne:¬w.heap.size=B:=by omega
 have hne1:¬w.heap.size+1=B:=by omega
 have HE:Hid (doJ j ⟨ak,ah,ab,an,at0⟩=(({j with acts:=j.acts+1}:Jn),zap 10)):=by rw[Hid,doJ,if_neg hf,doneJ,if_neg (by simp only;omega),if_neg k8,if_neg k10,if_neg k11,if_pos hd]
 have hf2:¬(j.acts≥400):=hf
 have b8:(ak==8)=false:=by simpa using k8
 have b10:(ak==10)=false:=by simpa using k10
 have b11:(ak==11)=false:=by simpa using k11
 have r1:¬ak<1:=by omega
 have r2:¬ak>11:=by omega
 rw[hd] at c6
 go_enter Tryz.func15,Tryz.ntmps15
 go_wp2_with fail
 obtain⟨W0,hW0⟩:∃W0,W0=w.setCell ⟨B,0,none⟩ (.int .i64 (j.acts+1)):=⟨_,rfl⟩
 rw[←hW0]
 have hs0:W0.heap.size=w.heap.size:=by rw[hW0];simp[World.setCell]
 have HJ0:Hid (JAt W0 B X ({j with acts:=j.acts+1}:Jn)):=by rw[hW0];exact HJ.o.putActs _
 have HB0:Hid (ButL [B] w.heap.size w W0):=by rw[hW0];exact(ButL.refl _ _ _).set (.inl (by simp)) 0 _
 clear hW0
 obtain⟨W1,hW1⟩:∃W1,W1=(W0.alloc (.cells #[.int .i64 ak,.int .i64 ah,.int .i64 ab,.int .i64 an,.string at0] 23)).alloc (.cells #[.int .i64 0,.int .i64 0,.string ⟨#[]⟩] 31):=⟨_,rfl⟩
 have hz1:(W0.alloc (.cells #[.int .i64 ak,.int .i64 ah,.int .i64 ab,.int .i64 an,.string at0] 23)).heap.size=w.heap.size+1:=by simp[hs0]
 have hbW:Below W0.heap.size W0 W1:=by rw[hW1];exact zad (below1 _ _) (below1 _ _)
 have HJ1:Hid (JAt W1 B ((w.heap.size+1)::X) ({j with acts:=j.acts+1}:Jn)):=HJ0.o.more hbW (by omega)
 have HB1:Hid (ButL [B] w.heap.size w W1):=HB0.o.trans (Y:=[]) (ButL.of_below hbW) (by omega) (by simp)
 have KR:Hid (W1.heap[w.heap.size+1]?=some (.cells #[.int .i64 0,.int .i64 0,.string ⟨#[]⟩] 31 (0,0))):=by rw[hW1,←hz1];exact heap_alloc_new _ _
 have hs1:W1.heap.size=w.heap.size+2:=by rw[hW1];simp[hs0]
 have hrl:w.heap.size+1<W1.heap.size:=by omega
 have hrB:w.heap.size+1≠B:=by omega
 have HX2:Hid (∀x∈((w.heap.size+1)::X),x<W1.heap.size):=fun x hx=>by
  rcases List.mem_cons.1 hx with rfl|hx
  ·exact hrl
  ·have:=HX.o x hx;omega
 rw[←hW1]
 clear hW1 hz1
 clear hf hf2 k8 b8 k10 b10 k11 b11 r1 r2 h0 h11
 refine(jcode_any 10 _).mono ?_
 rintro e w2 ⟨rfl,hb2⟩
 have KR2:=zaa (zac hb2 hrl KR.o)
 have HJ2:=zaa (HJ1.o.below hb2)
 have HB2:=zaa (HB1.o.trans (Y:=[]) (ButL.of_below hb2) HB1.o.size (by simp))
 clear hb2
 obtain⟨⟨y0,y1,y2⟩,yf⟩:=zbe KR2.o
 go_wp2
 exact za5 HE.o KR2.o HJ2.o HB2.o hrB hBX fun W u0 u1 u2=>by simp[results,Tryz.results15,go_sem,u0,u1,u2]
theorem zzj (B:Nat)(X:List Nat)(j:Jn)(w:World)(h:JAt w B X j)(hX:∀x∈X,x<w.heap.size)(hK:Ready j)(ak ah ab an:Int)(at0:ByteArray)(hn:an≤9223372036854775807)(ht:at0.size≤maxLen)(hf:¬400≤j.acts)(h0:1≤ak)(h11:ak≤11)(k8:¬ak=8)(k10:¬ak=10)(k11:¬ak=11)(hd:j.down=false):
  Calls Tryz.prog 15 #[.pointer (some ⟨B,0,none⟩),.agg #[.int .i64 ak,.int .i64 ah,.int .i64 ab,.int .i64 an,.string at0]] w (zc4 w B X (doJ j ⟨ak,ah,ab,an,at0⟩)):=by
 have HJ:=zaa h
 have hlt:=h.lt
 have hBX:=h.1
 have HX:=zaa hX
 have HK:=zaa hK
 have HTX:=zaa ht
 have HAN:=zaa hn
 have ha0:=hK.acts0
 have ha1:=hK.acts1
 have hwa:IntKind.i64.wrap (j.acts+1)=j.acts+1:=by rw[IntKind.wrap_i64];omega
 obtain⟨_,da,dc,db,dd,na,nc,nb,nd,ne,nf,sa,sc,sb,sd,se,sf,ca,cc,fa,fc,ta,tc,h1,_⟩:=id h
 have c0:w.cell? ⟨B,0,none⟩=some (.int .i64 j.acts):=zag h1 0
 have fc0:w.frozen? ⟨B,0,none⟩=false:=frozen_of_row w _ _ _ _ h1
 have c6:w.cell? ⟨B,6,none⟩=some (.bool j.down):=zag h1 6
 have fc6:w.frozen? ⟨B,6,none⟩=false:=frozen_of_row w _ _ _ _ h1
 clear h hX hK hn ht h1
 have hne:¬w.heap.size=B:=by omega
 have hne1:¬w.heap.size+1=B:=by omega
 have HE:Hid (doJ j ⟨ak,ah,ab,an,at0⟩=zav ({j with acts:=j.acts+1}:Jn) ⟨ak,ah,ab,an,at0⟩):=by rw[Hid,doJ,if_neg hf,doneJ,if_neg (by simp only;omega),if_neg k8,if_neg k10,if_neg k11,if_neg (by simp[hd])]
 have HKB:Hid (Ready ({j with acts:=j.acts+1}:Jn)):=HK.o.bump _ (by omega) (by omega)
 have hf2:¬(j.acts≥400):=hf
 have b8:(ak==8)=false:=by simpa using k8
 have b10:(ak==10)=false:=by simpa using k10
 have b11:(ak==11)=false:=by simpa using k11
 have r1:¬ak<1:=by omega
 have r2:¬ak>11:=by omega
 rw[hd] at c6
 go_enter Tryz.func15,Tryz.ntmps15
 go_wp2_with fail
 obtain⟨W0,hW0⟩:∃W0,W0=w.setCell ⟨B,0,none⟩ (.int .i64 (j.acts+1)):=⟨_,rfl⟩
 rw[←hW0]
 have hs0:W0.heap.size=w.heap.size:=by rw[hW0];simp[World.setCell]
 have HJ0:Hid (JAt W0 B X ({j with acts:=j.acts+1}:Jn)):=by rw[hW0];exact HJ.o.putActs _
 have HB0:Hid (ButL [B] w.heap.size w W0):=by rw[hW0];exact(ButL.refl _ _ _).set (.inl (by simp)) 0 _
 clear hW0
 obtain⟨W1,hW1⟩:∃W1,W1=(W0.alloc (.cells #[.int .i64 ak,.int .i64 ah,.int .i64 ab,.int .i64 an,.string at0] 23)).alloc (.cells #[.int .i64 0,.int .i64 0,.string ⟨#[]⟩] 31):=⟨_,rfl⟩
 have hz1:(W0.alloc (.cells #[.int .i64 ak,.int .i64 ah,.int .i64 ab,.int .i64 an,.string at0] 23)).heap.size=w.heap.size+1:=by simp[hs0]
 have hbW:Below W0.heap.size W0 W1:=by rw[hW1];exact zad (below1 _ _) (below1 _ _)
 have HJ1:Hid (JAt W1 B ((w.heap.size+1)::X) ({j with acts:=j.acts+1}:Jn)):=HJ0.o.more hbW (by omega)
 have HB1:Hid (ButL [B] w.heap.size w W1):=HB0.o.trans (Y:=[]) (ButL.of_below hbW) (by omega) (by simp)
 have KR:Hid (W1.heap[w.heap.size+1]?=some (.cells #[.int .i64 0,.int .i64 0,.string ⟨#[]⟩] 31 (0,0))):=by rw[hW1,←hz1];exact heap_alloc_new _ _
 have hs1:W1.heap.size=w.heap.size+2:=by rw[hW1];simp[hs0]
 have hrl:w.heap.size+1<W1.heap.size:=by omega
 have hrB:w.heap.size+1≠B:=by omega
 have HX2:Hid (∀x∈((w.heap.size+1)::X),x<W1.heap.size):=fun x hx=>by
  rcases List.mem_cons.1 hx with rfl|hx
  ·exact hrl
  ·have:=HX.o x hx;omega
 rw[←hW1]
 clear hW1 hz1
 clear hf hf2 k8 b8 k10 b10 k11 b11 r1 r2 h0 h11
 refine(zqr B ((w.heap.size+1)::X) ({j with acts:=j.acts+1}:Jn) W1 HJ1.o HX2.o HKB.o ⟨ak,ah,ab,an,at0⟩ HTX.o).mono ?_
 rintro e w2 ⟨rfl,hJ2,hB2⟩
 have KR2:Hid (w2.heap[w.heap.size+1]?=some (.cells #[.int .i64 0,.int .i64 0,.string ⟨#[]⟩] 31 (0,0))):=(hB2.block _ (by omega) (by simpa using hrB)).trans KR.o
 have HJ2:=zaa hJ2
 have HB2:Hid (ButL [B] w.heap.size w w2):=HB1.o.trans hB2 HB1.o.size (by simp)
 have hs2:W1.heap.size≤w2.heap.size:=hB2.size
 clear hJ2 hB2
 obtain⟨P,hP⟩:∃P,P=zav ({j with acts:=j.acts+1}:Jn) ⟨ak,ah,ab,an,at0⟩:=⟨_,rfl⟩
 rw[←hP] at HE HJ2⊢
 have HE3:Hid (doJ j ⟨ak,ah,ab,an,at0⟩=(P.1,⟨P.2.code,P.2.n,P.2.text⟩)):=HE.o
 rw[show vRp P.2=.agg #[.int .i64 P.2.code,.int .i64 P.2.n,.string P.2.text] from rfl]
 clear hP HE
 obtain⟨⟨y0,y1,y2⟩,yf⟩:=zbe KR2.o
 go_wp2
 exact za5 HE3.o KR2.o HJ2.o HB2.o hrB hBX fun W u0 u1 u2=>by simp[results,Tryz.results15,go_sem,u0,u1,u2]
theorem zi9 (B:Nat)(X:List Nat)(j:Jn)(w:World)(h:JAt w B X j)(hX:∀x∈X,x<w.heap.size)(hK:Ready j)(ac:Ac)(hn:ac.n≤9223372036854775807)(ht:ac.text.size≤maxLen):
  Calls Tryz.prog 15 #[.pointer (some ⟨B,0,none⟩),vAc ac] w (zc4 w B X (doJ j ac)):=by
 obtain⟨ak,ah,ab,an,at0⟩:=ac
 by_cases hf:400≤j.acts
 ·exact zsz B X j w h hX hK ak ah ab an at0 hn ht hf
 by_cases hl:ak<1
 ·exact zwd B X j w h hX hK ak ah ab an at0 hn ht hf hl
 by_cases hh:11<ak
 ·exact zs0 B X j w h hX hK ak ah ab an at0 hn ht hf hh
 by_cases k8:ak=8
 ·subst k8;exact z1j B X j w h hX hK ah ab an at0 hn ht hf
 by_cases k10:ak=10
 ·subst k10;exact zzh B X j w h hX hK ah ab an at0 hn ht hf
 by_cases k11:ak=11
 ·subst k11;exact zzi B X j w h hX hK ah ab an at0 hn ht hf
 cases hd:j.down with
 |true=>exact zs1 B X j w h hX hK ak ah ab an at0 hn ht hf (by omega) (by omega) k8 k10 k11 hd
 |false=>exact zzj B X j w h hX hK ak ah ab an at0 hn ht hf (by omega) (by omega) k8 k10 k11 hd
theorem z1z:goodM (superMk 0 1)=0:=by kernel_rfl
def z1k:Dk:=⟨encT (superMk 0 1)::List.replicate 36 (fitT ⟨#[]⟩),[]⟩
theorem z2o:zzs=zep z1k 0 1:=rfl
def zll (bs:Nat)(D:Nat)(g:Nat)(c:Nat)(s:ByteArray):Nat→Value→World→Prop
 |0,v,_=>v=.pointer (some ⟨D,0,none⟩)
 |1,v,_=>v=.slice (some ⟨g,0,none⟩) 37 c
 |2,v,_=>v=.agg #[.int .i64 1,.int .i64 1,.int .i64 0,.slice none 0 0,.slice none 0 0]
 |3,v,_=>v=.tuple #[.string s,.int .i64 0]
 |4,v,_=>v=.tuple #[.string s,.int .i64 0]
 |5,v,_=>v=.string s
 |6,v,_=>v=.int .i64 0
 |7,v,_=>v=.pointer (some ⟨g,0,none⟩)
 |8,_,w=>w.ownsRow bs 9 1 (.slice (some ⟨g,0,none⟩) 37 c) 37 (cellsS (s::List.replicate 36 (fitT ⟨#[]⟩)))
 |_,_,_=>True
theorem zqs {bs:Nat}{D:Nat}{g:Nat}{c:Nat}{s:ByteArray}{w w':World}(hb:Below w.heap.size w w'){i:Nat}:∀kk uu,kk≠i→zll bs D g c s kk uu w→zll bs D g c s kk uu w':=by
 intro kk uu _ h
 match kk,h with
 |0,h|1,h|2,h|3,h|4,h|5,h|6,h|7,h=>exact h
 |8,h=>exact zae h hb
 |_+9,_=>exact trivial
theorem zwe {bs:Nat}{D:Nat}{g:Nat}{c:Nat}{s:ByteArray}{w w':World}:∀kk x,kk≠8→zll bs D g c s kk x w→zll bs D g c s kk x w':=by
 intro kk x hk h
 match kk,h with
 |0,h|1,h|2,h|3,h|4,h|5,h|6,h|7,h=>exact h
 |8,_=>exact absurd rfl hk
 |_+9,_=>exact trivial
def newR (w:World)(D g c:Nat)(w':World):Prop:=Below w.heap.size w w'∧w'.heap[D]?=some (.cells #[.slice (some ⟨g,0,none⟩) 37 c,.slice none 0 0] 46 (0,0))∧∃t,w'.ownsRow w.heap.size 9 1 (.slice (some ⟨g,0,none⟩) 37 c) 37 (cellsS (t::List.replicate 36 (fitT ⟨#[]⟩)))
theorem newR.below {w:World}{D g c:Nat}{w' w2:World}(h:newR w D g c w')(hb:Below w'.heap.size w' w2):newR w D g c w2:=⟨zad h.1 hb,zac hb (Array.getElem?_eq_some_iff.1 h.2.1).1 h.2.1,h.2.2.imp fun _ ho=>zae ho hb⟩
theorem ztv (w:World):
  Calls Tryz.prog 41 #[] w fun e w'=>∃B,e=.returned (.pointer (some ⟨B,0,none⟩))∧w.heap.size≤B∧(∀X:List Nat,(∀x∈X,x<w.heap.size)→JAt w' B (B::X) zzs)∧Below w.heap.size w w':=by
 obtain⟨s,hs⟩:∃s,s=encT (superMk 0 1):=⟨_,rfl⟩
 have HS:=zaa hs
 clear hs
 go_enter Tryz.func41,Tryz.ntmps41
 go_wp2_with fail
 refine(z2n _).mono ?_
 rintro e w1 ⟨g,c,rfl,hown,hb1⟩
 have hgl:=hown.lt g rfl
 have hg1:w.heap.size≤g:=hgl.1
 have hg2:g<w1.heap.size:=hgl.2
 go_wp2
 rename_i KK hKK
 obtain⟨W1,hW1⟩:∃W1,W1=w1.alloc (.cells #[.slice (some ⟨g,0,none⟩) 37 c,.slice none 0 0] 46):=⟨_,rfl⟩
 have hb11:Below w1.heap.size w1 W1:=by rw[hW1];exact below1 _ _
 have HOW:=zaa (zae hown hb11)
 have HB1:=zaa (zad hb1 hb11)
 have KD:Hid (W1.heap[w1.heap.size]?=some (.cells #[.slice (some ⟨g,0,none⟩) 37 c,.slice none 0 0] 46 (0,0))):=by rw[hW1];exact heap_alloc_new _ _
 have hs1:W1.heap.size=w1.heap.size+1:=by rw[hW1];simp
 have hs01:w.heap.size≤w1.heap.size:=hb1.size
 rw[←hW1]
 clear hW1 hb11 hown hb1 hgl
 have HR1:Hid (newR w w1.heap.size g c W1):=⟨HB1.o,KD.o,fitT ⟨#[]⟩,HOW.o⟩
 have TAIL:∀(g0 g2 g3 g4 g5 g6 g7 g8 g9 g10 g11 g12 g13:Value) (W:World),W.ownsRow w.heap.size 9 1 (.slice (some ⟨g,0,none⟩) 37 c) 37 (cellsS (s::List.replicate 36 (fitT ⟨#[]⟩)))→Below w.heap.size w W→W.heap[w1.heap.size]?=some (.cells #[.slice (some ⟨g,0,none⟩) 37 c,.slice none 0 0] 46 (0,0))→KK ⟨#[g0,.pointer (some ⟨w1.heap.size,0,none⟩),g2,g3,g4,g5,g6,g7,g8,g9,g10,g11,g12,g13],[]⟩ W:=by
  intro g0 g2 g3 g4 g5 g6 g7 g8 g9 g10 g11 g12 g13 W3 hst hb3 hd3
  apply hKK
  clear hKK
  have HST:=zaa hst
  have HB3:=zaa hb3
  have KD3:=zaa hd3
  obtain⟨⟨y0,y1⟩,_⟩:=zfo KD3.o
  clear hst hb3 hd3
  go_wp2_with fail
  refine(begun_any z1k (some ⟨g,0,none⟩) c none 0 0 1 W3 (by decide+kernel)).mono ?_
  rintro e w4 ⟨rfl,hb4⟩
  have HST4:=zaa (zae HST.o hb4)
  have HB4:=zaa (zad HB3.o hb4)
  have hs4:W3.heap.size≤w4.heap.size:=hb4.size
  clear y0 y1 hb4
  obtain⟨CS,hCS⟩:∃CS,CS=zbi (zep z1k 0 1) (some ⟨g,0,none⟩) c none 0 none 0 none 0 none 0 none 0 none 0 none 0 none 0 none 0 none 0:=⟨_,rfl⟩
  rw[←hCS]
  have HCS:=zaa hCS
  have HIN:Hid ((Tryz.prog.info? 93).map (·.size)=some CS.size):=by rw[Hid,HCS.o];exact z1c _ _ _ _ _ _ _ _ _ _ _ _ _ _ _ _ _ _ _ _ _ _ _
  have HON:Hid (CS.all (·.oneCell')=true):=by rw[Hid,HCS.o];exact zg6 _ _ _ _ _ _ _ _ _ _ _ _ _ _ _ _ _ _ _ _ _ _ _
  have HSZ:Hid (57=CS.size):=by rw[Hid,HCS.o];kernel_rfl
  clear hCS
  dsimp only
  repeat (first|(refine wpList_store_rowTo rfl _ _ _ rfl rfl w4.heap.size CS rfl rfl _ _ (heap_alloc_new _ _) HIN.o HSZ.o HON.o ?_)|go_step)
  refine bodyPost_ret (results_tmp rfl _ _ _) rfl ⟨w4.heap.size,rfl,HB4.o.size,fun X hX=>?_,?_⟩
  ·rw[HCS.o,z2o]
   refine JAt.putAll (by simp) (heap_alloc_new w4 _) (some ⟨g,0,none⟩) c none 0 none 0 none 0 none 0 none 0 none 0 none 0 none 0 none 0 none 0 ⟨?_,zp2 _ _,zp2 _ _,.inl rfl,.inl rfl,.inl rfl,z1b _,Nat.le_refl _,Nat.le_refl _,Nat.le_refl _⟩
   have hg4:g<w4.heap.size:=(HST4.o.lt g rfl).2
   obtain⟨a2,c2,hv,hS,_⟩:=SegS.of_owns (zae HST4.o (below1 w4 _))
   simp only[Value.slice.injEq] at hv
   obtain⟨rfl,_,rfl⟩:=hv
   rw[HS.o] at hS
   refine⟨some ⟨g,0,none⟩,c,none,0,rfl,?_,.inl rfl,by decide+kernel,by decide+kernel⟩
   rcases hS with h0|⟨b,off,he,hlt,hc⟩
   ·cases h0
   ·cases he
    refine .inr ⟨g,0,rfl,by rw[za9];exact hlt,fun i hi=>zbc ?_ (hc i hi)⟩
    simp only[List.mem_cons,not_or]
    exact⟨by omega,fun hx=>by have:=hX g hx;omega⟩
  ·exact((ButL.of_below (X:=[]) (HB4.o.alloc HB4.o.size _)).setRow (.inr HB4.o.size) CS).below
 have HTAIL:=zaa TAIL
 clear TAIL hKK
 refine(show∀A0:Act,A0=_→Code.wp Tryz.prog _ _ A0 _ from fun A0 hA0=>?_) _ rfl
 have hsz:A0.tmps.size=14:=by rw[hA0];rfl
 have hdf:A0.defers=[]:=by rw[hA0]
 have v1:A0.eval (.tmp 1)=.pointer (some ⟨w1.heap.size,0,none⟩):=by rw[hA0];rfl
 clear hA0
 refine zef (fun w'=>newR w w1.heap.size g c w') [5,6,7,8,4,9,10,11,11] (zll w.heap.size w1.heap.size g c s) (by kernel_rfl) (by kernel_rfl) (by kernel_rfl) (HR1.o.below (Below.refl _ _).drew) ⟨?_,?_,?_,?_,?_,?_,?_,?_,?_,trivial⟩ ?_
 ·intro a w' hF hR hp
  have z1:=(hF.other 1 rfl).trans v1
  exact zah _ rfl rfl (by revert z1;generalize a.eval=ρ;intro z1;simp only[execOp];go_simp) hF hsz hR rfl
 ·intro a w' hF hR hp
  have p5:a.eval (.tmp 5)=.pointer (some ⟨w1.heap.size,0,none⟩):=hp ⟨0,.data⟩ (by simp) rfl
  have c0:w'.cell? ⟨w1.heap.size,0,none⟩=some (.slice (some ⟨g,0,none⟩) 37 c):=(zfo hR.2.1).1.1
  exact zah _ rfl rfl (by revert p5;generalize a.eval=ρ;intro p5;simp only[execOp];go_simp) hF hsz hR rfl
 ·intro a w' hF hR hp
  exact zah _ rfl rfl (by have pc0:=Act.eval_const a (.int .i64 1);revert pc0;generalize a.eval=ρ;intro pc0;simp only[execOp];go_simp) hF hsz hR rfl
 ·intro a w' hF hR hp
  have p7:a.eval (.tmp 7)=.agg #[.int .i64 1,.int .i64 1,.int .i64 0,.slice none 0 0,.slice none 0 0]:=hp ⟨2,.data⟩ (by simp) rfl
  refine zbo 70 #[.agg #[.int .i64 1,.int .i64 1,.int .i64 0,.slice none 0 0,.slice none 0 0]] rfl rfl (by have pf:=Act.eval_func a 70;revert p7 pf;generalize a.eval=ρ;intro p7 pf;simp only[execOp];go_simp) _ (stampEncode_any _ (superMk 0 1) _ ⟨none,0,none,0,rfl,.inl rfl,.inl rfl,Nat.zero_le _,Nat.zero_le _⟩) ?_
  rintro e w2 ⟨rfl,hb2⟩
  refine⟨_,rfl,_,rfl,hR.below hb2,?_,zqs hb2⟩
  show zll _ _ _ _ _ _ ((a.put (some 8) _).eval (.tmp 8)) w2
  rw[zal hF hsz (by decide)]
  rw[HS.o,z1z]
  exact rfl
 ·intro a w' hF hR hp
  have p8:a.eval (.tmp 8)=.tuple #[.string s,.int .i64 0]:=hp ⟨3,.data⟩ (by simp) rfl
  exact zah _ rfl rfl (by revert p8;generalize a.eval=ρ;intro p8;simp only[execOp];go_simp) hF hsz hR rfl
 ·intro a w' hF hR hp
  have p4:a.eval (.tmp 4)=.tuple #[.string s,.int .i64 0]:=hp ⟨4,.data⟩ (by simp) rfl
  exact zah _ rfl rfl (by revert p4;generalize a.eval=ρ;intro p4;simp only[execOp];go_simp) hF hsz hR rfl
 ·intro a w' hF hR hp
  have p4:a.eval (.tmp 4)=.tuple #[.string s,.int .i64 0]:=hp ⟨4,.data⟩ (by simp) rfl
  exact zah _ rfl rfl (by revert p4;generalize a.eval=ρ;intro p4;simp only[execOp];go_simp) hF hsz hR rfl
 ·intro a w' hF hR hp
  have p6:a.eval (.tmp 6)=.slice (some ⟨g,0,none⟩) 37 c:=hp ⟨1,.data⟩ (by simp) rfl
  exact zah _ rfl rfl (by have pc0:=Act.eval_const a (.int .i64 0);revert p6 pc0;generalize a.eval=ρ;intro p6 pc0;simp only[execOp];go_simp) hF hsz hR rfl
 ·intro a w' hF hR hp
  have p9:a.eval (.tmp 9)=.string s:=hp ⟨5,.data⟩ (by simp) rfl
  have p11:a.eval (.tmp 11)=.pointer (some ⟨g,0,none⟩):=hp ⟨7,.data⟩ (by simp) rfl
  obtain⟨hRb,hRd,t,hRo⟩:=hR
  have hcW:w'.cell? ⟨g,0,none⟩=some (.string t):=by rw[hRo.cellAt 0 (by decide)];rfl
  have hfW:w'.frozen? ⟨g,0,none⟩=false:=hRo.frozenAt 0
  have hst:=(hRo.stored 0 (.string s)).1
  have hst2:(w'.setCell ⟨g,0,none⟩ (.string s)).ownsRow w.heap.size 9 1 (.slice (some ⟨g,0,none⟩) 37 c) 37 (cellsS (s::List.replicate 36 (fitT ⟨#[]⟩))):=hst
  refine zcg rfl rfl (w':=w'.setCell ⟨g,0,none⟩ (.string s)) (by revert p9 p11;generalize a.eval=ρ;intro p9 p11;simp only[execOp];go_simp) ⟨_,rfl,⟨hRb.setCell (p:=⟨g,0,none⟩) hg1 _,(Below.heap_setCell _ _ _ _ (by simp only;omega)).trans hRd,s,hst2⟩,?_,zwe⟩
  show zll _ _ _ _ _ _ _ _
  exact hst2
 ·intro a W hF hR hp
  have hst:W.ownsRow w.heap.size 9 1 (.slice (some ⟨g,0,none⟩) 37 c) 37 (cellsS (s::List.replicate 36 (fitT ⟨#[]⟩))):=hp 8 (by decide)
  have hsa:a.tmps.size=14:=hF.size.trans hsz
  have f1:a.eval (.tmp 1)=.pointer (some ⟨w1.heap.size,0,none⟩):=(hF.other 1 rfl).trans v1
  have hlit:a=⟨#[_,_,_,_,_,_,_,_,_,_,_,_,_,_],[]⟩:=zcd a 14 hsa (hF.defers.trans hdf)
  dsimp only at hlit
  rw[f1] at hlit
  show KK a _
  exact(congrArg (fun x=>KK x _) hlit).mpr (HTAIL.o (a.eval (.tmp 0)) (a.eval (.tmp 2)) (a.eval (.tmp 3)) (a.eval (.tmp 4)) (a.eval (.tmp 5)) (a.eval (.tmp 6)) (a.eval (.tmp 7)) (a.eval (.tmp 8)) (a.eval (.tmp 9)) (a.eval (.tmp 10)) (a.eval (.tmp 11)) (a.eval (.tmp 12)) (a.eval (.tmp 13)) W hst hR.1 hR.2.1)
theorem Move.acts {j:Jn}{a:Ac}{j':Jn}{r:Rp}(m:Move j a j' r):j'.acts=j.acts:=by
 cases m with
 |last hk s hs he=>
  rw[zbt]
  split
  ·rfl
  split
  ·rfl
  split
  ·rfl
  ·rfl
 |_=>rfl
theorem z10 {j:Jn}{D:Dk}(h:Md j D)(a:Ac)(h0:0≤j.acts)(h1:j.acts≤400):
  (400≤j.acts∧doJ j a=(j,zap 11))∨(j.acts<400∧(doJ j a).1.acts=j.acts+1∧∃D',Md (doJ j a).1 D'∧Trans {j with acts:=j.acts+1} D a (doJ j a).1 (doJ j a).2 D'):=by
 by_cases hf:400≤j.acts
 ·exact .inl ⟨hf,by rw[doJ,if_pos hf]⟩
 ·have e:doJ j a=doneJ {j with acts:=j.acts+1} a:=by rw[doJ,if_neg hf]
  have m:=zpo {j with acts:=j.acts+1} a
  rw[e]
  refine .inr ⟨by omega,m.acts,(h.bump (x:=j.acts+1) (by omega)).move m (fun hk hs=>?_)⟩
  show j.now.seq≤j.acts+1
  cases h with
  |idle p hs hz hD ht hq=>exact p.seq
  |commit P U k p hw hk hs hD ht he hse hrh hru hq hN=>exact p.seq
  |check k p hw hz hk hs hD ht hq=>exact p.seq
  |off l N P U p hs hf hD ht=>rw[p.now];show(0:Int)≤_;omega
  |back U k p hw hk hs hD ht=>rw[p.now];show(0:Int)≤_;omega
theorem zzl:Tells z1k [] 1 0 0:=by
 have hg:zat z1k=true:=by kernel_rfl
 refine zpu hg rfl (by kernel_rfl) z1z (fun n h1 h2=>?_)
 have hr:zai z1k n=fitT ⟨#[]⟩:=by
  rw[z1k,zf7 hg (by omega)]
  obtain⟨m,rfl⟩:∃m,n=m+1:=⟨n - 1,by omega⟩
  rw[List.getD_cons_succ,List.getD,List.getElem?_replicate,if_pos (by omega)]
  rfl
 rw[hr]
 intro he
 rw[zzk] at he
 cases he
theorem z3o:Md zzs z1k:=.idle ⟨rfl,zn4 (by decide) (by decide),by decide,rfl,rfl,fun hb=>by cases hb⟩ rfl rfl rfl zzl rfl
theorem Md.ready {j:Jn}{D:Dk}(h:Md j D)(h0:0≤j.acts)(h1:j.acts≤400):Ready j:=by
 have wrp:∀x:Int, -10≤x→x≤1000→IntKind.i64.wrap x=x:=fun x _ _=>by rw[IntKind.wrap_i64];omega
 have pw:∀{l:List Tx} {N P U:Int},Pow j→j.done.length≤24→j.now.seq≤j.last+2→j.last+1≤j.now.seq→0≤j.last→0≤j.ru→j.ru≤24→Ready j:=by
  intro _ _ _ _ p hd hq hq2 hl hu0 hu1
  have hs:=zaq p.good
  have hsq:=p.seq
  refine⟨by omega,by rw[p.fL];exact Nat.zero_le _,by rw[p.fN];exact wrp _ (by omega) (by omega),wrp _ (by omega) (by omega),wrp _ (by omega) (by omega),by omega,by omega,(fun hd2=>by rw[p.up] at hd2;cases hd2),hu0,hu1,h0,h1⟩
 have len:∀{N P U:Int},Tells D (j.done.map zdu) N P U→j.done.length≤24:=by
  intro N P U ht
  have h5:=znk D
  rw[ht.tL,List.length_map] at h5
  exact h5
 have dn:∀{N:Int},Dn j N→j.fL.length≤24→ -1≤j.fN→j.fN≤402→(j.steps=[]→∀t∈fndL j.disk,Few t)→Ready j:=by
  intro N p hf hf0 hf1 hfew
  have h5:=p.lo
  have h6:=p.seq
  have h7:=p.last0
  refine⟨by rw[p.done];exact Nat.zero_le _,by unfold maxLen;omega,wrp _ (by omega) (by omega),by rw[p.now];exact wrp _ (by decide) (by decide),wrp _ (by omega) (by omega),by rw[p.now];decide,by rw[p.now];decide,fun _=>hfew,by rw[p.ru];exact Int.le_refl _,by rw[p.ru];decide,h0,h1⟩
 cases h with
 |idle p hs hz hD ht hq=>have:=ht.range;exact pw (l:=[]) (N:=0) (P:=0) (U:=0) p (len ht) (by omega) (by omega) (by omega) (by omega) (by omega)
 |commit P U k p hw hk hs hD ht he hse hrh hru hq hN=>
  have:=ht.range
  obtain⟨_,hg,_,hU0,hUn⟩:=zbu he
  have hn:=zeb j.sealed (zaq hg).1 (zaq hg).2.2
  have hUU:zb4 P U j.sealed=U+needN j.sealed.info.length j.sealed.rev.length:=by
   have h5:=he
   unfold sealE at h5
   split at h5
   ·cases h5
   ·rw[zb4,if_pos he,takeU,if_pos h5]
  exact pw (l:=[]) (N:=0) (P:=0) (U:=0) p (len ht) (by omega) (by omega) (by omega) (by omega) (by omega)
 |check k p hw hz hk hs hD ht hq=>have:=ht.range;exact pw (l:=[]) (N:=0) (P:=0) (U:=0) p (len ht) (by omega) (by omega) (by omega) (by omega) (by omega)
 |off l N P U p hs hf hD ht=>
  refine dn p (by rw[hf.1];exact Nat.zero_le _) (by omega) (by omega) (fun _ t ht2=>z0w (ht.goods t ?_))
  rwa [hD,ht.tL] at ht2
 |back U k p hw hk hs hD ht=>
  have h5:=ht.range
  have h6:=p.seq
  refine dn p (by have h7:=znk D;rwa [ht.tL] at h7) (by omega) (by omega) (fun hs2=>?_)
  rw[hs2] at hs
  have:=congrArg List.length hs
  rw[List.length_drop] at this
  simp at this
  omega
def PJ (j:Jn):Prop:=∃D,Md j D∧0≤j.acts∧j.acts≤400
theorem PJ.ready {j:Jn}(h:PJ j):Ready j:=by
 obtain⟨D,h1,h2,h3⟩:=h
 exact h1.ready h2 h3
theorem PJ.do {j:Jn}(h:PJ j)(a:Ac):PJ (doJ j a).1:=by
 obtain⟨D,h1,h2,h3⟩:=h
 rcases z10 h1 a h2 h3 with⟨h4,h5⟩|⟨h4,h5,D',h6,_⟩
 ·rw[h5];exact⟨D,h1,h2,h3⟩
 ·exact⟨D',h6,by omega,by omega⟩
theorem PJ.new:PJ zzs:=⟨z1k,z3o,by decide,by decide⟩
def al1:Jn:=(doJ zzs ⟨1,0,0,2,⟨#[]⟩⟩).1
def al2:Jn:=(doJ al1 ⟨2,0,3,0,⟨#[120]⟩⟩).1
def al3:Jn:=(doJ al2 ⟨9,0,3,0,⟨#[]⟩⟩).1
theorem z3p:(doJ zzs ⟨1,0,0,2,⟨#[]⟩⟩).2.code=0:=by kernel_rfl
theorem z3q:(doJ al1 ⟨2,0,3,0,⟨#[120]⟩⟩).2.code=0:=by kernel_rfl
theorem z11:(doJ al2 ⟨9,0,3,0,⟨#[]⟩⟩).2.n=1∧(doJ al2 ⟨9,0,3,0,⟨#[]⟩⟩).2.text=fitT ⟨#[120]⟩:=⟨by kernel_rfl,by kernel_rfl⟩
theorem z3r:(doJ al3 ⟨6,0,0,0,⟨#[]⟩⟩).2.code=9:=by kernel_rfl
def zdw (R1:Nat)(R2:Nat)(R3:Nat)(R4:Nat)(z:ByteArray):Nat→Value→World→Prop
 |0,v,_=>v=.pointer (some ⟨R1,0,none⟩)
 |1,v,_=>v=.int .i64 0
 |2,v,_=>v=.bool true
 |3,v,_=>v=.bool true
 |4,v,_=>v=.pointer (some ⟨R2,0,none⟩)
 |5,v,_=>v=.int .i64 0
 |6,v,_=>v=.bool true
 |7,v,_=>v=.bool true
 |8,v,_=>v=.bool true
 |9,v,_=>v=.pointer (some ⟨R3,2,none⟩)
 |10,v,_=>v=.string z
 |11,v,_=>v=.string z
 |12,v,_=>v=.bool true
 |13,v,_=>v=.bool true
 |14,v,_=>v=.bool true
 |15,v,_=>v=.pointer (some ⟨R3,1,none⟩)
 |16,v,_=>v=.int .i64 1
 |17,v,_=>v=.bool true
 |18,v,_=>v=.bool true
 |19,v,_=>v=.bool true
 |20,v,_=>v=.pointer (some ⟨R4,0,none⟩)
 |21,v,_=>v=.int .i64 9
 |22,v,_=>v=.bool true
 |23,v,_=>v=.bool true
 |24,v,_=>v=.bool true
 |_,_,_=>True
theorem zqt {R1:Nat}{R2:Nat}{R3:Nat}{R4:Nat}{z:ByteArray}{w w':World}(_hb:Below w.heap.size w w'){i:Nat}:∀kk uu,kk≠i→zdw R1 R2 R3 R4 z kk uu w→zdw R1 R2 R3 R4 z kk uu w':=by
 intro kk uu _ h
 match kk,h with
 |0,h|1,h|2,h|3,h|4,h|5,h|6,h|7,h|8,h|9,h|10,h|11,h|12,h|13,h|14,h|15,h|16,h|17,h|18,h|19,h|20,h|21,h|22,h|23,h|24,h=>exact h
 |_+25,_=>exact trivial
theorem zzm (w:World):Calls Tryz.prog 39 #[] w fun e w'=>e=.returned (.bool true)∧Below w.heap.size w w':=by
 obtain⟨z,hz⟩:∃z,z=fitT ⟨#[120]⟩:=⟨_,rfl⟩
 have HZ:=zaa hz
 clear hz
 go_enter Tryz.func39,Tryz.ntmps39
 go_wp2_with fail
 refine(ztv _).mono ?_
 rintro e w1 ⟨B,rfl,hB0,hJ,hbn⟩
 have HJ0:=zaa (hJ [] (by simp))
 have hBl:B<w1.heap.size:=HJ0.o.lt
 have HBW0:=zaa hbn
 have hs0:w.heap.size≤w1.heap.size:=hbn.size
 have HP0:=zaa PJ.new
 have HF0:Hid (∀P,P=doJ zzs ⟨1,0,0,2,⟨#[]⟩⟩→P.2.code=0∧∀j1,j1=P.1→∀P,P=doJ j1 ⟨2,0,3,0,⟨#[120]⟩⟩→P.2.code=0∧∀j2,j2=P.1→∀P,P=doJ j2 ⟨9,0,3,0,⟨#[]⟩⟩→P.2.n=1∧P.2.text=z∧∀j3,j3=P.1→∀P,P=doJ j3 ⟨6,0,0,0,⟨#[]⟩⟩→P.2.code=9∧True):=by
  rintro P rfl
  refine⟨z3p,?_⟩
  rintro j1 rfl P rfl
  refine⟨z3q,?_⟩
  rintro j2 rfl P rfl
  refine⟨z11.1,z11.2.trans HZ.o.symm,?_⟩
  rintro j3 rfl P rfl
  exact⟨z3r,trivial⟩
 clear hJ hbn
 obtain⟨j0,hj0⟩:∃j0,j0=zzs:=⟨_,rfl⟩
 rw[←hj0] at HJ0 HP0 HF0
 clear hj0
 go_wp2_with fail
 refine(zi9 B [B] j0 w1 HJ0.o (fun x hx=>by rw[List.mem_singleton.1 hx];omega) HP0.o.ready ⟨1,0,0,2,⟨#[]⟩⟩ (by decide) (by decide)).mono ?_
 rintro e w0b ⟨rfl,hJ,hB⟩
 obtain⟨P,hP⟩:∃P,P=doJ j0 ⟨1,0,0,2,⟨#[]⟩⟩:=⟨_,rfl⟩
 have HP1:Hid (PJ P.1):=by rw[hP];exact HP0.o.do _
 have HQ0:=zaa (HF0.o P hP)
 rw[←hP] at hJ⊢
 have hvr:vRp P.2=.agg #[.int .i64 0,.int .i64 P.2.n,.string P.2.text]:=by
  show Value.agg #[.int .i64 P.2.code,.int .i64 P.2.n,.string P.2.text]=_
  rw[HQ0.o.1]
 rw[hvr]
 obtain⟨j1,hj1⟩:∃x,x=P.1:=⟨_,rfl⟩
 rw[←hj1] at HP1 hJ
 have HF1:=zaa (HQ0.o.2 j1 hj1)
 clear hj1 hvr
 generalize P.2.n=n1 at *
 generalize P.2.text=t1 at *
 generalize P.2.code=c1 at *
 clear hP
 have hbs:w1.heap.size≤w0b.heap.size:=hB.size
 have HBB0:Hid (Below w.heap.size w w0b):=by
  have hx:=HBW0.o
  exact⟨hB.os.trans hx.os,hB.tape.trans hx.tape,hB.output.trans hx.output,Nat.le_trans hx.size hB.size,fun q hq=>(hB.block q (by have:=hx.size;omega) (by simp;omega)).trans (hx.block q hq)⟩
 go_wp2_with fail
 obtain⟨W1,hW⟩:∃W,W=w0b.alloc (.cells #[.int .i64 0,.int .i64 n1,.string t1] 31):=⟨_,rfl⟩
 rw[←hW]
 have hbn:Below w0b.heap.size w0b W1:=by rw[hW];exact below1 _ _
 have HJ1:=zaa (hJ.below hbn)
 have HBW1:=zaa (zad HBB0.o hbn)
 have hsz1:W1.heap.size=w0b.heap.size+1:=by rw[hW];simp
 have KR0:Hid (W1.heap[w0b.heap.size]?=some (.cells #[.int .i64 0,.int .i64 n1,.string t1] 31 (0,0))):=by rw[hW];exact heap_alloc_new _ _
 clear hW hbn hJ hB HBB0 HBW0
 refine(zi9 B [B] j1 W1 HJ1.o (fun x hx=>by rw[List.mem_singleton.1 hx];omega) HP1.o.ready ⟨2,0,3,0,⟨#[120]⟩⟩ (by decide) (by decide)).mono ?_
 rintro e w1b ⟨rfl,hJ,hB⟩
 obtain⟨P,hP⟩:∃P,P=doJ j1 ⟨2,0,3,0,⟨#[120]⟩⟩:=⟨_,rfl⟩
 have HP2:Hid (PJ P.1):=by rw[hP];exact HP1.o.do _
 have HQ1:=zaa (HF1.o P hP)
 rw[←hP] at hJ⊢
 have hvr:vRp P.2=.agg #[.int .i64 0,.int .i64 P.2.n,.string P.2.text]:=by
  show Value.agg #[.int .i64 P.2.code,.int .i64 P.2.n,.string P.2.text]=_
  rw[HQ1.o.1]
 rw[hvr]
 obtain⟨j2,hj2⟩:∃x,x=P.1:=⟨_,rfl⟩
 rw[←hj2] at HP2 hJ
 have HF2:=zaa (HQ1.o.2 j2 hj2)
 clear hj2 hvr
 generalize P.2.n=n2 at *
 generalize P.2.text=t2 at *
 generalize P.2.code=c2 at *
 clear hP
 have hbs:W1.heap.size≤w1b.heap.size:=hB.size
 have KR0b:=zaa ((hB.block _ (by omega) (by simp;omega)).trans KR0.o)
 clear KR0
 have KR0:=KR0b
 clear KR0b
 have HBB1:Hid (Below w.heap.size w w1b):=by
  have hx:=HBW1.o
  exact⟨hB.os.trans hx.os,hB.tape.trans hx.tape,hB.output.trans hx.output,Nat.le_trans hx.size hB.size,fun q hq=>(hB.block q (by have:=hx.size;omega) (by simp;omega)).trans (hx.block q hq)⟩
 go_wp2_with fail
 obtain⟨W2,hW⟩:∃W,W=w1b.alloc (.cells #[.int .i64 0,.int .i64 n2,.string t2] 31):=⟨_,rfl⟩
 rw[←hW]
 have hbn:Below w1b.heap.size w1b W2:=by rw[hW];exact below1 _ _
 have HJ2:=zaa (hJ.below hbn)
 have HBW2:=zaa (zad HBB1.o hbn)
 have hsz2:W2.heap.size=w1b.heap.size+1:=by rw[hW];simp
 have KR1:Hid (W2.heap[w1b.heap.size]?=some (.cells #[.int .i64 0,.int .i64 n2,.string t2] 31 (0,0))):=by rw[hW];exact heap_alloc_new _ _
 have KR0b:=zaa (zac hbn (by omega) KR0.o)
 clear KR0
 have KR0:=KR0b
 clear KR0b
 clear hW hbn hJ hB HBB1 HBW1
 refine(zi9 B [B] j2 W2 HJ2.o (fun x hx=>by rw[List.mem_singleton.1 hx];omega) HP2.o.ready ⟨9,0,3,0,⟨#[]⟩⟩ (by decide) (by decide)).mono ?_
 rintro e w2b ⟨rfl,hJ,hB⟩
 obtain⟨P,hP⟩:∃P,P=doJ j2 ⟨9,0,3,0,⟨#[]⟩⟩:=⟨_,rfl⟩
 have HP3:Hid (PJ P.1):=by rw[hP];exact HP2.o.do _
 have HQ2:=zaa (HF2.o P hP)
 rw[←hP] at hJ⊢
 have hvr:vRp P.2=.agg #[.int .i64 P.2.code,.int .i64 1,.string z]:=by
  show Value.agg #[.int .i64 P.2.code,.int .i64 P.2.n,.string P.2.text]=_
  rw[HQ2.o.1,HQ2.o.2.1]
 rw[hvr]
 obtain⟨j3,hj3⟩:∃x,x=P.1:=⟨_,rfl⟩
 rw[←hj3] at HP3 hJ
 have HF3:=zaa (HQ2.o.2.2 j3 hj3)
 clear hj3 hvr
 generalize P.2.n=n3 at *
 generalize P.2.text=t3 at *
 generalize P.2.code=c3 at *
 clear hP
 have hbs:W2.heap.size≤w2b.heap.size:=hB.size
 have KR0b:=zaa ((hB.block _ (by omega) (by simp;omega)).trans KR0.o)
 clear KR0
 have KR0:=KR0b
 clear KR0b
 have KR1b:=zaa ((hB.block _ (by omega) (by simp;omega)).trans KR1.o)
 clear KR1
 have KR1:=KR1b
 clear KR1b
 have HBB2:Hid (Below w.heap.size w w2b):=by
  have hx:=HBW2.o
  exact⟨hB.os.trans hx.os,hB.tape.trans hx.tape,hB.output.trans hx.output,Nat.le_trans hx.size hB.size,fun q hq=>(hB.block q (by have:=hx.size;omega) (by simp;omega)).trans (hx.block q hq)⟩
 go_wp2_with fail
 obtain⟨W3,hW⟩:∃W,W=w2b.alloc (.cells #[.int .i64 c3,.int .i64 1,.string z] 31):=⟨_,rfl⟩
 rw[←hW]
 have hbn:Below w2b.heap.size w2b W3:=by rw[hW];exact below1 _ _
 have HJ3:=zaa (hJ.below hbn)
 have HBW3:=zaa (zad HBB2.o hbn)
 have hsz3:W3.heap.size=w2b.heap.size+1:=by rw[hW];simp
 have KR2:Hid (W3.heap[w2b.heap.size]?=some (.cells #[.int .i64 c3,.int .i64 1,.string z] 31 (0,0))):=by rw[hW];exact heap_alloc_new _ _
 have KR0b:=zaa (zac hbn (by omega) KR0.o)
 clear KR0
 have KR0:=KR0b
 clear KR0b
 have KR1b:=zaa (zac hbn (by omega) KR1.o)
 clear KR1
 have KR1:=KR1b
 clear KR1b
 clear hW hbn hJ hB HBB2 HBW2
 refine(zi9 B [B] j3 W3 HJ3.o (fun x hx=>by rw[List.mem_singleton.1 hx];omega) HP3.o.ready ⟨6,0,0,0,⟨#[]⟩⟩ (by decide) (by decide)).mono ?_
 rintro e w3b ⟨rfl,hJ,hB⟩
 obtain⟨P,hP⟩:∃P,P=doJ j3 ⟨6,0,0,0,⟨#[]⟩⟩:=⟨_,rfl⟩
 have HP4:Hid (PJ P.1):=by rw[hP];exact HP3.o.do _
 have HQ3:=zaa (HF3.o P hP)
 rw[←hP] at hJ⊢
 have hvr:vRp P.2=.agg #[.int .i64 9,.int .i64 P.2.n,.string P.2.text]:=by
  show Value.agg #[.int .i64 P.2.code,.int .i64 P.2.n,.string P.2.text]=_
  rw[HQ3.o.1]
 rw[hvr]
 obtain⟨j4,hj4⟩:∃x,x=P.1:=⟨_,rfl⟩
 rw[←hj4] at HP4 hJ
 clear hj4 hvr
 generalize P.2.n=n4 at *
 generalize P.2.text=t4 at *
 generalize P.2.code=c4 at *
 clear hP
 have hbs:W3.heap.size≤w3b.heap.size:=hB.size
 have KR0b:=zaa ((hB.block _ (by omega) (by simp;omega)).trans KR0.o)
 clear KR0
 have KR0:=KR0b
 clear KR0b
 have KR1b:=zaa ((hB.block _ (by omega) (by simp;omega)).trans KR1.o)
 clear KR1
 have KR1:=KR1b
 clear KR1b
 have KR2b:=zaa ((hB.block _ (by omega) (by simp;omega)).trans KR2.o)
 clear KR2
 have KR2:=KR2b
 clear KR2b
 have HBB3:Hid (Below w.heap.size w w3b):=by
  have hx:=HBW3.o
  exact⟨hB.os.trans hx.os,hB.tape.trans hx.tape,hB.output.trans hx.output,Nat.le_trans hx.size hB.size,fun q hq=>(hB.block q (by have:=hx.size;omega) (by simp;omega)).trans (hx.block q hq)⟩
 go_wp2
 rename_i KK hKK
 obtain⟨W4,hW⟩:∃W,W=w3b.alloc (.cells #[.int .i64 9,.int .i64 n4,.string t4] 31):=⟨_,rfl⟩
 rw[←hW]
 have hbn:Below w3b.heap.size w3b W4:=by rw[hW];exact below1 _ _
 have HJ4:=zaa (hJ.below hbn)
 have HBW4:=zaa (zad HBB3.o hbn)
 have hsz4:W4.heap.size=w3b.heap.size+1:=by rw[hW];simp
 have KR3:Hid (W4.heap[w3b.heap.size]?=some (.cells #[.int .i64 9,.int .i64 n4,.string t4] 31 (0,0))):=by rw[hW];exact heap_alloc_new _ _
 have KR0b:=zaa (zac hbn (by omega) KR0.o)
 clear KR0
 have KR0:=KR0b
 clear KR0b
 have KR1b:=zaa (zac hbn (by omega) KR1.o)
 clear KR1
 have KR1:=KR1b
 clear KR1b
 have KR2b:=zaa (zac hbn (by omega) KR2.o)
 clear KR2
 have KR2:=KR2b
 clear KR2b
 clear hW hbn hJ hB HBB3 HBW3
 obtain⟨R1,hR1⟩:∃x,x=w0b.heap.size:=⟨_,rfl⟩
 obtain⟨R2,hR2⟩:∃x,x=w1b.heap.size:=⟨_,rfl⟩
 obtain⟨R3,hR3⟩:∃x,x=w2b.heap.size:=⟨_,rfl⟩
 obtain⟨R4,hR4⟩:∃x,x=w3b.heap.size:=⟨_,rfl⟩
 obtain⟨W,hW⟩:∃x,x=W4:=⟨_,rfl⟩
 rw[←hR1] at KR0
 rw[←hR2] at KR1
 rw[←hR3] at KR2
 rw[←hR4] at KR3
 rw[←hW] at KR0 KR1 KR2 KR3 HBW4
 rw[←hR1,←hR2,←hR3,←hR4,←hW]
 have C00:Hid (W.cell? ⟨R1,0,none⟩=some (.int .i64 0)):=(cell_of_row W _ 0 _ _ _ KR0.o).trans rfl
 have C01:Hid (W.cell? ⟨R1,1,none⟩=some (.int .i64 n1)):=(cell_of_row W _ 1 _ _ _ KR0.o).trans rfl
 have C02:Hid (W.cell? ⟨R1,2,none⟩=some (.string t1)):=(cell_of_row W _ 2 _ _ _ KR0.o).trans rfl
 have C10:Hid (W.cell? ⟨R2,0,none⟩=some (.int .i64 0)):=(cell_of_row W _ 0 _ _ _ KR1.o).trans rfl
 have C11:Hid (W.cell? ⟨R2,1,none⟩=some (.int .i64 n2)):=(cell_of_row W _ 1 _ _ _ KR1.o).trans rfl
 have C12:Hid (W.cell? ⟨R2,2,none⟩=some (.string t2)):=(cell_of_row W _ 2 _ _ _ KR1.o).trans rfl
 have C20:Hid (W.cell? ⟨R3,0,none⟩=some (.int .i64 c3)):=(cell_of_row W _ 0 _ _ _ KR2.o).trans rfl
 have C21:Hid (W.cell? ⟨R3,1,none⟩=some (.int .i64 1)):=(cell_of_row W _ 1 _ _ _ KR2.o).trans rfl
 have C22:Hid (W.cell? ⟨R3,2,none⟩=some (.string z)):=(cell_of_row W _ 2 _ _ _ KR2.o).trans rfl
 have C30:Hid (W.cell? ⟨R4,0,none⟩=some (.int .i64 9)):=(cell_of_row W _ 0 _ _ _ KR3.o).trans rfl
 have C31:Hid (W.cell? ⟨R4,1,none⟩=some (.int .i64 n4)):=(cell_of_row W _ 1 _ _ _ KR3.o).trans rfl
 have C32:Hid (W.cell? ⟨R4,2,none⟩=some (.string t4)):=(cell_of_row W _ 2 _ _ _ KR3.o).trans rfl
 have hR1l:R1<W.heap.size:=(Array.getElem?_eq_some_iff.1 KR0.o).1
 have hR2l:R2<W.heap.size:=(Array.getElem?_eq_some_iff.1 KR1.o).1
 have hR3l:R3<W.heap.size:=(Array.getElem?_eq_some_iff.1 KR2.o).1
 have hR4l:R4<W.heap.size:=(Array.getElem?_eq_some_iff.1 KR3.o).1
 clear hR1 hR2 hR3 hR4 hW
 have hR1:=hR1l
 have hR2:=hR2l
 have hR3:=hR3l
 have hR4:=hR4l
 have TAIL:∀(g:Nat→Value) (W':World),Below W.heap.size W W'→KK ⟨#[.bool true,g 1,g 2,g 3,g 4,g 5,g 6,g 7,g 8,g 9,g 10,g 11,g 12,g 13,g 14,g 15,g 16,g 17,g 18,g 19,g 20,g 21,g 22,g 23,g 24,g 25,g 26,g 27,g 28,g 29,g 30,g 31,g 32,g 33,g 34,g 35,g 36,g 37,g 38,g 39,g 40,g 41,g 42,g 43,g 44],[]⟩ W':=by
  intro g W' hb
  apply hKK
  clear hKK
  go_wp2
  go_ret
  exact⟨rfl,zad HBW4.o hb⟩
 have HTAIL:=zaa TAIL
 clear TAIL hKK
 refine(show∀A0:Act,A0=_→Code.wp Tryz.prog _ _ A0 _ from fun A0 hA0=>?_) _ rfl
 have hsz:A0.tmps.size=45:=by rw[hA0];rfl
 have hdf:A0.defers=[]:=by rw[hA0]
 have v2:A0.eval (.tmp 2)=.pointer (some ⟨R1,0,none⟩):=by rw[hA0];rfl
 have v3:A0.eval (.tmp 3)=.pointer (some ⟨R2,0,none⟩):=by rw[hA0];rfl
 have v4:A0.eval (.tmp 4)=.pointer (some ⟨R3,0,none⟩):=by rw[hA0];rfl
 have v5:A0.eval (.tmp 5)=.pointer (some ⟨R4,0,none⟩):=by rw[hA0];rfl
 clear hA0
 refine zef (fun w'=>Below W.heap.size W w') [21,22,23,24,25,26,27,28,29,30,31,32,33,34,35,36,37,38,39,40,41,42,43,44,0] (zdw R1 R2 R3 R4 z) (by kernel_rfl) (by kernel_rfl) (by kernel_rfl) ((Below.refl _ _).drew) ⟨?_,?_,?_,?_,?_,?_,?_,?_,?_,?_,?_,?_,?_,?_,?_,?_,?_,?_,?_,?_,?_,?_,?_,?_,?_,trivial⟩ ?_
 ·intro a w' hF hR hp
  have z2:=(hF.other 2 rfl).trans v2
  exact zah _ rfl rfl (by revert z2;generalize a.eval=ρ;intro z2;simp only[execOp];go_simp) hF hsz hR rfl
 ·intro a w' hF hR hp
  have p21:a.eval (.tmp 21)=.pointer (some ⟨R1,0,none⟩):=hp ⟨0,.data⟩ (by simp) rfl
  have c0:w'.cell? ⟨R1,0,none⟩=some (.int .i64 0):=zab hR hR1 C00.o
  exact zah _ rfl rfl (by revert p21;generalize a.eval=ρ;intro p21;simp only[execOp];go_simp) hF hsz hR rfl
 ·intro a w' hF hR hp
  have p22:a.eval (.tmp 22)=.int .i64 0:=hp ⟨1,.data⟩ (by simp) rfl
  exact zah _ rfl rfl (by have pc0:=Act.eval_const a (.int .i64 0);revert p22 pc0;generalize a.eval=ρ;intro p22 pc0;simp only[execOp];go_simp) hF hsz hR rfl
 ·intro a w' hF hR hp
  have p23:a.eval (.tmp 23)=.bool true:=hp ⟨2,.data⟩ (by simp) rfl
  exact zah _ rfl rfl (by revert p23;generalize a.eval=ρ;intro p23;simp only[execOp];go_simp) hF hsz hR rfl
 ·intro a w' hF hR hp
  have pg:a.eval (.tmp 24)=.bool true:=hp ⟨3,Ground.guard⟩ (by simp) rfl
  have z3:=(hF.other 3 rfl).trans v3
  refine zbv (.pointer (some ⟨R2,0,none⟩)) rfl (zbw (b:=true) rfl rfl pg) (by revert z3;generalize a.eval=ρ;intro z3;simp only[execOp];go_simp) ⟨_,rfl,hR,?_,fun _ _ _ h=>h⟩
  show zdw _ _ _ _ _ _ ((a.put (some 25) _).eval (.tmp 25)) w'
  rw[zal hF hsz (by decide)]
  exact rfl
 ·intro a w' hF hR hp
  have pg:a.eval (.tmp 24)=.bool true:=hp ⟨3,Ground.guard⟩ (by simp) rfl
  have p25:a.eval (.tmp 25)=.pointer (some ⟨R2,0,none⟩):=hp ⟨4,.data⟩ (by simp) rfl
  have c0:w'.cell? ⟨R2,0,none⟩=some (.int .i64 0):=zab hR hR2 C10.o
  refine zbv (.int .i64 0) rfl (zbw (b:=true) rfl rfl pg) (by revert p25;generalize a.eval=ρ;intro p25;simp only[execOp];go_simp) ⟨_,rfl,hR,?_,fun _ _ _ h=>h⟩
  show zdw _ _ _ _ _ _ ((a.put (some 26) _).eval (.tmp 26)) w'
  rw[zal hF hsz (by decide)]
  exact rfl
 ·intro a w' hF hR hp
  have pg:a.eval (.tmp 24)=.bool true:=hp ⟨3,Ground.guard⟩ (by simp) rfl
  have p26:a.eval (.tmp 26)=.int .i64 0:=hp ⟨5,.data⟩ (by simp) rfl
  refine zbv (.bool true) rfl (zbw (b:=true) rfl rfl pg) (by have pc0:=Act.eval_const a (.int .i64 0);revert p26 pc0;generalize a.eval=ρ;intro p26 pc0;simp only[execOp];go_simp) ⟨_,rfl,hR,?_,fun _ _ _ h=>h⟩
  show zdw _ _ _ _ _ _ ((a.put (some 27) _).eval (.tmp 27)) w'
  rw[zal hF hsz (by decide)]
  exact rfl
 ·intro a w' hF hR hp
  have p24:a.eval (.tmp 24)=.bool true:=hp ⟨3,.data⟩ (by simp) rfl
  have p27:a.eval (.tmp 27)=.bool true:=hp ⟨6,.data⟩ (by simp) rfl
  exact zah _ rfl rfl (by revert p24 p27;generalize a.eval=ρ;intro p24 p27;simp only[execOp];go_simp) hF hsz hR rfl
 ·intro a w' hF hR hp
  have p28:a.eval (.tmp 28)=.bool true:=hp ⟨7,.data⟩ (by simp) rfl
  exact zah _ rfl rfl (by revert p28;generalize a.eval=ρ;intro p28;simp only[execOp];go_simp) hF hsz hR rfl
 ·intro a w' hF hR hp
  have pg:a.eval (.tmp 29)=.bool true:=hp ⟨8,Ground.guard⟩ (by simp) rfl
  have z4:=(hF.other 4 rfl).trans v4
  refine zbv (.pointer (some ⟨R3,2,none⟩)) rfl (zbw (b:=true) rfl rfl pg) (by revert z4;generalize a.eval=ρ;intro z4;simp only[execOp];go_simp) ⟨_,rfl,hR,?_,fun _ _ _ h=>h⟩
  show zdw _ _ _ _ _ _ ((a.put (some 30) _).eval (.tmp 30)) w'
  rw[zal hF hsz (by decide)]
  exact rfl
 ·intro a w' hF hR hp
  have pg:a.eval (.tmp 29)=.bool true:=hp ⟨8,Ground.guard⟩ (by simp) rfl
  have p30:a.eval (.tmp 30)=.pointer (some ⟨R3,2,none⟩):=hp ⟨9,.data⟩ (by simp) rfl
  have c0:w'.cell? ⟨R3,2,none⟩=some (.string z):=zab hR hR3 C22.o
  refine zbv (.string z) rfl (zbw (b:=true) rfl rfl pg) (by revert p30;generalize a.eval=ρ;intro p30;simp only[execOp];go_simp) ⟨_,rfl,hR,?_,fun _ _ _ h=>h⟩
  show zdw _ _ _ _ _ _ ((a.put (some 31) _).eval (.tmp 31)) w'
  rw[zal hF hsz (by decide)]
  exact rfl
 ·intro a w' hF hR hp
  have pg:a.eval (.tmp 29)=.bool true:=hp ⟨8,Ground.guard⟩ (by simp) rfl
  refine zvk 25 #[.string ⟨#[120]⟩] rfl (zbw (b:=true) rfl rfl pg) (by have pf:=Act.eval_func a 25;have pc0:=Act.eval_const a (.string ⟨#[120]⟩);revert pf pc0;generalize a.eval=ρ;intro pf pc0;simp only[execOp];go_simp) _ (fit_any ⟨#[120]⟩ _ (by decide)) ?_
  rintro e w2 ⟨rfl,hb2⟩
  refine⟨_,rfl,_,rfl,zad hR hb2,?_,zqt hb2⟩
  show zdw _ _ _ _ _ _ ((a.put (some 32) _).eval (.tmp 32)) w2
  rw[zal hF hsz (by decide)]
  rw[←HZ.o]
  exact rfl
 ·intro a w' hF hR hp
  have pg:a.eval (.tmp 29)=.bool true:=hp ⟨8,Ground.guard⟩ (by simp) rfl
  have p31:a.eval (.tmp 31)=.string z:=hp ⟨10,.data⟩ (by simp) rfl
  have p32:a.eval (.tmp 32)=.string z:=hp ⟨11,.data⟩ (by simp) rfl
  refine zbv (.bool true) rfl (zbw (b:=true) rfl rfl pg) (by revert p31 p32;generalize a.eval=ρ;intro p31 p32;simp only[execOp];go_simp) ⟨_,rfl,hR,?_,fun _ _ _ h=>h⟩
  show zdw _ _ _ _ _ _ ((a.put (some 33) _).eval (.tmp 33)) w'
  rw[zal hF hsz (by decide)]
  exact rfl
 ·intro a w' hF hR hp
  have p29:a.eval (.tmp 29)=.bool true:=hp ⟨8,.data⟩ (by simp) rfl
  have p33:a.eval (.tmp 33)=.bool true:=hp ⟨12,.data⟩ (by simp) rfl
  exact zah _ rfl rfl (by revert p29 p33;generalize a.eval=ρ;intro p29 p33;simp only[execOp];go_simp) hF hsz hR rfl
 ·intro a w' hF hR hp
  have p34:a.eval (.tmp 34)=.bool true:=hp ⟨13,.data⟩ (by simp) rfl
  exact zah _ rfl rfl (by revert p34;generalize a.eval=ρ;intro p34;simp only[execOp];go_simp) hF hsz hR rfl
 ·intro a w' hF hR hp
  have pg:a.eval (.tmp 35)=.bool true:=hp ⟨14,Ground.guard⟩ (by simp) rfl
  have z4:=(hF.other 4 rfl).trans v4
  refine zbv (.pointer (some ⟨R3,1,none⟩)) rfl (zbw (b:=true) rfl rfl pg) (by revert z4;generalize a.eval=ρ;intro z4;simp only[execOp];go_simp) ⟨_,rfl,hR,?_,fun _ _ _ h=>h⟩
  show zdw _ _ _ _ _ _ ((a.put (some 36) _).eval (.tmp 36)) w'
  rw[zal hF hsz (by decide)]
  exact rfl
 ·intro a w' hF hR hp
  have pg:a.eval (.tmp 35)=.bool true:=hp ⟨14,Ground.guard⟩ (by simp) rfl
  have p36:a.eval (.tmp 36)=.pointer (some ⟨R3,1,none⟩):=hp ⟨15,.data⟩ (by simp) rfl
  have c0:w'.cell? ⟨R3,1,none⟩=some (.int .i64 1):=zab hR hR3 C21.o
  refine zbv (.int .i64 1) rfl (zbw (b:=true) rfl rfl pg) (by revert p36;generalize a.eval=ρ;intro p36;simp only[execOp];go_simp) ⟨_,rfl,hR,?_,fun _ _ _ h=>h⟩
  show zdw _ _ _ _ _ _ ((a.put (some 37) _).eval (.tmp 37)) w'
  rw[zal hF hsz (by decide)]
  exact rfl
 ·intro a w' hF hR hp
  have pg:a.eval (.tmp 35)=.bool true:=hp ⟨14,Ground.guard⟩ (by simp) rfl
  have p37:a.eval (.tmp 37)=.int .i64 1:=hp ⟨16,.data⟩ (by simp) rfl
  refine zbv (.bool true) rfl (zbw (b:=true) rfl rfl pg) (by have pc0:=Act.eval_const a (.int .i64 1);revert p37 pc0;generalize a.eval=ρ;intro p37 pc0;simp only[execOp];go_simp) ⟨_,rfl,hR,?_,fun _ _ _ h=>h⟩
  show zdw _ _ _ _ _ _ ((a.put (some 38) _).eval (.tmp 38)) w'
  rw[zal hF hsz (by decide)]
  exact rfl
 ·intro a w' hF hR hp
  have p35:a.eval (.tmp 35)=.bool true:=hp ⟨14,.data⟩ (by simp) rfl
  have p38:a.eval (.tmp 38)=.bool true:=hp ⟨17,.data⟩ (by simp) rfl
  exact zah _ rfl rfl (by revert p35 p38;generalize a.eval=ρ;intro p35 p38;simp only[execOp];go_simp) hF hsz hR rfl
 ·intro a w' hF hR hp
  have p39:a.eval (.tmp 39)=.bool true:=hp ⟨18,.data⟩ (by simp) rfl
  exact zah _ rfl rfl (by revert p39;generalize a.eval=ρ;intro p39;simp only[execOp];go_simp) hF hsz hR rfl
 ·intro a w' hF hR hp
  have pg:a.eval (.tmp 40)=.bool true:=hp ⟨19,Ground.guard⟩ (by simp) rfl
  have z5:=(hF.other 5 rfl).trans v5
  refine zbv (.pointer (some ⟨R4,0,none⟩)) rfl (zbw (b:=true) rfl rfl pg) (by revert z5;generalize a.eval=ρ;intro z5;simp only[execOp];go_simp) ⟨_,rfl,hR,?_,fun _ _ _ h=>h⟩
  show zdw _ _ _ _ _ _ ((a.put (some 41) _).eval (.tmp 41)) w'
  rw[zal hF hsz (by decide)]
  exact rfl
 ·intro a w' hF hR hp
  have pg:a.eval (.tmp 40)=.bool true:=hp ⟨19,Ground.guard⟩ (by simp) rfl
  have p41:a.eval (.tmp 41)=.pointer (some ⟨R4,0,none⟩):=hp ⟨20,.data⟩ (by simp) rfl
  have c0:w'.cell? ⟨R4,0,none⟩=some (.int .i64 9):=zab hR hR4 C30.o
  refine zbv (.int .i64 9) rfl (zbw (b:=true) rfl rfl pg) (by revert p41;generalize a.eval=ρ;intro p41;simp only[execOp];go_simp) ⟨_,rfl,hR,?_,fun _ _ _ h=>h⟩
  show zdw _ _ _ _ _ _ ((a.put (some 42) _).eval (.tmp 42)) w'
  rw[zal hF hsz (by decide)]
  exact rfl
 ·intro a w' hF hR hp
  have pg:a.eval (.tmp 40)=.bool true:=hp ⟨19,Ground.guard⟩ (by simp) rfl
  have p42:a.eval (.tmp 42)=.int .i64 9:=hp ⟨21,.data⟩ (by simp) rfl
  refine zbv (.bool true) rfl (zbw (b:=true) rfl rfl pg) (by have pc0:=Act.eval_const a (.int .i64 9);revert p42 pc0;generalize a.eval=ρ;intro p42 pc0;simp only[execOp];go_simp) ⟨_,rfl,hR,?_,fun _ _ _ h=>h⟩
  show zdw _ _ _ _ _ _ ((a.put (some 43) _).eval (.tmp 43)) w'
  rw[zal hF hsz (by decide)]
  exact rfl
 ·intro a w' hF hR hp
  have p40:a.eval (.tmp 40)=.bool true:=hp ⟨19,.data⟩ (by simp) rfl
  have p43:a.eval (.tmp 43)=.bool true:=hp ⟨22,.data⟩ (by simp) rfl
  exact zah _ rfl rfl (by revert p40 p43;generalize a.eval=ρ;intro p40 p43;simp only[execOp];go_simp) hF hsz hR rfl
 ·intro a w' hF hR hp
  have p44:a.eval (.tmp 44)=.bool true:=hp ⟨23,.data⟩ (by simp) rfl
  exact zah _ rfl rfl (by revert p44;generalize a.eval=ρ;intro p44;simp only[execOp];go_simp) hF hsz hR rfl
 ·intro a W' hF hR hp
  have p0:a.eval (.tmp 0)=.bool true:=hp 24 (by decide)
  have hsa:a.tmps.size=45:=hF.size.trans hsz
  have hlit:a=⟨#[_,_,_,_,_,_,_,_,_,_,_,_,_,_,_,_,_,_,_,_,_,_,_,_,_,_,_,_,_,_,_,_,_,_,_,_,_,_,_,_,_,_,_,_,_],[]⟩:=zcd a 45 hsa (hF.defers.trans hdf)
  dsimp only at hlit
  rw[p0] at hlit
  show KK a _
  exact(congrArg (fun x=>KK x _) hlit).mpr (HTAIL.o (fun k=>a.eval (.tmp k)) _ hR)
def ac0:Ac:=⟨0,0,0,0,⟨#[]⟩⟩
def ActAt (w:World)(b o:Nat)(x:Ac):Prop:=
 w.cell? ⟨b,o,none⟩=some (.int .i64 x.kind)∧w.cell? ⟨b,o+1,none⟩=some (.int .i64 x.h)∧w.cell? ⟨b,o+2,none⟩=some (.int .i64 x.b)∧w.cell? ⟨b,o+3,none⟩=some (.int .i64 x.n)∧w.cell? ⟨b,o+4,none⟩=some (.string x.text)
def SegA (w:World)(a:Option Addr)(l:List Ac):Prop:=l=[]∨∃b off,a=some ⟨b,off,none⟩∧b<w.heap.size∧∀i,i<l.length→ActAt w b (off+i*5) (l.getD i ac0)
theorem ActAt.ext {w w':World}{b o:Nat}{x:Ac}(h:ActAt w b o x)(e:Ext w w'):ActAt w' b o x:=⟨e.cell _ _ _ h.1,e.cell _ _ _ h.2.1,e.cell _ _ _ h.2.2.1,e.cell _ _ _ h.2.2.2.1,e.cell _ _ _ h.2.2.2.2⟩
theorem SegA.ext {w w':World}{a:Option Addr}{l:List Ac}(h:SegA w a l)(e:Ext w w'):SegA w' a l:=by
 rcases h with h|⟨b,off,rfl,hlt,hc⟩
 ·exact .inl h
 ·exact .inr ⟨b,off,rfl,Nat.lt_of_lt_of_le hlt e.size,fun i hi=>(hc i hi).ext e⟩
structure OkA (x:Ac):Prop where
 n:x.n≤9223372036854775807
 text:x.text.size≤maxLen
def jOf (l:List Ac)(k:Nat):Jn:=(l.take k).foldl (fun j a=>(doJ j a).1) zzs
def rOf (l:List Ac)(k:Nat):Rp:=(doJ (jOf l k) (l.getD k ac0)).2
theorem ztw (l:List Ac):jOf l 0=zzs:=by rw[jOf,List.take_zero];rfl
theorem ztx {l:List Ac}{k:Nat}(h:k<l.length):jOf l (k+1)=(doJ (jOf l k) (l.getD k ac0)).1:=by
 rw[jOf,List.take_add_one,List.getElem?_eq_getElem h,List.foldl_append,List.getD,List.getElem?_eq_getElem h]
 rfl
theorem zty (l:List Ac)(k:Nat):PJ (jOf l k):=by
 unfold jOf
 generalize l.take k=q
 have:∀(q:List Ac) (j:Jn),PJ j→PJ (q.foldl (fun j a=>(doJ j a).1) j):=by
  intro q
  induction q with
  |nil=>intro j h;exact h
  |cons a q ih=>intro j h;exact ih _ (h.do a)
 exact this q _ PJ.new
def played (l:List Ac):Nat:=min l.length 150
def z3s (B:Nat)(b:Nat)(off:Nat)(k:Nat)(x:Ac)(r:Rp)(look:Value)(c:Nat)(l:List Ac):Nat→Value→World→Prop
 |0,v,_=>v=look
 |1,v,_=>v=.pointer (some ⟨B,0,none⟩)
 |2,v,_=>v=.slice (some ⟨b,off,none⟩) l.length c
 |3,v,_=>v=.int .i64 k
 |4,v,_=>v=.pointer (some ⟨b,off+k*5,none⟩)
 |5,v,_=>v=.agg #[.int .i64 x.kind,.int .i64 x.h,.int .i64 x.b,.int .i64 x.n,.string x.text]
 |6,v,_=>v=.agg #[.int .i64 r.code,.int .i64 r.n,.string r.text]
 |_,_,_=>True
theorem ztz (look:Value)(g:Nat)(lk:Value→Value→Value→Array Value)
  (hent:∀(o:Oper) (ρ:Operand→Value) (w:World) (x y z:Value) (ts:Array TypeId),o.op=Op.call {callee:=.value (.tmp 28),args:=#[.tmp 29,.tmp 33,.tmp 34],argTypes:=ts}→ρ (.tmp 28)=look→ρ (.tmp 29)=x→ρ (.tmp 33)=y→ρ (.tmp 34)=z→(execOp ρ o).run Tryz.prog w=.ok (.enter g (lk x y z)) w)
  (a:Option Addr) (c:Nat) (l:List Ac) (w:World) (LX:List Nat) (hA:SegA (zan w LX) a l) (hlen:l.length≤maxLen) (hok:∀x∈l,OkA x) (hLX:∀x∈LX,x<w.heap.size)
  (S:Nat→World→Prop) (hS0:S 0 w) (hSb:∀k W W' B,S k W→w.heap.size≤B→w.heap.size≤W.heap.size→ButL [B] W.heap.size W W'→S k W')
  (hL:∀k W B,k<played l→w.heap.size≤B→S k W→JAt W B (B::LX) (jOf l (k+1))→(∀x∈(B::LX),x<W.heap.size)→Calls Tryz.prog g (lk (.pointer (some ⟨B,0,none⟩)) (.agg #[.int .i64 (l.getD k ac0).kind,.int .i64 (l.getD k ac0).h,.int .i64 (l.getD k ac0).b,.int .i64 (l.getD k ac0).n,.string (l.getD k ac0).text]) (.agg #[.int .i64 (rOf l k).code,.int .i64 (rOf l k).n,.string (rOf l k).text])) W fun e W'=>e=.returned (.bool true)∧S (k+1) W'∧JAt W' B (B::LX) (jOf l (k+1))∧ButL LX w.heap.size W W'∧W.heap.size≤W'.heap.size):
  Calls Tryz.prog 21 #[.slice a l.length c,look] w fun e w'=>∃B,e=.returned (.tuple #[.pointer (some ⟨B,0,none⟩),.bool true])∧w.heap.size≤B∧S (played l) w'∧JAt w' B (B::LX) (jOf l (played l))∧ButL LX w.heap.size w w':=by
 have HA:=zaa hA
 have HOK:=zaa hok
 have HLX:=zaa hLX
 have HS0:=zaa hS0
 have HSB:=zaa hSb
 have HL:=zaa hL
 have HENT:=zaa hent
 clear hA hok hLX hS0 hSb hL hent
 unfold maxLen at hlen
 go_enter Tryz.func21,Tryz.ntmps21
 go_wp2_with fail
 refine(zzm _).mono ?_
 rintro e w1 ⟨rfl,hb1⟩
 have HB1:=zaa hb1
 clear hb1
 go_wp2_with fail
 refine(ztv _).mono ?_
 rintro e w2 ⟨B,rfl,hB0,hJ,hbn⟩
 have hs1:w.heap.size≤w1.heap.size:=HB1.o.size
 have HJ2:=zaa (hJ LX (fun x hx=>Nat.lt_of_lt_of_le (HLX.o x hx) hs1))
 have HB2:=zaa (zad HB1.o hbn)
 have hBw:w.heap.size≤B:=by omega
 have HS2:Hid (S 0 w2):=HSB.o 0 w w2 B HS0.o hBw (Nat.le_refl _) (ButL.of_below HB2.o)
 clear hJ hbn
 go_wp2
 go_loopw [7] (fun i wr=>∃k:Nat,k≤played l∧i=.int .i64 k∧Hid (S k wr)∧Hid (JAt wr B (B::LX) (jOf l k))∧Hid (ButL LX w.heap.size w wr)) (fun i _=>l.length - (intOf i).toNat)
 case atStart=>exact⟨0,Nat.zero_le _,rfl,HS2,by rw[ztw];exact HJ2,ButL.of_below HB2.o⟩
 case round=>
  obtain⟨k,hk,rfl,HSr,HJr,HBr⟩:=hrel
  clear HJ2 HB2 HS2 HB1
  have hpl:played l=min l.length 150:=rfl
  by_cases hkp:k<played l
  ·have hk1:k<l.length:=by omega
   have hk2:k<150:=by omega
   have i1:(k:Int)<(l.length:Int):=by omega
   have i2:(k:Int)<150:=by omega
   have i0:(0:Int)≤(k:Int):=by omega
   obtain⟨b,off,rfl,hb,hc⟩:=(HA.o.ext (Ext.butL HBr.o)).resolve_left (fun e=>by rw[e] at hk1;simp at hk1)
   obtain⟨x,hx⟩:∃x,x=l.getD k ac0:=⟨_,rfl⟩
   have hca:=hc k hk1
   rw[←hx] at hca
   obtain⟨hnL,e0⟩:=zbr hca.1
   have e1:=(zbr hca.2.1).2
   have e2:=(zbr hca.2.2.1).2
   have e3:=(zbr hca.2.2.2.1).2
   have e4:=(zbr hca.2.2.2.2).2
   have P00:=zaa e0
   have P10:=zaa e1
   have P20:=zaa e2
   have P30:=zaa e3
   have P40:=zaa e4
   have hbr:b<wr.heap.size:=by rw[za9] at hb;exact hb
   have hbw:b<w.heap.size:=by
    rcases HA.o with e|⟨b2,off2,he,hb2,_⟩
    ·rw[e] at hk1;simp at hk1
    ·cases he;rw[za9] at hb2;exact hb2
   have HX:=zaa hx
   have hxm:OkA x:=HOK.o x (by rw[hx,List.getD,List.getElem?_eq_getElem hk1];exact List.getElem_mem hk1)
   have HXM:=zaa hxm
   have hsr:w.heap.size≤wr.heap.size:=HBr.o.size
   clear hc hca hx hb hxm
   go_wp2_with fail
   refine(zi9 B (B::LX) (jOf l k) wr HJr.o (fun y hy=>?_) (zty l k).ready x HXM.o.n HXM.o.text).mono ?_
   ·rcases List.mem_cons.1 hy with rfl|hy
    ·exact HJr.o.lt
    ·have:=HLX.o y hy;omega
   rintro e wq ⟨rfl,hJq,hBq⟩
   have hrE:(doJ (jOf l k) x).2=rOf l k:=by rw[rOf,HX.o]
   have hjE:(doJ (jOf l k) x).1=jOf l (k+1):=by rw[ztx hk1,HX.o]
   rw[hjE] at hJq
   rw[hrE]
   obtain⟨r,hr⟩:∃r,r=rOf l k:=⟨_,rfl⟩
   rw[←hr]
   rw[show vRp r=.agg #[.int .i64 r.code,.int .i64 r.n,.string r.text] from rfl]
   have HRR:=zaa hr
   have hsq:wr.heap.size≤wq.heap.size:=hBq.size
   have hbq:wq.heap[b]?=wr.heap[b]?:=hBq.block b hbr (by simp;omega)
   have P01:=zaa ((World.cell?_of_block hbq).trans P00.o)
   have P11:=zaa ((World.cell?_of_block hbq).trans P10.o)
   have P21:=zaa ((World.cell?_of_block hbq).trans P20.o)
   have P31:=zaa ((World.cell?_of_block hbq).trans P30.o)
   have P41:=zaa ((World.cell?_of_block hbq).trans P40.o)
   have HSq:=zaa (HSB.o k wr wq B HSr.o hBw hsr hBq)
   have HBq2:Hid (ButL LX w.heap.size w wq):=HBr.o.trans hBq hsr (by simp;omega)
   clear hrE hjE hr hBq hbq e0 e1 e2 e3 e4
   go_wp2
   rename_i KK hKK
   obtain⟨W1,hW1⟩:∃W1,W1=wq.alloc (.cells #[.int .i64 r.code,.int .i64 r.n,.string r.text] 31):=⟨_,rfl⟩
   rw[←hW1]
   have hbW:Below wq.heap.size wq W1:=by rw[hW1];exact below1 _ _
   have KRb:W1.heap[wq.heap.size]?=some (.cells #[.int .i64 r.code,.int .i64 r.n,.string r.text] 31 (0,0)):=by rw[hW1];exact heap_alloc_new _ _
   have Q0:Hid (W1.cell? ⟨wq.heap.size,0,none⟩=some (.int .i64 r.code)):=(cell_of_row W1 _ 0 _ _ _ KRb).trans rfl
   have Q1:Hid (W1.cell? ⟨wq.heap.size,1,none⟩=some (.int .i64 r.n)):=(cell_of_row W1 _ 1 _ _ _ KRb).trans rfl
   have Q2:Hid (W1.cell? ⟨wq.heap.size,2,none⟩=some (.string r.text)):=(cell_of_row W1 _ 2 _ _ _ KRb).trans rfl
   have P0:=zaa (zab hbW (show b<wq.heap.size by omega) P01.o)
   have P1:=zaa (zab hbW (show b<wq.heap.size by omega) P11.o)
   have P2:=zaa (zab hbW (show b<wq.heap.size by omega) P21.o)
   have P3:=zaa (zab hbW (show b<wq.heap.size by omega) P31.o)
   have P4:=zaa (zab hbW (show b<wq.heap.size by omega) P41.o)
   have hs1:W1.heap.size=wq.heap.size+1:=by rw[hW1];simp
   have hRW:wq.heap.size<W1.heap.size:=by omega
   have hbW1:b<W1.heap.size:=by omega
   have HLK:Hid (∀W,Below W1.heap.size W1 W→Calls Tryz.prog g (lk (.pointer (some ⟨B,0,none⟩)) (.agg #[.int .i64 x.kind,.int .i64 x.h,.int .i64 x.b,.int .i64 x.n,.string x.text]) (.agg #[.int .i64 r.code,.int .i64 r.n,.string r.text])) W fun e W'=>e=.returned (.bool true)∧S (k+1) W'∧JAt W' B (B::LX) (jOf l (k+1))∧ButL LX w.heap.size w W'∧W.heap.size≤W'.heap.size):=by
    intro W hR
    have hbb:=zad hbW hR
    have h1:=HL.o k W B hkp hBw (HSB.o k wq W B HSq.o hBw (by omega) (ButL.of_below hbb)) (hJq.below hbb) (fun y hy=>by
     have h2:=hbb.size
     rcases List.mem_cons.1 hy with rfl|hy
     ·have:=hJq.lt;omega
     ·have:=HLX.o y hy;omega)
    rw[←HX.o,←HRR.o] at h1
    refine h1.mono ?_
    rintro e W' ⟨h3,h4,h5,h6,h7⟩
    exact⟨h3,h4,h5,(HBq2.o.trans (Y:=[]) (ButL.of_below hbb) (by omega) (by simp)).trans h6 (Nat.le_refl _) (by intro y hy;exact .inl hy),h7⟩
   have hbW:=hbW1
   have TAIL:∀(g:Nat→Value) (W':World),S (k+1) W'→JAt W' B (B::LX) (jOf l (k+1))→ButL LX w.heap.size w W'→True→KK ⟨#[.slice (some ⟨b,off,none⟩) l.length c,look,undef,undef,g 4,g 5,.pointer (some ⟨B,0,none⟩),.int .i64 (k:Int),g 8,.bool true,.bool false,.pointer (some ⟨B,0,none⟩),g 12,g 13,g 14,g 15,g 16,g 17,g 18,g 19,g 20,g 21,g 22,g 23,g 24,g 25,g 26,g 27,g 28,g 29,g 30,g 31,g 32,g 33,g 34,g 35,.bool false,g 37,undef],[]⟩ W':=by
    intro g W' hS' hJ' hB' _
    apply hKK
    clear hKK
    have HS':=zaa hS'
    have HJ':=zaa hJ'
    have HB':=zaa hB'
    clear hS' hJ' hB'
    go_wp2
    go_roundw
    case rel=>exact⟨k+1,by omega,by go_num,HS',HJ',HB'⟩
    case measure=>first|(simp[intOf];omega)|simp[intOf]
   have HTAIL:=zaa TAIL
   clear TAIL hKK
   refine(show∀A0:Act,A0=_→Code.wp Tryz.prog _ _ A0 _ from fun A0 hA0=>?_) _ rfl
   have hsz:A0.tmps.size=39:=by rw[hA0];rfl
   have hdf:A0.defers=[]:=by rw[hA0]
   have v0:A0.eval (.tmp 0)=.slice (some ⟨b,off,none⟩) l.length c:=by rw[hA0];rfl
   have v1:A0.eval (.tmp 1)=look:=by rw[hA0];rfl
   have v2:A0.eval (.tmp 2)=undef:=by rw[hA0];rfl
   have v3:A0.eval (.tmp 3)=undef:=by rw[hA0];rfl
   have v6:A0.eval (.tmp 6)=.pointer (some ⟨B,0,none⟩):=by rw[hA0];rfl
   have v7:A0.eval (.tmp 7)=.int .i64 (k:Int):=by rw[hA0];rfl
   have v9:A0.eval (.tmp 9)=.bool true:=by rw[hA0];rfl
   have v10:A0.eval (.tmp 10)=.bool false:=by rw[hA0];rfl
   have v11:A0.eval (.tmp 11)=.pointer (some ⟨B,0,none⟩):=by rw[hA0];rfl
   have v38:A0.eval (.tmp 38)=undef:=by rw[hA0];rfl
   have v8:A0.eval (.tmp 8)=.pointer (some ⟨wq.heap.size,0,none⟩):=by rw[hA0];rfl
   clear hA0
   refine za8 7 (fun w'=>Below W1.heap.size W1 w') [28,29,30,31,32,33,34] (z3s B b off k x r look c l) (by kernel_rfl) (by kernel_rfl) (by kernel_rfl) (by kernel_rfl) (by decide) ((Below.refl _ _).drew) ⟨?_,?_,?_,?_,?_,?_,?_,trivial⟩ ?_
   ·intro a w' hF hR hp
    have z1:=(hF.other 1 rfl).trans v1
    exact zah _ rfl rfl (by revert z1;generalize a.eval=ρ;intro z1;simp only[execOp];go_simp) hF hsz hR rfl
   ·intro a w' hF hR hp
    have z6:=(hF.other 6 rfl).trans v6
    exact zah _ rfl rfl (by revert z6;generalize a.eval=ρ;intro z6;simp only[execOp];go_simp) hF hsz hR rfl
   ·intro a w' hF hR hp
    have z0:=(hF.other 0 rfl).trans v0
    exact zah _ rfl rfl (by revert z0;generalize a.eval=ρ;intro z0;simp only[execOp];go_simp) hF hsz hR rfl
   ·intro a w' hF hR hp
    have z7:=(hF.other 7 rfl).trans v7
    exact zah _ rfl rfl (by revert z7;generalize a.eval=ρ;intro z7;simp only[execOp];go_simp) hF hsz hR rfl
   ·intro a w' hF hR hp
    have p30:a.eval (.tmp 30)=.slice (some ⟨b,off,none⟩) l.length c:=hp ⟨2,.data⟩ (by simp) rfl
    have p31:a.eval (.tmp 31)=.int .i64 k:=hp ⟨3,.data⟩ (by simp) rfl
    exact zah _ rfl rfl (by revert p30 p31;generalize a.eval=ρ;intro p30 p31;simp only[execOp];go_simp) hF hsz hR rfl
   ·intro a w' hF hR hp
    have p32:a.eval (.tmp 32)=.pointer (some ⟨b,off+k*5,none⟩):=hp ⟨4,.data⟩ (by simp) rfl
    have c0:w'.cell? ⟨b,off+k*5,none⟩=some (.int .i64 x.kind):=zab hR hbW (P0.o)
    have c1:w'.cell? ⟨b,off+k*5+1,none⟩=some (.int .i64 x.h):=zab hR hbW (P1.o)
    have c2:w'.cell? ⟨b,off+k*5+2,none⟩=some (.int .i64 x.b):=zab hR hbW (P2.o)
    have c3:w'.cell? ⟨b,off+k*5+3,none⟩=some (.int .i64 x.n):=zab hR hbW (P3.o)
    have c4:w'.cell? ⟨b,off+k*5+4,none⟩=some (.string x.text):=zab hR hbW (P4.o)
    exact zah _ rfl rfl (by revert p32;generalize a.eval=ρ;intro p32;simp only[execOp];go_simp) hF hsz hR rfl
   ·intro a w' hF hR hp
    have z8:=(hF.other 8 rfl).trans v8
    have c0:w'.cell? ⟨wq.heap.size,0,none⟩=some (.int .i64 r.code):=zab hR hRW (Q0.o)
    have c1:w'.cell? ⟨wq.heap.size,1,none⟩=some (.int .i64 r.n):=zab hR hRW (Q1.o)
    have c2:w'.cell? ⟨wq.heap.size,2,none⟩=some (.string r.text):=zab hR hRW (Q2.o)
    exact zah _ rfl rfl (by revert z8;generalize a.eval=ρ;intro z8;simp only[execOp];go_simp) hF hsz hR rfl
   ·intro aa W hF hR hp
    have p28:aa.eval (.tmp 28)=look:=hp 0 (by decide)
    have p29:aa.eval (.tmp 29)=.pointer (some ⟨B,0,none⟩):=hp 1 (by decide)
    have p33:aa.eval (.tmp 33)=.agg #[.int .i64 x.kind,.int .i64 x.h,.int .i64 x.b,.int .i64 x.n,.string x.text]:=hp 5 (by decide)
    have p34:aa.eval (.tmp 34)=.agg #[.int .i64 r.code,.int .i64 r.n,.string r.text]:=hp 6 (by decide)
    have hsa:aa.tmps.size=39:=hF.size.trans hsz
    show wpOps Tryz.prog _ _ [7,8] aa W
    rw[wpOps_cons]
    refine zbo g (lk (.pointer (some ⟨B,0,none⟩)) (.agg #[.int .i64 x.kind,.int .i64 x.h,.int .i64 x.b,.int .i64 x.n,.string x.text]) (.agg #[.int .i64 r.code,.int .i64 r.n,.string r.text])) rfl rfl (HENT.o _ aa.eval W _ _ _ _ rfl p28 p29 p33 p34) _ (HLK.o W hR) ?_
    rintro e w5 ⟨rfl,hS5,hJ5,hB5,_⟩
    refine⟨_,rfl,?_⟩
    obtain⟨b1,hb1⟩:∃b1,b1=aa.put (some 35) (.bool true):=⟨_,rfl⟩
    have s35:b1.eval (.tmp 35)=.bool true:=by rw[hb1];exact Act.eval_put_same _ _ _ (by rw[hsa];decide)
    have hs1:b1.tmps.size=39:=by rw[hb1,Act.size_put];exact hsa
    show wpOps Tryz.prog _ _ [8] (aa.put (some 35) (.bool true)) w5
    rw[←hb1,wpOps_cons]
    refine za0 (.bool false) rfl rfl (by revert s35;generalize b1.eval=ρ;intro s35;simp only[execOp];go_simp) ?_
    obtain⟨b2,hb2⟩:∃b2,b2=b1.put (some 36) (.bool false):=⟨_,rfl⟩
    have f36:b2.eval (.tmp 36)=.bool false:=by rw[hb2];exact Act.eval_put_same _ _ _ (by rw[hs1];decide)
    have f0:b2.eval (.tmp 0)=.slice (some ⟨b,off,none⟩) l.length c:=by rw[hb2,Act.eval_put_ne _ _ _ _ (by decide),hb1,Act.eval_put_ne _ _ _ _ (by decide)];exact(hF.other 0 rfl).trans v0
    have f1:b2.eval (.tmp 1)=look:=by rw[hb2,Act.eval_put_ne _ _ _ _ (by decide),hb1,Act.eval_put_ne _ _ _ _ (by decide)];exact(hF.other 1 rfl).trans v1
    have f2:b2.eval (.tmp 2)=undef:=by rw[hb2,Act.eval_put_ne _ _ _ _ (by decide),hb1,Act.eval_put_ne _ _ _ _ (by decide)];exact(hF.other 2 rfl).trans v2
    have f3:b2.eval (.tmp 3)=undef:=by rw[hb2,Act.eval_put_ne _ _ _ _ (by decide),hb1,Act.eval_put_ne _ _ _ _ (by decide)];exact(hF.other 3 rfl).trans v3
    have f6:b2.eval (.tmp 6)=.pointer (some ⟨B,0,none⟩):=by rw[hb2,Act.eval_put_ne _ _ _ _ (by decide),hb1,Act.eval_put_ne _ _ _ _ (by decide)];exact(hF.other 6 rfl).trans v6
    have f7:b2.eval (.tmp 7)=.int .i64 (k:Int):=by rw[hb2,Act.eval_put_ne _ _ _ _ (by decide),hb1,Act.eval_put_ne _ _ _ _ (by decide)];exact(hF.other 7 rfl).trans v7
    have f9:b2.eval (.tmp 9)=.bool true:=by rw[hb2,Act.eval_put_ne _ _ _ _ (by decide),hb1,Act.eval_put_ne _ _ _ _ (by decide)];exact(hF.other 9 rfl).trans v9
    have f10:b2.eval (.tmp 10)=.bool false:=by rw[hb2,Act.eval_put_ne _ _ _ _ (by decide),hb1,Act.eval_put_ne _ _ _ _ (by decide)];exact(hF.other 10 rfl).trans v10
    have f11:b2.eval (.tmp 11)=.pointer (some ⟨B,0,none⟩):=by rw[hb2,Act.eval_put_ne _ _ _ _ (by decide),hb1,Act.eval_put_ne _ _ _ _ (by decide)];exact(hF.other 11 rfl).trans v11
    have f38:b2.eval (.tmp 38)=undef:=by rw[hb2,Act.eval_put_ne _ _ _ _ (by decide),hb1,Act.eval_put_ne _ _ _ _ (by decide)];exact(hF.other 38 rfl).trans v38
    have hlit:b2=⟨#[_,_,_,_,_,_,_,_,_,_,_,_,_,_,_,_,_,_,_,_,_,_,_,_,_,_,_,_,_,_,_,_,_,_,_,_,_,_,_],[]⟩:=zcd b2 39 (by rw[hb2,Act.size_put];exact hs1) (by rw[hb2,Act.defers_put',hb1,Act.defers_put'];exact hF.defers.trans hdf)
    dsimp only at hlit
    rw[f0,f1,f2,f3,f6,f7,f9,f10,f11,f36,f38] at hlit
    show KK (b1.put (some 36) (.bool false)) _
    rw[←hb2]
    exact(congrArg (fun y=>KK y _) hlit).mpr (HTAIL.o (fun k=>b2.eval (.tmp k)) _ hS5 hJ5 hB5 trivial)
  ·have hkn:k=played l:=by omega
   subst hkn
   have hfin:¬((played l:Int)<(l.length:Int))∨¬((played l:Int)<150):=by omega
   clear hpl
   rcases Classical.em ((played l:Int)<(l.length:Int)) with i1|i1
   ·have i2:¬((played l:Int)<150):=by omega
    clear hfin
    go_wp2
    refine bodyPost_ret (results_tmp2 rfl _ _ _) rfl ⟨B,rfl,hBw,HSr.o,HJr.o,HBr.o⟩
   ·clear hfin
    go_wp2
    refine bodyPost_ret (results_tmp2 rfl _ _ _) rfl ⟨B,rfl,hBw,HSr.o,HJr.o,HBr.o⟩
theorem zs2 {j:Jn}{D:Dk}{a:Ac}{j':Jn}{r:Rp}{D':Dk}(h:Md j D)(t:Trans j D a j' r D'):
  (j'.last=j.last∨(j'.last=j.last+1∧a.kind=8))∧(a.kind=8→0<r.n→r.n=j'.last)∧(a.kind=6→r.code=0→r.n=j'.last+1):=by
 cases t with
 |plain m hp=>
  cases m with
  |no e he=>exact⟨.inl rfl,(fun _ h0=>by have:(0:Int)<0:=h0;omega),(fun _ h0=>absurd h0 he)⟩
  |read hd hk hb ht=>exact⟨.inl rfl,(fun h8=>by omega),(fun h6=>by omega)⟩
  |begin hd hk he=>exact⟨.inl rfl,(fun h8=>by omega),(fun h6=>by omega)⟩
  |stop hd hk he=>exact⟨.inl rfl,(fun h8=>by omega),(fun h6=>by omega)⟩
  |write hd hk he hr=>exact⟨.inl rfl,(fun h8=>by omega),(fun h6=>by omega)⟩
  |fill hd hk he hr hf=>exact⟨.inl rfl,(fun h8=>by omega),(fun h6=>by omega)⟩
  |revoke hd hk he hr=>exact⟨.inl rfl,(fun h8=>by omega),(fun h6=>by omega)⟩
  |commit hd hk hs ho hm hq he=>
   refine⟨.inl rfl,(fun h8=>by omega),fun _ _=>?_⟩
   show j.now.seq=j.last+1
   cases h with
   |idle p hs2 hz hD ht hq2=>exact hq2
   |commit P U k p hw hk2 hs2 hD ht he2 hse hrh hru hq2 hN=>
    rw[hs] at hs2
    have:=congrArg List.length hs2
    rw[List.length_drop] at this
    simp at this
    omega
   |check k p hw hz hk2 hs2 hD ht hq2=>exact hq2
   |off l N P U p hs2 hf hD ht=>rw[p.off] at hd;cases hd
   |back U k p hw hk2 hs2 hD ht=>rw[p.off] at hd;cases hd
  |check hd hk hs hn he=>exact⟨.inl rfl,(fun h8=>by omega),(fun h6=>by omega)⟩
  |step hk s q hs he hr=>exact⟨.inl rfl,(fun _ h0=>by have:(0:Int)<0:=h0;omega),(fun h6=>by omega)⟩
  |last hk s hs he=>
   have hc:(zbt {j with disk:=za7 j.disk s,steps:=[]}).2.code=0:=by
    rw[zbt]
    split
    ·rfl
    split
    ·rfl
    split
    ·rfl
    ·rfl
   obtain⟨s2,q,h1,h2,_⟩:=(hp hc).2 hk
   rw[hs] at h1
   injection h1 with _ h3
   exact absurd h3.symm h2
  |crash hk he=>exact absurd hk (hp rfl).1
  |back hk hd hs hE hc=>exact⟨.inl rfl,(fun h8=>by omega),(fun h6=>by omega)⟩
 |through Y hk hu hse hg hN hL hh=>exact⟨.inr ⟨hse,hk⟩,fun _ _=>rfl,fun h6=>by omega⟩
 |home Y hk hu hz hN hL hh=>exact⟨.inl rfl,(fun _ h0=>by have:(0:Int)<0:=h0;omega),(fun h6=>by omega)⟩
 |on Y hk hd hfN hfL hN hL hh=>
  refine⟨?_,(fun _ h0=>by have:(0:Int)<0:=h0;omega),(fun h6=>by omega)⟩
  show j.fN - 1=j.last∨(j.fN - 1=j.last+1∧_)
  cases h with
  |idle p=>rw[p.up] at hd;cases hd
  |commit P U k p=>rw[p.up] at hd;cases hd
  |check k p=>rw[p.up] at hd;cases hd
  |off l N P U p hs2 hf hD ht=>
   have:=ht.range.1.1
   rw[hf.2,ht.tN] at hfN
   omega
  |back U k p hw hk2 hs2 hD ht=>
   have h1:=p.lo
   have h2:=p.hi
   by_cases e:j.fN - 1=j.last
   ·exact .inl e
   ·exact .inr ⟨by omega,hk⟩
 |crash hk hn X hX left=>exact⟨.inl rfl,(fun h8=>by omega),(fun h6=>by omega)⟩
theorem zzn {j:Jn}(h:PJ j)(a:Ac):((doJ j a).1.last=j.last∨((doJ j a).1.last=j.last+1∧a.kind=8))∧(a.kind=8→0<(doJ j a).2.n→(doJ j a).2.n=(doJ j a).1.last)∧(a.kind=6→(doJ j a).2.code=0→(doJ j a).2.n=(doJ j a).1.last+1):=by
 obtain⟨D,h1,h2,h3⟩:=h
 rcases z10 h1 a h2 h3 with⟨h4,h5⟩|⟨h4,h5,D',h6,ht⟩
 ·rw[h5]
  exact⟨.inl rfl,(fun _ h0=>by have:(0:Int)<0:=h0;omega),(fun _ h0=>by have:(11:Int)=0:=h0;omega)⟩
 ·have hc:=zs2 (h1.bump (x:=j.acts+1) (by omega)) ht
  exact hc
theorem PJ.last {j:Jn}(h:PJ j):0≤j.last∧j.last≤402:=by
 obtain⟨D,h1,h2,h3⟩:=h
 refine⟨h1.last0,?_⟩
 cases h1 with
 |idle p hs hz hD ht hq=>have:=p.seq;omega
 |commit P U k p hw hk hs hD ht he hse hrh hru hq hN=>have:=p.seq;omega
 |check k p hw hz hk hs hD ht hq=>have:=p.seq;omega
 |off l N P U p hs hf hD ht=>have:=p.lo;have:=p.seq;omega
 |back U k p hw hk hs hD ht=>have:=p.lo;have:=p.seq;omega
theorem zl0 (B:Nat)(X:List Nat)(j:Jn)(x:Ac)(r:Rp)(L3 L4:Nat)(last:Int)(down:Bool)(w:World)(hJ:JAt w B X j)(h3:w.heap[L3]?=some (.cells #[.int .i64 last] 3 (0,0)))(h4:w.heap[L4]?=some (.cells #[.bool down] 4 (0,0)))(hne:L3≠L4)
  (hb0:0≤last) (hb1:last≤402) (c1:j.last=last∨(j.last=last+1∧x.kind=8)) (c2:x.kind=8→0<r.n→r.n=j.last) (c3:x.kind=6→r.code=0→r.n=j.last+1):
  Calls Tryz.prog 35 #[.pointer (some ⟨B,0,none⟩),.agg #[.int .i64 x.kind,.int .i64 x.h,.int .i64 x.b,.int .i64 x.n,.string x.text],.agg #[.int .i64 r.code,.int .i64 r.n,.string r.text],.pointer (some ⟨L3,0,none⟩),.pointer (some ⟨L4,0,none⟩)] w fun e w'=>e=.returned (.bool true)∧w'.heap[L3]?=some (.cells #[.int .i64 j.last] 3 (0,0))∧w'.heap[L4]?=some (.cells #[.bool j.down] 4 (0,0))∧ButL [L3,L4] w.heap.size w w':=by
 have HJ:=zaa hJ
 have H3:=zaa h3
 have H4:=zaa h4
 have hl3:L3<w.heap.size:=(Array.getElem?_eq_some_iff.1 h3).1
 have hl4:L4<w.heap.size:=(Array.getElem?_eq_some_iff.1 h4).1
 have hne':¬L3=L4:=hne
 have hne2:¬L4=L3:=fun e=>hne e.symm
 clear hJ h3 h4 hne
 obtain⟨W0,hW0⟩:∃W0,W0=(w.alloc (.cells #[.int .i64 x.kind,.int .i64 x.h,.int .i64 x.b,.int .i64 x.n,.string x.text] 23)).alloc (.cells #[.int .i64 r.code,.int .i64 r.n,.string r.text] 31):=⟨_,rfl⟩
 have HB0:Hid (Below w.heap.size w W0):=by rw[hW0];exact zad (below1 _ _) (below1 _ _)
 have hz1:(w.alloc (.cells #[.int .i64 x.kind,.int .i64 x.h,.int .i64 x.b,.int .i64 x.n,.string x.text] 23)).heap.size=w.heap.size+1:=by simp
 have KA:Hid (W0.heap[w.heap.size]?=some (.cells #[.int .i64 x.kind,.int .i64 x.h,.int .i64 x.b,.int .i64 x.n,.string x.text] 23 (0,0))):=by rw[hW0];exact zac (below1 _ _) (by omega) (heap_alloc_new _ _)
 have KR:Hid (W0.heap[w.heap.size+1]?=some (.cells #[.int .i64 r.code,.int .i64 r.n,.string r.text] 31 (0,0))):=by rw[hW0,←hz1];exact heap_alloc_new _ _
 have hs0:W0.heap.size=w.heap.size+2:=by rw[hW0];simp
 have HW0:=zaa hW0
 clear hW0 hz1
 go_enter Tryz.func35,Tryz.ntmps35
 go_wp2_with fail
 rw[←HW0.o]
 clear HW0
 refine(zlm B X j W0 (HJ.o.below HB0.o)).mono ?_
 rintro e w1 ⟨rfl,hb1'⟩
 have HB1:=zaa (zad HB0.o hb1')
 have KA1:=zaa (zac hb1' (by omega) KA.o)
 have KR1:=zaa (zac hb1' (by omega) KR.o)
 have K3:=zaa (zac HB1.o hl3 H3.o)
 have K4:=zaa (zac HB1.o hl4 H4.o)
 have hs1:W0.heap.size≤w1.heap.size:=hb1'.size
 clear hb1' KA KR H3 H4 HB0
 obtain⟨⟨z0,z1,z2,z3,z4⟩,_⟩:=zhw KA1.o
 obtain⟨⟨y0,y1,y2⟩,_⟩:=zbe KR1.o
 have d3:=cell_of_row w1 _ 0 _ _ _ K3.o
 have d4:=cell_of_row w1 _ 0 _ _ _ K4.o
 have g3:=frozen_of_row w1 _ 0 _ _ K3.o
 have g4:=frozen_of_row w1 _ 0 _ _ K4.o
 have fin:∀W,W=((w1.setCell ⟨L3,0,none⟩ (.int .i64 j.last)).setCell ⟨L4,0,none⟩ (.bool j.down)).alloc (.cells #[.int .i64 j.rh,.int .i64 j.ru] 26)→W.heap[L3]?=some (.cells #[.int .i64 j.last] 3 (0,0))∧W.heap[L4]?=some (.cells #[.bool j.down] 4 (0,0))∧ButL [L3,L4] w.heap.size w W:=by
  intro W hW
  have s3:(w1.setCell ⟨L3,0,none⟩ (.int .i64 j.last)).heap[L3]?=some (.cells #[.int .i64 j.last] 3 (0,0)):=heap_setCell_same _ _ 0 _ _ _ K3.o
  have s4:(w1.setCell ⟨L3,0,none⟩ (.int .i64 j.last)).heap[L4]?=some (.cells #[.bool down] 4 (0,0)):=(Below.heap_setCell _ _ _ _ hne2).trans K4.o
  have u3:((w1.setCell ⟨L3,0,none⟩ (.int .i64 j.last)).setCell ⟨L4,0,none⟩ (.bool j.down)).heap[L3]?=some (.cells #[.int .i64 j.last] 3 (0,0)):=(Below.heap_setCell _ _ _ _ hne').trans s3
  have u4:((w1.setCell ⟨L3,0,none⟩ (.int .i64 j.last)).setCell ⟨L4,0,none⟩ (.bool j.down)).heap[L4]?=some (.cells #[.bool j.down] 4 (0,0)):=heap_setCell_same _ _ 0 _ _ _ s4
  have hB:ButL [L3,L4] w.heap.size w ((w1.setCell ⟨L3,0,none⟩ (.int .i64 j.last)).setCell ⟨L4,0,none⟩ (.bool j.down)):=((ButL.of_below HB1.o).set (.inl (by simp)) 0 _).set (.inl (by simp)) 0 _
  rw[hW]
  exact⟨zac (below1 _ _) (Array.getElem?_eq_some_iff.1 u3).1 u3,zac (below1 _ _) (Array.getElem?_eq_some_iff.1 u4).1 u4,hB.trans (Y:=[]) (ButL.of_below (below1 _ _)) (by have:=HB1.o.size;simp[World.setCell];omega) (by simp)⟩
 have FIN:=zaa fin
 have C2:=zaa c2
 have C3:=zaa c3
 clear fin c2 c3 K3 K4 KA1 KR1 HB1
 generalize hn:j.last=n at *
 have hwn:IntKind.i64.wrap (n+1)=n+1:=by rw[IntKind.wrap_i64];omega
 have hws:IntKind.i64.wrap (n - last)=n - last:=by rw[IntKind.wrap_i64];omega
 have nlt:¬n<last:=by omega
 have q3:L3<w1.heap.size:=by omega
 have q4:L4<w1.heap.size:=by omega
 have q0:w.heap.size<w1.heap.size:=by omega
 have q1:w.heap.size+1<w1.heap.size:=by omega
 rcases c1 with e|⟨e,k8⟩
 ·subst e
  have ngt:¬n<n:=by omega
  by_cases k8:x.kind=8
  ·rw[k8] at z0
   by_cases hr:0<r.n
   ·have hrn:=C2.o k8 hr
    have hrn':(r.n !=n)=false:=by simpa using hrn
    clear hrn
    go_wp2
    go_ret
    first|exact⟨rfl,FIN.o _ rfl⟩|(refine⟨rfl,?_⟩;rw[hn];exact FIN.o _ rfl)
   ·clear C2
    go_wp2
    go_ret
    first|exact⟨rfl,FIN.o _ rfl⟩|(refine⟨rfl,?_⟩;rw[hn];exact FIN.o _ rfl)
  ·have b8:(x.kind==8)=false:=by simpa using k8
   by_cases k6:x.kind=6
   ·rw[k6] at z0
    by_cases hc:r.code=0
    ·have hrn:=C3.o k6 hc
     have hrn':(r.n !=n+1)=false:=by simpa using hrn
     rw[hc] at y0
     clear hrn
     go_wp2
     go_ret
     first|exact⟨rfl,FIN.o _ rfl⟩|(refine⟨rfl,?_⟩;rw[hn];exact FIN.o _ rfl)
    ·have hc':(r.code==0)=false:=by simpa using hc
     go_wp2
     go_ret
     first|exact⟨rfl,FIN.o _ rfl⟩|(refine⟨rfl,?_⟩;rw[hn];exact FIN.o _ rfl)
   ·have b6:(x.kind==6)=false:=by simpa using k6
    go_wp2
    go_ret
    first|exact⟨rfl,FIN.o _ rfl⟩|(refine⟨rfl,?_⟩;rw[hn];exact FIN.o _ rfl)
 ·subst e
  have ngt:last<last+1:=by omega
  have e1:last+1 - last=1:=by omega
  rw[k8] at z0
  by_cases hr:0<r.n
  ·have hrn:=C2.o k8 hr
   have hrn':(r.n !=last+1)=false:=by simpa using hrn
   clear hrn
   go_wp2
   go_ret
   first|exact⟨rfl,FIN.o _ rfl⟩|(refine⟨rfl,?_⟩;rw[hn];exact FIN.o _ rfl)
  ·clear C2
   go_wp2
   go_ret
   first|exact⟨rfl,FIN.o _ rfl⟩|(refine⟨rfl,?_⟩;rw[hn];exact FIN.o _ rfl)
theorem zja (L3 L4:Nat)(o:Oper)(ρ:Operand→Value)(w:World)(x y z:Value)(ts:Array TypeId)(ho:o.op=Op.call {callee:=.value (.tmp 28),args:=#[.tmp 29,.tmp 33,.tmp 34],argTypes:=ts})(h1:ρ (.tmp 28)=.func (.func 35) #[] #[.pointer (some ⟨L3,0,none⟩),.pointer (some ⟨L4,0,none⟩)])(h2:ρ (.tmp 29)=x)(h3:ρ (.tmp 33)=y)(h4:ρ (.tmp 34)=z):
  (execOp ρ o).run Tryz.prog w=.ok (.enter 35 #[x,y,z,.pointer (some ⟨L3,0,none⟩),.pointer (some ⟨L4,0,none⟩)]) w:=by
 simp only[execOp,ho]
 go_simp
theorem SegA.hide {w:World}{a:Option Addr}{l:List Ac}(h:SegA w a l){w':World}(hb:Below w.heap.size w w'){X:List Nat}(hX:∀x∈X,w.heap.size≤x):SegA (zan w' X) a l:=by
 rcases h with h0|⟨b,off,rfl,hlt,hc⟩
 ·exact .inl h0
 ·have hn:b∉X:=fun hx=>by have:=hX b hx;omega
  refine .inr ⟨b,off,rfl,by rw[za9];have:=hb.size;omega,fun i hi=>?_⟩
  obtain⟨g0,g1,g2,g3,g4⟩:=hc i hi
  exact⟨zbc hn (zab hb hlt g0),zbc hn (zab hb hlt g1),zbc hn (zab hb hlt g2),zbc hn (zab hb hlt g3),zbc hn (zab hb hlt g4)⟩
theorem zs3 (a:Option Addr)(c:Nat)(l:List Ac)(w:World)(hA:SegA w a l)(hlen:l.length≤maxLen)(hok:∀y∈l,OkA y):
  Calls Tryz.prog 9 #[.slice a l.length c] w fun e w'=>e=.returned (.bool true)∧Below w.heap.size w w':=by
 have HA:=zaa hA
 have HOK:=zaa hok
 have HL:=zaa hlen
 clear hA hok hlen
 obtain⟨W0,hW0⟩:∃W0,W0=(w.alloc (.cells #[.int .i64 0] 3)).alloc (.cells #[.bool false] 4):=⟨_,rfl⟩
 have HB0:Hid (Below w.heap.size w W0):=by rw[hW0];exact zad (below1 _ _) (below1 _ _)
 have hz1:(w.alloc (.cells #[.int .i64 0] 3)).heap.size=w.heap.size+1:=by simp
 have K3:Hid (W0.heap[w.heap.size]?=some (.cells #[.int .i64 0] 3 (0,0))):=by rw[hW0];exact zac (below1 _ _) (by omega) (heap_alloc_new _ _)
 have K4:Hid (W0.heap[w.heap.size+1]?=some (.cells #[.bool false] 4 (0,0))):=by rw[hW0,←hz1];exact heap_alloc_new _ _
 have hs0:W0.heap.size=w.heap.size+2:=by rw[hW0];simp
 have HW0:=zaa hW0
 clear hW0 hz1
 go_enter Tryz.func9,Tryz.ntmps9
 go_wp2_with fail
 rw[←HW0.o]
 clear HW0
 refine(ztz _ 35 (fun x y z=>#[x,y,z,.pointer (some ⟨w.heap.size,0,none⟩),.pointer (some ⟨w.heap.size+1,0,none⟩)]) (zja _ _) a c l W0 [w.heap.size,w.heap.size+1] (HA.o.hide HB0.o (by simp)) HL.o HOK.o (by simp;omega)
  (fun k W=>W.heap[w.heap.size]?=some (.cells #[.int .i64 (jOf l k).last] 3 (0,0))∧W.heap[w.heap.size+1]?=some (.cells #[.bool (jOf l k).down] 4 (0,0))) ?s0 ?sb ?look).mono ?fin
 case s0=>rw[ztw];exact⟨K3.o,K4.o⟩
 case sb=>
  rintro k W W' B ⟨h1,h2⟩ h3 h4 h5
  exact⟨(h5.block _ (by omega) (by simp;omega)).trans h1,(h5.block _ (by omega) (by simp;omega)).trans h2⟩
 case look=>
  rintro k W B hk hB ⟨h1,h2⟩ hJ hX
  have hkl:k<l.length:=by unfold played at hk;omega
  have hl:=(zty l k).last
  have hc:=zzn (zty l k) (l.getD k ac0)
  rw[←ztx hkl] at hc
  refine(zl0 B _ (jOf l (k+1)) (l.getD k ac0) (rOf l k) _ _ (jOf l k).last (jOf l k).down W hJ h1 h2 (by omega) hl.1 hl.2 hc.1 hc.2.1 hc.2.2).mono ?_
  rintro e W' ⟨rfl,h3,h4,h5⟩
  refine⟨rfl,⟨h3,h4⟩,hJ.but h5 (by simp) (by simp;omega),⟨h5.os,h5.tape,h5.output,h5.size,fun q hq hn=>h5.block q ?_ hn⟩,h5.size⟩
  have:=hX B (by simp)
  omega
 case fin=>
  rintro e w' ⟨B,rfl,hB,_,_,hbb⟩
  have HBF:Hid (Below w.heap.size w w'):=HB0.o.trans ⟨hbb.os,hbb.tape,hbb.output,hbb.size,fun q hq=>hbb.block q (by omega) (by simp;omega)⟩
  clear hbb
  go_wp2
  go_ret
  exact⟨rfl,HBF.o⟩
theorem PJ.reach {j:Jn}(h:PJ j):zwj j.now∧j.disk.safe.length*16≤140737488355328∧j.disk.wr.length*24≤140737488355328:=by
 have hR:=h.ready
 obtain⟨D,h1,_,_⟩:=h
 have hg:=zgt h1.disk
 have hrv:j.now.rev.length≤12:=by
  by_cases hu:j.down=false
  ·exact(zaq (h1.pow hu).good).2.2
  ·cases h1 with
   |idle p=>exact absurd p.up hu
   |commit P U k p=>exact absurd p.up hu
   |check k p=>exact absurd p.up hu
   |off l N P U p=>rw[p.now];exact Nat.zero_le _
   |back U k p=>rw[p.now];exact Nat.zero_le _
 exact⟨⟨by have:=hR.info;omega,by have:=hR.data;omega,by omega⟩,by omega,by omega⟩
theorem z1m (A:Nat)(XA:List Nat)(B:Nat)(XB:List Nat)(i j:Jn)(w:World)(hA:JAt w A XA i)(hB:JAt w B XB j)(hi:PJ i)(hj:PJ j)(e1:i.rh=j.rh)(e2:i.ru=j.ru)(e3:i.last=j.last)(e4:i.down=j.down)(e5:i.now=j.now)(e6:i.disk=j.disk):
  Calls Tryz.prog 38 #[.pointer (some ⟨A,0,none⟩),.pointer (some ⟨B,0,none⟩)] w fun e w'=>e=.returned (.bool true)∧Below w.heap.size w w':=by
 have HA:=zaa hA
 have HB:=zaa hB
 have HI:=zaa hi.reach
 have HJ:=zaa hj.reach
 have E5:=zaa e5
 have E6:=zaa e6
 clear hA hB hi hj e5 e6
 go_enter Tryz.func38,Tryz.ntmps38
 go_wp2_with fail
 refine(zlm A XA i w HA.o).mono ?_
 rintro e w1 ⟨rfl,hb1⟩
 have H1:=zaa hb1
 clear hb1
 go_wp2_with fail
 refine(zlm B XB j _ (HB.o.below (zad H1.o (below1 _ _)))).mono ?_
 rintro e w2 ⟨rfl,hb2⟩
 rw[e1,e2,e3,e4] at *
 have KA:=zaa (z1n hb2)
 have H2:=zaa (zad (zad H1.o (below1 _ _)) hb2)
 have hs2:w1.heap.size<w2.heap.size:=by have:=hb2.size;simp at this;omega
 clear hb2 H1
 obtain⟨⟨x0,x1⟩,_⟩:=zfo KA.o
 go_wp2_with fail
 obtain⟨W3,hW3⟩:∃W3,W3=w2.alloc (.cells #[.int .i64 j.rh,.int .i64 j.ru] 26):=⟨_,rfl⟩
 have H3:Hid (Below w.heap.size w W3):=by rw[hW3];exact zad H2.o (below1 _ _)
 rw[←hW3]
 clear hW3 x0 x1 hs2 KA
 refine(zjt A XA i W3 (HA.o.below H3.o) HI.o.1).mono ?_
 rintro e w4 ⟨v4,rfl,hT4,hb4⟩
 have HT4:=zaa hT4
 have H4:=zaa (zad H3.o hb4)
 clear hT4 hb4
 go_wp2_with fail
 refine(zjt B XB j w4 (HB.o.below H4.o) HJ.o.1).mono ?_
 rintro e w5 ⟨v5,rfl,hT5,hb5⟩
 have H5:=zaa (zad H4.o hb5)
 have HT45:Hid (IsTx w5 v4 j.now):=by rw[Hid,←E5.o];exact HT4.o.below hb5
 have HT5:=zaa hT5
 clear hT5 hb5
 go_wp2_with fail
 refine(zwg v4 v5 j.now w5 HT45.o HT5.o).mono ?_
 rintro e w6 ⟨rfl,hb6⟩
 have H6:=zaa (zad H5.o hb6)
 clear hb6
 go_wp2_with fail
 refine(zqw A XA i w6 (HA.o.below H6.o) HI.o.2.1 HI.o.2.2).mono ?_
 rintro e w7 ⟨v7,rfl,hD7,hb7⟩
 have HD7:=zaa hD7
 have H7:=zaa (zad H6.o hb7)
 clear hD7 hb7
 go_wp2_with fail
 refine(zqw B XB j w7 (HB.o.below H7.o) HJ.o.2.1 HJ.o.2.2).mono ?_
 rintro e w8 ⟨v8,rfl,hD8,hb8⟩
 have H8:=zaa (zad H7.o hb8)
 have HD78:Hid (IsDk w8 v7 j.disk):=by rw[Hid,←E6.o];exact HD7.o.below hb8
 have HD8:=zaa hD8
 clear hD8 hb8
 go_wp2_with fail
 obtain⟨a1,c1,a1',c1',rfl,s1,s2,n1,n2⟩:=HD78.o
 obtain⟨a2,c2,a2',c2',rfl,s3,s4,_,_⟩:=HD8.o
 refine(zqv a1 c1 a1' c1' a2 c2 a2' c2' j.disk w8 s1 s2 s3 s4 n1 n2).mono ?_
 rintro e w9 ⟨rfl,hb9⟩
 have H9:=zaa (zad H8.o hb9)
 clear hb9 s1 s2 s3 s4
 go_wp2
 go_ret
 exact⟨rfl,H9.o⟩
theorem zzr (x0:Value)(k h b n:Int)(s:ByteArray)(c m:Int)(u:ByteArray)(w:World):
  Calls Tryz.prog 36 #[x0,.agg #[.int .i64 k,.int .i64 h,.int .i64 b,.int .i64 n,.string s],.agg #[.int .i64 c,.int .i64 m,.string u]] w fun e w'=>e=.returned (.bool true)∧Below w.heap.size w w':=by
 go_enter Tryz.func36,Tryz.ntmps36
 go_wp2
 go_ret
 exact⟨rfl,zad (below1 _ _) (below1 _ _)⟩
theorem zqx (o:Oper)(ρ:Operand→Value)(w:World)(x y z:Value)(ts:Array TypeId)(ho:o.op=Op.call {callee:=.value (.tmp 28),args:=#[.tmp 29,.tmp 33,.tmp 34],argTypes:=ts})(h1:ρ (.tmp 28)=.func (.func 36) #[] #[])(h2:ρ (.tmp 29)=x)(h3:ρ (.tmp 33)=y)(h4:ρ (.tmp 34)=z):
  (execOp ρ o).run Tryz.prog w=.ok (.enter 36 #[x,y,z]) w:=by
 simp only[execOp,ho]
 go_simp
theorem zm4 (a:Option Addr)(c:Nat)(l:List Ac)(w:World)(LX:List Nat)(hA:SegA (zan w LX) a l)(hlen:l.length≤maxLen)(hok:∀x∈l,OkA x)(hLX:∀x∈LX,x<w.heap.size):
  Calls Tryz.prog 21 #[.slice a l.length c,.func (.func 36) #[] #[]] w fun e w'=>∃B,e=.returned (.tuple #[.pointer (some ⟨B,0,none⟩),.bool true])∧w.heap.size≤B∧JAt w' B (B::LX) (jOf l (played l))∧Below w.heap.size w w':=by
 refine(ztz _ 36 (fun x y z=>#[x,y,z]) zqx a c l w LX hA hlen hok hLX (fun _ W=>Below w.heap.size w W) (Below.refl _ _) ?_ ?_).mono ?_
 ·intro k W W' B h1 h2 h3 h4
  exact h1.trans ⟨h4.os,h4.tape,h4.output,h4.size,fun q hq=>h4.block q (by omega) (by simp;omega)⟩
 ·intro k W B hk hB hS hJ hX
  refine(zzr _ _ _ _ _ _ _ _ _ W).mono ?_
  rintro e W' ⟨rfl,hb⟩
  have hs:=hS.size
  exact⟨rfl,zad hS hb,hJ.below hb,ButL.of_below ⟨hb.os,hb.tape,hb.output,hb.size,fun q hq=>hb.block q (by omega)⟩,hb.size⟩
 ·rintro e w' ⟨B,rfl,h1,h2,h3,_⟩
  exact⟨B,rfl,h1,h3,h2⟩
theorem zwh {j:Jn}{a:Ac}(h:(doJ j a).2.code≠0):∃e x,(doJ j a).2=zap e∧(doJ j a).1={j with acts:=x}:=by
 by_cases hf:400≤j.acts
 ·exact⟨11,j.acts,by rw[doJ,if_pos hf],by rw[doJ,if_pos hf]⟩
 ·have e:doJ j a=doneJ {j with acts:=j.acts+1} a:=by rw[doJ,if_neg hf]
  rw[e] at h⊢
  have m:=zpo {j with acts:=j.acts+1} a
  revert h
  generalize (doneJ {j with acts:=j.acts+1} a).1=j' at *
  generalize (doneJ {j with acts:=j.acts+1} a).2=r at *
  intro h
  cases m with
  |no e he=>exact⟨e,j.acts+1,rfl,rfl⟩
  |last hk s hs he=>
   exfalso
   apply h
   rw[zbt]
   split
   ·rfl
   split
   ·rfl
   split
   ·rfl
   ·rfl
  |_=>exact absurd rfl h
theorem zqy (a:Option Addr)(c:Nat)(l:List Ac)(x:Ac)(w:World)(hA:SegA w a l)(hlen:l.length≤maxLen)(hok:∀y∈l,OkA y)(hx:OkA x):
  Calls Tryz.prog 11 #[.slice a l.length c,vAc x] w fun e w'=>e=.returned (.bool true)∧Below w.heap.size w w':=by
 unfold vAc
 have HA:=zaa hA
 have HOK:=zaa hok
 have HX:=zaa hx
 have HL:=zaa hlen
 clear hA hok hx hlen
 obtain⟨W0,hW0⟩:∃W0,W0=w.alloc (.cells #[.int .i64 x.kind,.int .i64 x.h,.int .i64 x.b,.int .i64 x.n,.string x.text] 23):=⟨_,rfl⟩
 have HB0:Hid (Below w.heap.size w W0):=by rw[hW0];exact below1 _ _
 have KX0:Hid (W0.heap[w.heap.size]?=some (.cells #[.int .i64 x.kind,.int .i64 x.h,.int .i64 x.b,.int .i64 x.n,.string x.text] 23 (0,0))):=by rw[hW0];exact heap_alloc_new _ _
 have hs0:W0.heap.size=w.heap.size+1:=by rw[hW0];simp
 have HW0:=zaa hW0
 clear hW0
 go_enter Tryz.func11,Tryz.ntmps11
 go_wp2_with fail
 rw[←HW0.o]
 clear HW0
 refine(zm4 a c l W0 [] (HA.o.ext (Ext.of_below HB0.o)) HL.o HOK.o (by simp)).mono ?_
 rintro e w1 ⟨B,rfl,hB,hJB,hb1⟩
 have H1:=zaa (zad HB0.o hb1)
 have KX1:=zaa (zac hb1 (by omega) KX0.o)
 have HJB:=zaa hJB
 have hBl:B<w1.heap.size:=hJB.lt
 have hs1:W0.heap.size≤w1.heap.size:=hb1.size
 clear hb1 hJB
 go_wp2_with fail
 have HA1:Hid (SegA (zan w1 [B]) a l):=by
  rcases HA.o with h0|⟨b,off,rfl,hlt,hc⟩
  ·exact .inl h0
  ·refine .inr ⟨b,off,rfl,by rw[za9];have:=H1.o.size;omega,fun i hi=>?_⟩
   have hn:b∉[B]:=by simp;omega
   obtain⟨g0,g1,g2,g3,g4⟩:=hc i hi
   exact⟨zbc hn (zab H1.o hlt g0),zbc hn (zab H1.o hlt g1),zbc hn (zab H1.o hlt g2),zbc hn (zab H1.o hlt g3),zbc hn (zab H1.o hlt g4)⟩
 refine(zm4 a c l w1 [B] HA1.o HL.o HOK.o (by simpa using hBl)).mono ?_
 rintro e w2 ⟨G,rfl,hG,hJG,hb2⟩
 have H2:=zaa (zad H1.o hb2)
 have KX2:=zaa (zac hb2 (by omega) KX1.o)
 have HJB2:=zaa (HJB.o.more hb2 hG)
 have HJG:=zaa hJG
 have hs2:w1.heap.size≤w2.heap.size:=hb2.size
 have hGl:G<w2.heap.size:=hJG.lt
 have HP:=zaa (zty l (played l))
 clear hb2 hJG HJB KX1 KX0 HA1 HB0
 obtain⟨jn,hjn⟩:∃jn,jn=jOf l (played l):=⟨_,rfl⟩
 rw[←hjn] at HJB2 HJG HP
 clear hjn
 obtain⟨⟨z0,z1,z2,z3,z4⟩,_⟩:=zhw KX2.o
 go_wp2_with fail
 refine(zi9 B [G,B] jn w2 HJB2.o (by simp;omega) HP.o.ready x HX.o.n HX.o.text).mono ?_
 rintro e w3 ⟨rfl,hJ3,hB3⟩
 have HJG3:=zaa (HJG.o.but hB3 (by simp) (by simp;omega))
 have H3:Hid (Below w.heap.size w w3):=H2.o.trans ⟨hB3.os,hB3.tape,hB3.output,hB3.size,fun q hq=>hB3.block q (by have:=H2.o.size;omega) (by simp;omega)⟩
 have HJ3:=zaa hJ3
 have hs3:w2.heap.size≤w3.heap.size:=hB3.size
 clear hJ3 hB3 z0 z1 z2 z3 z4
 obtain⟨P,hP⟩:∃P,P=doJ jn x:=⟨_,rfl⟩
 have HPP:Hid (PJ P.1):=by rw[hP];exact HP.o.do x
 have HRF:Hid (P.2.code≠0→∃e y,P.2=zap e∧P.1={jn with acts:=y}):=by rw[hP];exact zwh
 rw[←hP] at HJ3⊢
 rw[show vRp P.2=.agg #[.int .i64 P.2.code,.int .i64 P.2.n,.string P.2.text] from rfl]
 clear hP
 by_cases hc:P.2.code=0
 ·rw[hc]
  go_wp2
  go_ret
  exact⟨rfl,zad H3.o (below1 _ _)⟩
 ·obtain⟨e,y,hr,hj⟩:=HRF.o hc
  have hcb:(P.2.code==0)=false:=by simpa using hc
  have hn:P.2.n=0:=by rw[hr];rfl
  have ht:P.2.text=⟨#[]⟩:=by rw[hr];rfl
  rw[hn,ht]
  have HJE:=zaa hj
  clear hr hj hn ht hc
  generalize P.2.code=E at *
  go_wp2_with fail
  refine(z1m G [G,B] B [G,B] jn P.1 _ (HJG3.o.below (below1 _ _)) (HJ3.o.below (below1 _ _)) HP.o HPP.o (by rw[HJE.o]) (by rw[HJE.o]) (by rw[HJE.o]) (by rw[HJE.o]) (by rw[HJE.o]) (by rw[HJE.o])).mono ?_
  rintro e w4 ⟨rfl,hb4⟩
  have H4:=zaa (zad (zad H3.o (below1 _ _)) hb4)
  clear hb4
  go_wp2
  go_ret
  exact⟨rfl,H4.o⟩
end Go.Proofs.YtjnpndfpajjihacGreat

