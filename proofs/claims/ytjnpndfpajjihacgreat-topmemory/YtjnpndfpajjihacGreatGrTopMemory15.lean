/-
  
-/
import Derived.Test.YtjnpndfpajjihacGreatGrTopMemory12
import Derived.Test.YtjnpndfpajjihacGreatGrTopMemory14
import Derived.Lib.ConvBytes
set_option maxRecDepth 100000
set_option maxHeartbeats 40000000
namespace Go.Proofs.YtjnpndfpajjihacGreat
open Go.RowKit
theorem z06 (t:ByteArray)(w:World):∃(c':Nat) (w':World),(convert 9 139 (.string t)).run Tryz.prog w=.ok (.slice (some ⟨w.heap.size,0,none⟩) t.size c') w'∧Below w.heap.size w w'∧w'.heap.size=w.heap.size+1∧
  ∀j,j<t.size→w'.cell? ⟨w.heap.size,j,none⟩=some (.int .u8 (at8 t j)):=by
 have h:=run_bytes_of_string (P:=Tryz.prog) w 9 139 5 t Tryz.underlying9 Tryz.underlying139 Tryz.underlying5;refine⟨_,_,h,((Below.refl _ _).drew).alloc (by simp) _,by simp,fun j hj=>?_⟩;have e:(w.drew).heap.size=w.heap.size:=by simp
 rw[←e,World.cell?_alloc_mark,bytesRow,Array.getElem?_append_left (by simpa using hj),Array.getElem?_map];have hj':j<t.data.size:=hj;rw[Array.getElem?_eq_getElem hj'];have:=zik t j hj;simp only[Option.map_some,Option.some.injEq,Value.int.injEq,true_and];exact this
theorem zr4 (s:ByteArray)(a b j:Nat)(hb:b≤s.size)(h:a+j<b):at8 (s.extract a b) j=at8 s (a+j):=by
 have hz:j<(s.extract a b).size:=by rw[ByteArray.size_extract];omega
 rw[←zik _ j hz,←zik s (a+j) (by omega),ByteArray.getElem_extract]
theorem z26 (q c:Int)(hq:0≤q∧q≤4294967295)(hc:0≤c∧c≤255):bits .or .i64 (q*256) c=256*q+c:=by
 obtain⟨a,rfl⟩:=Int.eq_ofNat_of_zero_le hq.1;obtain⟨b,rfl⟩:=Int.eq_ofNat_of_zero_le hc.1;have e:((a:Int)*256)=((a*256:Nat):Int):=by omega
 have h1:(BitVec.ofInt 64 ((a*256:Nat):Int)).toNat=a*256:=by
  rw[BitVec.ofInt_natCast,BitVec.toNat_ofNat];exact Nat.mod_eq_of_lt (by omega)
 have h2:(BitVec.ofInt 64 (b:Int)).toNat=b:=by
  rw[BitVec.ofInt_natCast,BitVec.toNat_ofNat];exact Nat.mod_eq_of_lt (by omega)
 have h3:a*256|||b=a*256+b:=by
  have:=Nat.shiftLeft_add_eq_or_of_lt (show b<2^8 by omega) a;rw[Nat.shiftLeft_eq] at this;exact this.symm
 rw[e];show IntKind.i64.wrap ((BitVec.ofInt 64 ((a*256:Nat):Int)|||BitVec.ofInt 64 (b:Int)).toNat:Int)=_;rw[BitVec.toNat_or,h1,h2,h3,IntKind.wrap_i64];omega
def gsM (s:ByteArray):Mk:=⟨at8 s 4,zfb s 4,if at8 s 4=1 then at8 s 9 else 0,if at8 s 4=2 then zh3 s else[],if at8 s 4=3 then zda s else[]⟩
theorem zxu (s:ByteArray)(w:World)(hs:s.size=32):
  Calls Tryz.prog 189 #[.string s] w fun e w'=>∃v2,e=.returned v2∧IsMkN w' w.heap.size v2 (gsM s)∧Below w.heap.size w w':=by
 have hB:∀k (hk:k<s.size),((s[k]'hk).toNat:Int)=at8 s k:=zik s;have hW:=zil s;have hW':∀k,IntKind.i64.wrap (at8 s k)=at8 s k:=fun k=>by have:=zhs s k;rw[IntKind.wrap_i64];omega
 have hz:(s.extract 5 9).size=4:=by rw[ByteArray.size_extract];omega
 obtain⟨c2,w2,hcv,hb2,hs2,hc2⟩:=z06 (s.extract 5 9) ((w.alloc (Obj.cells #[.int .i64 0,.int .i64 0,.int .i64 0,.slice none 0 0,.slice none 0 0] 119)).alloc (Obj.cells #[.int .i64 (at8 s 4),.int .i64 0,.int .i64 0,.slice none 0 0,.slice none 0 0] 119));have hsz:((w.alloc (Obj.cells #[.int .i64 0,.int .i64 0,.int .i64 0,.slice none 0 0,.slice none 0 0] 119)).alloc (Obj.cells #[.int .i64 (at8 s 4),.int .i64 0,.int .i64 0,.slice none 0 0,.slice none 0 0] 119)).heap.size=w.heap.size+2:=by simp
 have HC2:Hid (∀j,j<4→w2.cell? ⟨w.heap.size+2,j,none⟩=some (.int .u8 (at8 s (5+j)))):=by
  intro j hj;rw[←hsz,hc2 j (by omega),zr4 s 5 9 j (by omega) (by omega)]
 have HB2:=zaa hb2;have HS2:Hid (w2.heap.size=w.heap.size+3):=by rw[Hid,hs2,hsz]
 rw[hsz,hz] at hcv;clear hc2 hb2 hs2 hsz;go_enter Tryz.func189,Tryz.ntmps189;go_wp2
 go_loopw [14] (fun i wr=>∃k:Nat,k≤4∧i=.int .i64 k∧wr.heap[w.heap.size+1]?=some (.cells #[.int .i64 (at8 s 4),.int .i64 (zfb s k),.int .i64 0,.slice none 0 0,.slice none 0 0] 119 (0,0))∧
  Hid (∀j,j<4→wr.cell? ⟨w.heap.size+2,j,none⟩=some (.int .u8 (at8 s (5+j))))∧w.heap.size+2<wr.heap.size∧
  Below (w.heap.size+1) (w.alloc (Obj.cells #[.int .i64 0,.int .i64 0,.int .i64 0,.slice none 0 0,.slice none 0 0] 119)) wr) (fun i _=>4 - (intOf i).toNat)
 case atStart=>
  refine⟨0,Nat.zero_le _,rfl,z41 HB2.o,HC2,by rw[HS2.o];omega,?_⟩;exact((Below.refl _ _).alloc (by simp) _).trans (HB2.o.mono (by simp))
 case round=>
  obtain⟨k,hk,rfl,hbox,hcs,hsr2,hbr⟩:=hrel;have HBOX:=zaa hbox;obtain⟨⟨x0,x1,x2,x3,x4⟩,e0,e1,e2,e3,e4⟩:=zie hbox;clear hbox;have hsr:w.heap.size+1<wr.heap.size:=by omega
  have hsr':w.heap.size<wr.heap.size:=by omega
  by_cases hlt:k<4
  ·have hlt':(k:Int)<4:=by omega
   have hck:=hcs.o k hlt;obtain⟨q,hq⟩:∃q,q=zfb s k:=⟨_,rfl⟩;have hq1:=z05 s k (by omega);rw[←hq] at x1 hq1;have HQ:=zaa hq;clear hq;have hor:=z26 q (at8 s (5+k)) hq1 (zhs s (5+k));go_wp2
   go_roundw
   case rel=>
    refine⟨k+1,by omega,by go_num,?_,?_,by simpa using hsr2,hbr.setCell (by simp) _⟩
    ·refine(heap_setCell_same wr _ _ _ _ _ HBOX.o).trans ?_
     rw[zfb,←HQ.o,Nat.add_comm k 5];rfl
    ·intro j hj
     exact ze4 (hcs.o j hj) (by simp)
   case measure=>simp[intOf];omega
  ·obtain rfl:k=4:=by omega
   obtain⟨⟨y0,y1,y2,y3,y4⟩,f0,f1,f2,f3,f4⟩:=zie (z42 hbr);have HB:=zaa (zae (zab _ _) (hbr.mono (by simp)));clear hbr hlt hk hcs hsr2;by_cases h1:at8 s 4=1
   ·have HG:Hid (gsM s=⟨at8 s 4,zfb s 4,at8 s 9,[],[]⟩):=by
     rw[Hid,gsM,if_pos h1,if_neg (by omega),if_neg (by omega)]
    go_wp2;refine bodyPost_ret (v:=.agg #[.int .i64 (at8 s 4),.int .i64 (zfb s 4),.int .i64 (at8 s 9),.slice none 0 0,.slice none 0 0]) (by simp[results,Tryz.results189,go_sem,y0,y1,y2,y3,y4,h1]) rfl ⟨_,rfl,?_,?_⟩
    ·rw[HG.o];exact⟨none,0,none,0,rfl,.inl rfl,.inl rfl,Nat.zero_le _,Nat.zero_le _,fun _ _ e=>(by cases e),fun _ _ e=>(by cases e)⟩
    ·repeat refine Below.setCell ?_ (by simp) _
     exact HB.o
   ·by_cases h2:at8 s 4=2
    ·have HG:Hid (gsM s=⟨at8 s 4,zfb s 4,0,zh3 s,[]⟩):=by
      rw[Hid,gsM,if_neg h1,if_pos h2,if_neg (by omega)]
     go_wp2_with fail;refine(zn2 s _ hs).mono ?_;rintro e w3 ⟨a3,c3,rfl,hS3,hb3⟩;have HS3:=zaa hS3;have hs3:w.heap.size+1<w3.heap.size:=by have:=hb3.size;omega
     have hs3':w.heap.size<w3.heap.size:=by omega
     obtain⟨⟨z0,z1,z2,z3,z4⟩,g0,g1,g2,g3,g4⟩:=zie ((hb3.block _ hsr).trans HBOX.o)
     replace y0:=zac hb3 (by omega) y0
     replace y1:=zac hb3 (by omega) y1
     replace y2:=zac hb3 (by omega) y2
     replace y3:=zac hb3 (by omega) y3
     replace y4:=zac hb3 (by omega) y4
     replace f0:=za3 hb3 (by omega) f0
     replace f1:=za3 hb3 (by omega) f1
     replace f2:=za3 hb3 (by omega) f2
     replace f3:=za3 hb3 (by omega) f3
     replace f4:=za3 hb3 (by omega) f4
     have HB3:=zaa (zae HB.o hb3);have n3:∀b off,a3=some ⟨b,off,none⟩→w.heap.size+2≤b:=fun b off e=>by have:=HS3.o.2 b off e;omega
     have N3:=zaa n3;clear hS3 hb3 x0 x1 x2 x3 x4 e0 e1 e2 e3 e4 n3;go_wp2;refine bodyPost_ret (v:=.agg #[.int .i64 (at8 s 4),.int .i64 (zfb s 4),.int .i64 0,.slice a3 (zh3 s).length c3,.slice none 0 0]) (by simp[results,Tryz.results189,go_sem,y0,y1,y2,y3,y4,h2]) rfl ⟨_,rfl,?_,?_⟩
     ·rw[HG.o]
      refine⟨a3,c3,none,0,rfl,?_,.inl rfl,?_,Nat.zero_le _,fun b off e=>(by have:=N3.o b off e;omega),fun _ _ e=>(by cases e)⟩
      ·repeat refine SegT.setNe ?_ (fun b off e=>by have:=N3.o b off e;simp;omega) _
       exact HS3.o.1
      ·show(zh3 s).length≤maxLen
       rw[zd2,zdd];unfold maxLen;omega
     ·repeat refine Below.setCell ?_ (by simp) _
      exact HB3.o
    ·by_cases h3:at8 s 4=3
     ·have HG:Hid (gsM s=⟨at8 s 4,zfb s 4,0,[],zda s⟩):=by
       rw[Hid,gsM,if_neg h1,if_neg h2,if_pos h3]
      go_wp2_with fail;refine(zk9 s _ hs).mono ?_;rintro e w3 ⟨a3,c3,rfl,hS3,hb3⟩;have HS3:=zaa hS3;have hs3:w.heap.size+1<w3.heap.size:=by have:=hb3.size;omega
      have hs3':w.heap.size<w3.heap.size:=by omega
      obtain⟨⟨z0,z1,z2,z3,z4⟩,g0,g1,g2,g3,g4⟩:=zie ((hb3.block _ hsr).trans HBOX.o)
      replace y0:=zac hb3 (by omega) y0
      replace y1:=zac hb3 (by omega) y1
      replace y2:=zac hb3 (by omega) y2
      replace y3:=zac hb3 (by omega) y3
      replace y4:=zac hb3 (by omega) y4
      replace f0:=za3 hb3 (by omega) f0
      replace f1:=za3 hb3 (by omega) f1
      replace f2:=za3 hb3 (by omega) f2
      replace f3:=za3 hb3 (by omega) f3
      replace f4:=za3 hb3 (by omega) f4
      have HB3:=zaa (zae HB.o hb3);have n3:∀b off,a3=some ⟨b,off,none⟩→w.heap.size+2≤b:=fun b off e=>by have:=HS3.o.2 b off e;omega
      have N3:=zaa n3;clear hS3 hb3 x0 x1 x2 x3 x4 e0 e1 e2 e3 e4 n3;go_wp2;refine bodyPost_ret (v:=.agg #[.int .i64 (at8 s 4),.int .i64 (zfb s 4),.int .i64 0,.slice none 0 0,.slice a3 (zda s).length c3]) (by simp[results,Tryz.results189,go_sem,y0,y1,y2,y3,y4,h3]) rfl ⟨_,rfl,?_,?_⟩
      ·rw[HG.o]
       refine⟨none,0,a3,c3,rfl,.inl rfl,?_,Nat.zero_le _,?_,fun _ _ e=>(by cases e),fun b off e=>(by have:=N3.o b off e;omega)⟩
       ·repeat refine SegI.setNe ?_ (fun b off e=>by have:=N3.o b off e;simp;omega) _
        exact HS3.o.1
       ·show(zda s).length≤maxLen
        rw[zc5,zdd];unfold maxLen;omega
      ·repeat refine Below.setCell ?_ (by simp) _
       exact HB3.o
     ·have HG:Hid (gsM s=⟨at8 s 4,zfb s 4,0,[],[]⟩):=by
       rw[Hid,gsM,if_neg h1,if_neg h2,if_neg h3]
      have k1:(at8 s 4==1)=false:=by simpa using h1
      have k2:(at8 s 4==2)=false:=by simpa using h2
      have k3:(at8 s 4==3)=false:=by simpa using h3
      go_wp2;refine bodyPost_ret (v:=.agg #[.int .i64 (at8 s 4),.int .i64 (zfb s 4),.int .i64 0,.slice none 0 0,.slice none 0 0]) (by simp[results,Tryz.results189,go_sem,y0,y1,y2,y3,y4]) rfl ⟨_,rfl,?_,?_⟩
      ·rw[HG.o];exact⟨none,0,none,0,rfl,.inl rfl,.inl rfl,Nat.zero_le _,Nat.zero_le _,fun _ _ e=>(by cases e),fun _ _ e=>(by cases e)⟩
      ·repeat refine Below.setCell ?_ (by simp) _
       exact HB.o
theorem z27 {s t:ByteArray}(h:¬t=s):(t.toList==s.toList)=false:=by
 rw[beq_eq_false_iff_ne];intro e;rw[ByteArray.toList_eq,ByteArray.toList_eq] at e;exact h (ByteArray.ext (Array.ext' e))
def zaq (s:ByteArray):Mk×Int:=if s.size=32∧goodM (gsM s)=0∧encT (gsM s)=s then(gsM s,0) else(zpi,1)
theorem zjh (s:ByteArray)(w:World)(h:¬s.size=32):
  Calls Tryz.prog 143 #[.string s] w fun e w'=>∃v2,e=.returned (.tuple #[v2,.int .i64 1])∧IsMkN w' w.heap.size v2 zpi∧Below w.heap.size w w':=by
 have h':((s.size:Int) !=32)=true:=by
  rw[bne_iff_ne];omega
 go_enter Tryz.func143,Tryz.ntmps143;go_wp2;refine bodyPost_ret (v:=.tuple #[.agg #[.int .i64 0,.int .i64 0,.int .i64 0,.slice none 0 0,.slice none 0 0],.int .i64 1]) (by simp[results,Tryz.results143,go_sem]) rfl ⟨_,rfl,zr2 _ _,?_⟩
 repeat refine Below.setCell ?_ (by simp) _
 exact zab _ _
theorem zki (s:ByteArray)(w:World)(h:s.size=32):
  Calls Tryz.prog 143 #[.string s] w fun e w'=>∃v2,e=.returned (.tuple #[v2,.int .i64 (zaq s).2])∧IsMkN w' w.heap.size v2 (zaq s).1∧Below w.heap.size w w':=by
 go_enter Tryz.func143,Tryz.ntmps143;go_wp2_with fail;refine(zxu s _ h).mono ?_;rintro e w1 ⟨v1,rfl,hd1,hb1⟩;obtain⟨m,hm⟩:∃m,m=gsM s:=⟨_,rfl⟩;rw[←hm] at hd1;obtain⟨a,c,a',c',rfl,hT,hI,hl,hl',hA,hA'⟩:=hd1;have HD1:Hid (IsMk w1 (.agg #[.int .i64 m.kind,.int .i64 m.seq,.int .i64 m.pos,.slice a m.tags.length c,.slice a' m.blocks.length c']) m):=⟨a,c,a',c',rfl,hT,hI,hl,hl'⟩;have HT:=zaa hT;have HI:=zaa hI;have HL:=zaa (And.intro hl hl');have HA:Hid ((∀b off,a=some ⟨b,off,none⟩→w.heap.size+1≤b)∧∀b off,a'=some ⟨b,off,none⟩→w.heap.size+1≤b):=⟨fun b off e=>(by have:=hA b off e;simp at this;omega),fun b off e=>(by have:=hA' b off e;simp at this;omega)⟩;clear hT hI hl hl' hA hA';have hs1:w.heap.size<w1.heap.size:=by have:=hb1.size;simp at this;omega
 obtain⟨⟨y0,y1,y2,y3,y4⟩,f0,f1,f2,f3,f4⟩:=zie (z3z hb1);have HB1:=zaa (zae (zab _ _) hb1);have HM:=zaa hm;clear hb1 hm;go_wp2_with fail;refine(zdn _ m _ (HD1.o.below (zab _ _))).mono ?_;rintro e w2 ⟨rfl,hb2⟩;have hs2:w1.heap.size<w2.heap.size:=by have:=hb2.size;simp at this;omega
 have hs2':w.heap.size<w2.heap.size:=by omega
 obtain⟨⟨x0,x1,x2,x3,x4⟩,_⟩:=zie (z3z hb2);have hb12:=zae (zab _ _) hb2
 replace y0:=zac hb12 (by omega) y0
 replace y1:=zac hb12 (by omega) y1
 replace y2:=zac hb12 (by omega) y2
 replace y3:=zac hb12 (by omega) y3
 replace y4:=zac hb12 (by omega) y4
 replace f0:=za3 hb12 (by omega) f0
 replace f1:=za3 hb12 (by omega) f1
 replace f2:=za3 hb12 (by omega) f2
 replace f3:=za3 hb12 (by omega) f3
 replace f4:=za3 hb12 (by omega) f4
 have HT2:=zaa (HT.o.below hb12);have HI2:=zaa (HI.o.below hb12);have HB2:=zaa (zae HB1.o hb12);clear hb2 hb12 HB1;by_cases hg:goodM m=0
 ·obtain⟨t,ht⟩:∃t,t=encT m:=⟨_,rfl⟩
  rw[←ht,hg];by_cases hE:t=s
  ·have HD:Hid (zaq s=(m,0)):=by
    rw[Hid,zaq,←HM.o,if_pos ⟨h,hg,by rw[←ht];exact hE⟩]
   clear ht hg;subst hE;go_wp2;refine bodyPost_ret (v:=.tuple #[.agg #[.int .i64 m.kind,.int .i64 m.seq,.int .i64 m.pos,.slice a m.tags.length c,.slice a' m.blocks.length c'],.int .i64 0]) (by simp[results,Tryz.results143,go_sem,y0,y1,y2,y3,y4]) rfl ⟨_,by rw[HD.o],?_,?_⟩
   ·rw[HD.o]
    refine⟨a,c,a',c',rfl,?_,?_,HL.o.1,HL.o.2,fun b off e=>(by have:=HA.o.1 b off e;omega),fun b off e=>(by have:=HA.o.2 b off e;omega)⟩
    ·repeat refine SegT.setNe ?_ (fun b off e=>by have:=HA.o.1 b off e;simp;omega) _
     exact HT2.o
    ·repeat refine SegI.setNe ?_ (fun b off e=>by have:=HA.o.2 b off e;simp;omega) _
     exact HI2.o
   ·repeat refine Below.setCell ?_ (by simp) _
    exact HB2.o
  ·have HD:Hid (zaq s=(zpi,1)):=by
    rw[Hid,zaq,←HM.o,if_neg (fun x=>hE (by rw[ht];exact x.2.2))]
   have hE':=z27 hE;clear ht hg;go_wp2;refine bodyPost_ret (v:=.tuple #[.agg #[.int .i64 0,.int .i64 0,.int .i64 0,.slice none 0 0,.slice none 0 0],.int .i64 1]) (by simp[results,Tryz.results143,go_sem,y0,y1,y2,y3,y4]) rfl ⟨_,by rw[HD.o],by rw[HD.o];exact zr2 _ _,?_⟩
   repeat refine Below.setCell ?_ (by simp) _
   exact HB2.o
 ·have HD:Hid (zaq s=(zpi,1)):=by
   rw[Hid,zaq,←HM.o,if_neg (fun x=>hg x.2.1)]
  have hg':(goodM m !=0)=true:=by simpa using hg
  go_wp2;refine bodyPost_ret (v:=.tuple #[.agg #[.int .i64 0,.int .i64 0,.int .i64 0,.slice none 0 0,.slice none 0 0],.int .i64 1]) (by simp[results,Tryz.results143,go_sem,y0,y1,y2,y3,y4]) rfl ⟨_,by rw[HD.o],by rw[HD.o];exact zr2 _ _,?_⟩
  repeat refine Below.setCell ?_ (by simp) _
  exact HB2.o
theorem zgh (s:ByteArray)(w:World):
  Calls Tryz.prog 143 #[.string s] w fun e w'=>∃v2,e=.returned (.tuple #[v2,.int .i64 (zaq s).2])∧IsMkN w' w.heap.size v2 (zaq s).1∧Below w.heap.size w w':=by
 by_cases h:s.size=32
 ·exact zki s w h
 ·have e:zaq s=(zpi,1):=if_neg fun x=>h x.1
  rw[e];exact zjh s w h
theorem zlb (s:ByteArray)(w:World):
  Calls Tryz.prog 143 #[.string s] w fun e w'=>∃v2,e=.returned (.tuple #[v2,.int .i64 (zaq s).2])∧IsMk w' v2 (zaq s).1∧Below w.heap.size w w':=
 (zgh s w).mono fun _ _ ⟨v2,h1,h2,h3⟩=>⟨v2,h1,h2.is,h3⟩
def zds (seq:Int):Tx:=⟨seq,[],[],[],⟨false,0⟩,⟨false,0⟩,⟨false,0⟩⟩
def copiesAt (log:List ByteArray):Nat→List (Int×Bool)→List (Int×ByteArray)
 |_,[]=>[]
 |i,x::r=>(x.1,zew (log.getD i ByteArray.empty) x.2)::copiesAt log (i+1) r
theorem zdo (log:List ByteArray)(i:Nat)(l:List (Int×Bool)):(copiesAt log i l).length=l.length:=by
 induction l generalizing i with
 |nil=>rfl
 |cons x r ih=>simp[copiesAt,ih]
theorem zn5 {l:List (Int×Bool)}{k:Nat}{x:Int×Bool}(h:l[k]?=some x)(log:List ByteArray)(i:Nat):copiesAt log i (l.take (k+1))=copiesAt log i (l.take k)++[(x.1,zew (log.getD (i+k) ByteArray.empty) x.2)]:=by
 induction l generalizing i k with
 |nil=>simp at h
 |cons y r ih=>
  cases k with
  |zero=>simp at h;subst h;rfl
  |succ k=>
   have:=ih (k:=k) (by simpa using h) (i+1);rw[List.take_succ_cons,List.take_succ_cons,copiesAt,copiesAt,this,show i+1+k=i+(k+1) from by omega];rfl
def more (log:List ByteArray)(i:Nat)(t:Tx)(m:Mk):Tx:={t with rev:=t.rev++m.blocks,info:=t.info++copiesAt log (i+1) m.tags}
def zex (log:List ByteArray)(seq:Int)(i:Nat)(t:Tx):Option (Nat×Tx):=
 if _h:i<log.length then
  if(zaq (log.getD i ByteArray.empty)).2≠0∨(zaq (log.getD i ByteArray.empty)).1.seq≠seq∨(zaq (log.getD i ByteArray.empty)).1.kind=1 then none
  else if(zaq (log.getD i ByteArray.empty)).1.kind=4 then some (i+1,t)
  else if i+1+(zaq (log.getD i ByteArray.empty)).1.tags.length≤log.length then zex log seq (i+1+(zaq (log.getD i ByteArray.empty)).1.tags.length) (more log i t (zaq (log.getD i ByteArray.empty)).1)
  else none
 else none
termination_by log.length - i
decreasing_by omega
def scanP (log:List ByteArray)(pos:Nat)(seq:Int)(acc:List Tx):List Tx×Nat:=
 if _h:seq<2147483647 then
  match zex log seq pos (zds seq) with
  |none=>(acc,pos)
  |some (n,t)=>scanP log n (seq+1) (acc++[t])
 else(acc,pos)
termination_by (2147483647 - seq).toNat
decreasing_by omega
def logOf (d:Dk)(at0:Int):List ByteArray:=(List.range 24).map fun i:Nat=>zal d (1+(at0+(i:Int))%24)
theorem za6 (d:Dk)(a:Int):(logOf d a).length=24:=by simp[logOf]
theorem zio (d:Dk)(a:Int)(i:Nat)(h:i<24):(logOf d a).getD i ByteArray.empty=zal d (1+(a+(i:Int))%24):=by
 rw[logOf,List.getD,List.getElem?_map,List.getElem?_range h];rfl
def zao (d:Dk):Mk:=(zaq (zal d 0)).1
def scanE (d:Dk):Int:=if readE d 0≠0 then readE d 0 else if(zaq (zal d 0)).2≠0∨(zao d).kind≠1 then 1 else 0
def zbv (d:Dk):List Tx×Nat:=scanP (logOf d (zao d).pos) 0 (zao d).seq []
theorem zde (log:List ByteArray)(seq:Int):∀(f i:Nat) (t:Tx) (n:Nat) (u:Tx),log.length - i≤f→zex log seq i t=some (n,u)→i<n∧n≤log.length:=by
 intro f
 induction f with
 |zero=>intro i t n u hf h;rw[zex,dif_neg (by omega)] at h;cases h
 |succ f ih=>
  intro i t n u hf h;rw[zex] at h;split at h
  ·split at h
   ·cases h
   ·split at h
    ·cases h;omega
    ·split at h
     ·have:=ih _ _ _ _ (by omega) h;omega
     ·cases h
  ·cases h
def Rd (w:World)(R:Nat)(a:Option Addr)(c:Nat)(a':Option Addr)(c':Nat)(d:Dk)(p0 i:Nat):Prop:=
 w.heap[R]?=some (.cells #[.slice a d.safe.length c,.slice a' d.wr.length c',.int .i64 (((p0+i)%24:Nat):Int),.int .i64 ((24 - i:Nat):Int)] 170 (0,0))
theorem z2o {w:World}{B:Nat}{v0 v1 v2 v3:Value}{t:TypeId}(h:w.heap[B]?=some (.cells #[v0,v1,v2,v3] t (0,0))):
  (w.cell? ⟨B,0,none⟩=some v0∧w.cell? ⟨B,1,none⟩=some v1∧w.cell? ⟨B,2,none⟩=some v2∧w.cell? ⟨B,3,none⟩=some v3)∧∀k,w.frozen? ⟨B,k,none⟩=false:=by
 refine⟨⟨?_,?_,?_,?_⟩,fun k=>frozen_of_row w _ _ _ _ h⟩<;>(rw[cell_of_row w _ _ _ _ _ h];rfl)
theorem But.below {R base:Nat}{w w' w0:World}(h:But R w.heap.size w w')(hb:Below base w0 w)(hw:base≤w.heap.size)(hR:base≤R):Below base w0 w':=
 ⟨h.os.trans hb.os,h.tape.trans hb.tape,h.output.trans hb.output,Nat.le_trans hb.size h.size,fun k hk=>(h.block k (by omega) (by omega)).trans (hb.block k hk)⟩
theorem But.setCell {R base o:Nat}{w w':World}(h:But R base w w')(u:Value):But R base w (w'.setCell ⟨R,o,none⟩ u):=by
 refine⟨h.os,h.tape,h.output,by simpa[World.setCell] using h.size,fun k hk hn=>?_⟩;rw[World.setCell];simp only[Array.getElem?_modify];rw[if_neg (fun x=>hn x.symm)];exact h.block k hk hn
theorem zxv {d:Dk}(h:za1 d=true){p:Nat}(hp:p<24):readE d (1+(p:Int))=0:=by
 have:zbx (1+(p:Int))=true:=by simp[zbx];omega
 simp[readE,h,this]
theorem zpk (R:Nat)(a:Option Addr)(c:Nat)(a':Option Addr)(c':Nat)(d:Dk)(p0:Nat)(w:World)(hR:Rd w R a c a' c' d p0 24):
  Calls Tryz.prog 190 #[.pointer (some ⟨R,0,none⟩)] w fun e w'=>e=.returned (.tuple #[.string ⟨#[]⟩,.bool false])∧w=w':=by
 obtain⟨⟨x0,x1,x2,x3⟩,ff⟩:=z2o hR;clear hR;simp only[Nat.sub_self] at x3;go_enter Tryz.func190,Tryz.ntmps190;go_wp2;exact bodyPost_ret (v:=.tuple #[.string ⟨#[]⟩,.bool false]) (by simp[results,Tryz.results190,go_sem]) rfl ⟨rfl,rfl⟩
theorem zm1 (R:Nat)(a:Option Addr)(c:Nat)(a':Option Addr)(c':Nat)(d:Dk)(p0 i:Nat)(w w0:World)(hR:Rd w R a c a' c' d p0 i)(hi:i<24)(hD:IsDk w0 (.agg #[.slice a d.safe.length c,.slice a' d.wr.length c']) d)(hg:za1 d=true)(hb:Below w0.heap.size w0 w):
  Calls Tryz.prog 190 #[.pointer (some ⟨R,0,none⟩)] w fun e w'=>e=.returned (.tuple #[.string (zal d (1+(((p0+i)%24:Nat):Int))),.bool true])∧Rd w' R a c a' c' d p0 (i+1)∧But R w.heap.size w w':=by
 have HR:=zaa hR;have hRl:R<w.heap.size:=(Array.getElem?_eq_some_iff.1 hR).1;obtain⟨p,hp⟩:∃p,p=(p0+i)%24:=⟨_,rfl⟩;have hp24:p<24:=by omega
 have HP2:Hid ((p0+(i+1))%24=(p+1)%24):=by rw[Hid,hp];omega
 have HP:=zaa hp;have HP0:Hid ((((p0+i)%24:Nat):Int)=(p:Int)):=by rw[Hid,←hp]
 obtain⟨⟨x0,x1,x2,x3⟩,ff⟩:=z2o hR;rw[←hp] at x2⊢;have HD:=zaa hD;have HBW:=zaa hb;have HE:=zaa (zxv hg hp24);clear hR hD hb hp;have hl0:((24 - i:Nat):Int)=24 - (i:Int):=by omega
 rw[hl0] at x3;have hne:((24 - (i:Int))==0)=false:=by rw[beq_eq_false_iff_ne];omega
 have ew:IntKind.i64.wrap (1+(p:Int))=1+(p:Int):=by rw[IntKind.wrap_i64];omega
 have ew2:IntKind.i64.wrap ((p:Int)+1)=(p:Int)+1:=by rw[IntKind.wrap_i64];omega
 have em:((p:Int)+1).tmod 24=(((p+1)%24:Nat):Int):=by rw[Int.tmod_eq_emod_of_nonneg (by omega)];omega
 go_enter Tryz.func190,Tryz.ntmps190;go_wp2
 go_region_with (go_at_call 55;refine(znw _ d (1+(p:Int)) _ (HD.o.below (zae HBW.o ((Below.refl _ _).drew)))).mono ?_;rintro e w1 ⟨rfl,hb1⟩;rw[HE.o];have hb1':Below w.heap.size w w1:=((Below.refl _ _).drew).trans hb1;have hR1:=zad hb1' hRl HR.o;obtain⟨⟨y0,y1,y2,y3⟩,fg⟩:=z2o hR1)
 all_goals
  have HR1:=zaa hR1;have HB1:=zaa hb1';rw[HP0.o] at y2;rw[hl0] at y3;clear hb1 hb1' hR1 x0 x1 x2 x3 ff HD HBW HR;go_wp2;refine bodyPost_ret (v:=.tuple #[.string (zal d (1+(p:Int))),.bool true]) (by simp[results,Tryz.results190,go_sem]) rfl ⟨rfl,?_,?_⟩
  ·have h1:=heap_setCell_same w1 R 2 _ _ (.int .i64 (((p+1)%24:Nat):Int)) HR1.o
   have h2:=heap_setCell_same _ R 3 _ _ (.int .i64 (24 - (i:Int) - 1)) h1;rw[Rd,HP2.o,show((24 - (i+1):Nat):Int)=24 - (i:Int) - 1 from by omega];exact h2
  ·exact((But.of_below HB1.o).setCell _).setCell _
theorem zm2 (d:Dk)(p0 i:Nat)(h:i<24):zal d (1+(((p0+i)%24:Nat):Int))=(logOf d p0).getD i ByteArray.empty:=by
 rw[zio d p0 i h]
 congr 2
theorem Rd.lt {w:World}{R:Nat}{a:Option Addr}{c:Nat}{a':Option Addr}{c':Nat}{d:Dk}{p0 i:Nat}(h:Rd w R a c a' c' d p0 i):R<w.heap.size:=(Array.getElem?_eq_some_iff.1 h).1
theorem Rd.below {w w':World}{R:Nat}{a:Option Addr}{c:Nat}{a':Option Addr}{c':Nat}{d:Dk}{p0 i:Nat}(h:Rd w R a c a' c' d p0 i)(hb:Below w.heap.size w w'):Rd w' R a c a' c' d p0 i:=zad hb h.lt h
theorem Rd.setNe {w:World}{R:Nat}{a:Option Addr}{c:Nat}{a':Option Addr}{c':Nat}{d:Dk}{p0 i:Nat}(h:Rd w R a c a' c' d p0 i){p:Addr}(hn:R≠p.block)(u:Value):Rd (w.setCell p u) R a c a' c' d p0 i:=by
 rw[Rd,World.setCell];simp only[Array.getElem?_modify];rw[if_neg (fun x=>hn x.symm)];exact h
theorem But.setNew {R base:Nat}{w w':World}(h:But R base w w'){p:Addr}(hp:base≤p.block)(u:Value):But R base w (w'.setCell p u):=by
 refine⟨h.os,h.tape,h.output,by simpa[World.setCell] using h.size,fun k hk hn=>?_⟩;rw[World.setCell];simp only[Array.getElem?_modify];rw[if_neg (by omega)];exact h.block k hk hn
theorem zr5 {w:World}{B:Nat}{z0 z1 z2 z3 z4:Value}{t:TypeId}(h:w.heap[B]?=some (.cells #[z0,z1,z2,z3,z4] t (0,0)))(v0 v1 v2 v3 v4:Value)(o:Obj):
  ((((((w.setCell ⟨B,0,none⟩ v0).setCell ⟨B,1,none⟩ v1).setCell ⟨B,2,none⟩ v2).setCell ⟨B,3,none⟩ v3).setCell ⟨B,4,none⟩ v4).alloc o).drew.heap[B]?=some (.cells #[v0,v1,v2,v3,v4] t (0,0)):=by
 have h0:=heap_setCell_same w B 0 _ _ v0 h;have h1:=heap_setCell_same _ B 1 _ _ v1 h0;have h2:=heap_setCell_same _ B 2 _ _ v2 h1;have h3:=heap_setCell_same _ B 3 _ _ v3 h2;have h4:=heap_setCell_same _ B 4 _ _ v4 h3;exact(zad (zae (zab _ o) ((Below.refl _ _).drew)) (Array.getElem?_eq_some_iff.1 h4).1 h4)
theorem zxw (R:Nat)(a:Option Addr)(c:Nat)(a':Option Addr)(c':Nat)(d:Dk)(p0:Nat)(seq:Int)(w:World)(hR:Rd w R a c a' c' d p0 24):
  Calls Tryz.prog 144 #[.pointer (some ⟨R,0,none⟩),.int .i64 seq] w fun e w'=>e=.returned (.tuple #[.agg #[.int .i64 0,.int .i64 0,.int .i64 0,.slice none 0 0,.slice none 0 0],.bool false])∧Below w.heap.size w w':=by
 have HR:=zaa hR;clear hR;go_enter Tryz.func144,Tryz.ntmps144;go_wp2_with fail;refine(zpk R a c a' c' d p0 _ (HR.o.below (zab _ _))).mono ?_;rintro e w1 ⟨rfl,rfl⟩;go_wp2;refine bodyPost_ret (v:=.tuple #[.agg #[.int .i64 0,.int .i64 0,.int .i64 0,.slice none 0 0,.slice none 0 0],.bool false]) (by simp[results,Tryz.results144,go_sem]) rfl ⟨rfl,?_⟩
 repeat refine Below.setCell ?_ (by simp) _
 exact zab _ _
theorem zvb (R:Nat)(a:Option Addr)(c:Nat)(a':Option Addr)(c':Nat)(d:Dk)(p0 i:Nat)(seq:Int)(w w0:World)(hR:Rd w R a c a' c' d p0 i)(hi:i<24)(hD:IsDk w0 (.agg #[.slice a d.safe.length c,.slice a' d.wr.length c']) d)(hg:za1 d=true)(hb:Below w0.heap.size w0 w):
  Calls Tryz.prog 144 #[.pointer (some ⟨R,0,none⟩),.int .i64 seq] w fun e w'=>∃v,e=.returned (.tuple #[v,.bool (decide ((zaq ((logOf d p0).getD i ByteArray.empty)).2=0)&&decide ((zaq ((logOf d p0).getD i ByteArray.empty)).1.seq=seq))])∧IsMkN w' w.heap.size v (zaq ((logOf d p0).getD i ByteArray.empty)).1∧Rd w' R a c a' c' d p0 (i+1)∧But R w.heap.size w w':=by
 have HR:=zaa hR;have hRl:=hR.lt;have HD:=zaa hD;have HBW:=zaa hb;clear hR hD hb;go_enter Tryz.func144,Tryz.ntmps144;go_wp2_with fail;refine(zm1 R a c a' c' d p0 i _ w0 (HR.o.below (zab _ _)) hi HD.o hg (zae HBW.o (zab _ _))).mono ?_;rintro e w1 ⟨rfl,hR1,hb1⟩;rw[zm2 d p0 i hi];obtain⟨s,hse⟩:∃s,s=(logOf d p0).getD i ByteArray.empty:=⟨_,rfl⟩;rw[←hse];have HSE:=zaa hse;clear hse;have HR1:=zaa hR1;have HB1:=zaa hb1;have hs1:w.heap.size+1≤w1.heap.size:=by have:=hb1.size;simpa using this
 have hs1':w.heap.size<w1.heap.size:=by omega
 have K4:Hid (w1.heap[w.heap.size]?=some (.cells #[.int .i64 0,.int .i64 0,.int .i64 0,.slice none 0 0,.slice none 0 0] 119 (0,0))):=(hb1.block _ (by simp) (by omega)).trans (heap_alloc_new w _);clear hR1 hb1 HR HD HBW;go_wp2_with fail;refine(zgh s _).mono ?_;rintro e w2 ⟨v2,rfl,hN,hb2⟩;obtain⟨a2,c2,a3,c3,rfl,hT,hI,n1,n2,t1,t2⟩:=hN;obtain⟨m,hm⟩:∃m,m=zaq s:=⟨_,rfl⟩;rw[←hm] at hT hI n1 n2⊢;have HT:=zaa hT;have HI:=zaa hI;have HA:Hid ((∀b off,a2=some ⟨b,off,none⟩→w.heap.size+1≤b)∧∀b off,a3=some ⟨b,off,none⟩→w.heap.size+1≤b):=⟨fun b off e=>Nat.le_trans hs1 (t1 b off e),fun b off e=>Nat.le_trans hs1 (t2 b off e)⟩;have HR2:=zaa (HR1.o.below hb2);have K2:=zaa (zad hb2 hs1' K4.o);have HB2:Hid (But R w.heap.size w w2):=(((But.of_below (zab _ _)).trans HB1.o (by simp)).trans (But.of_below hb2) (by omega));have hs2:w.heap.size<w2.heap.size:=by have:=hb2.size;omega
 have N12:=zaa (And.intro n1 n2);have HZ:=zaa hm;clear hT hI n1 n2 t1 t2 hb2 HR1 HB1 K4 hm;obtain⟨⟨y0,y1,y2,y3,y4⟩,f0,f1,f2,f3,f4⟩:=zie K2.o;obtain⟨mk,er⟩:=m;by_cases he:er=0
 ·subst he
  by_cases hq:mk.seq=seq
  ·have hq':(mk.seq==seq)=true:=by simpa using hq
   go_wp2
   go_region
   all_goals
    obtain⟨W,hW⟩:∃W,W=((((((w2.setCell ⟨w.heap.size,0,none⟩ (.int .i64 mk.kind)).setCell ⟨w.heap.size,1,none⟩ (.int .i64 seq)).setCell ⟨w.heap.size,2,none⟩ (.int .i64 mk.pos)).setCell ⟨w.heap.size,3,none⟩ (.slice a2 mk.tags.length c2)).setCell ⟨w.heap.size,4,none⟩ (.slice a3 mk.blocks.length c3)).alloc (.cells #[.int .i64 mk.kind,.int .i64 seq,.int .i64 mk.pos,.slice a2 mk.tags.length c2,.slice a3 mk.blocks.length c3] 119)).drew:=⟨_,rfl⟩;have hbx:=zr5 K2.o (.int .i64 mk.kind) (.int .i64 seq) (.int .i64 mk.pos) (.slice a2 mk.tags.length c2) (.slice a3 mk.blocks.length c3) (.cells #[.int .i64 mk.kind,.int .i64 seq,.int .i64 mk.pos,.slice a2 mk.tags.length c2,.slice a3 mk.blocks.length c3] 119);rw[←hW] at hbx;obtain⟨⟨z0,z1,z2,z3,z4⟩,_⟩:=zie hbx;have HW:=zaa hW;rw[←hW];clear hW hbx y0 y1 y2 y3 y4 f0 f1 f2 f3 f4;go_wp2;refine bodyPost_ret (v:=.tuple #[.agg #[.int .i64 mk.kind,.int .i64 seq,.int .i64 mk.pos,.slice a2 mk.tags.length c2,.slice a3 mk.blocks.length c3],.bool true]) (by simp[results,Tryz.results144,go_sem,z0,z1,z2,z3,z4]) rfl ⟨.agg #[.int .i64 mk.kind,.int .i64 seq,.int .i64 mk.pos,.slice a2 mk.tags.length c2,.slice a3 mk.blocks.length c3],by rw[←HSE.o,←HZ.o];simp[hq],?_,?_,?_⟩
    ·rw[←HSE.o,←HZ.o]
     refine⟨a2,c2,a3,c3,by rw[hq],?_,?_,N12.o.1,N12.o.2,fun b off e=>(by have:=HA.o.1 b off e;omega),fun b off e=>(by have:=HA.o.2 b off e;omega)⟩
     ·rw[HW.o]
      refine SegT.below ?_ (zae (zab _ _) ((Below.refl _ _).drew))
      repeat refine SegT.setNe ?_ (fun b off e=>by have:=HA.o.1 b off e;simp;omega) _
      exact HT.o
     ·rw[HW.o]
      refine SegI.below ?_ (zae (zab _ _) ((Below.refl _ _).drew))
      repeat refine SegI.setNe ?_ (fun b off e=>by have:=HA.o.2 b off e;simp;omega) _
      exact HI.o
    ·rw[HW.o]
     refine Rd.below ?_ (zae (zab _ _) ((Below.refl _ _).drew))
     repeat refine Rd.setNe ?_ (show R≠w.heap.size by omega) _
     exact HR2.o
    ·rw[HW.o]
     refine But.trans ?_ (But.of_below (zae (zab _ _) ((Below.refl _ _).drew))) (by simp[World.setCell];omega);exact(((((HB2.o.setNew (p:=⟨w.heap.size,0,none⟩) (Nat.le_refl _) _).setNew (p:=⟨w.heap.size,1,none⟩) (Nat.le_refl _) _).setNew (p:=⟨w.heap.size,2,none⟩) (Nat.le_refl _) _).setNew (p:=⟨w.heap.size,3,none⟩) (Nat.le_refl _) _).setNew (p:=⟨w.heap.size,4,none⟩) (Nat.le_refl _) _)
  ·have hq':(mk.seq==seq)=false:=by simpa using hq
   go_wp2
   go_region
   all_goals
    obtain⟨W,hW⟩:∃W,W=((((((w2.setCell ⟨w.heap.size,0,none⟩ (.int .i64 mk.kind)).setCell ⟨w.heap.size,1,none⟩ (.int .i64 mk.seq)).setCell ⟨w.heap.size,2,none⟩ (.int .i64 mk.pos)).setCell ⟨w.heap.size,3,none⟩ (.slice a2 mk.tags.length c2)).setCell ⟨w.heap.size,4,none⟩ (.slice a3 mk.blocks.length c3)).alloc (.cells #[.int .i64 mk.kind,.int .i64 mk.seq,.int .i64 mk.pos,.slice a2 mk.tags.length c2,.slice a3 mk.blocks.length c3] 119)).drew:=⟨_,rfl⟩;have hbx:=zr5 K2.o (.int .i64 mk.kind) (.int .i64 mk.seq) (.int .i64 mk.pos) (.slice a2 mk.tags.length c2) (.slice a3 mk.blocks.length c3) (.cells #[.int .i64 mk.kind,.int .i64 mk.seq,.int .i64 mk.pos,.slice a2 mk.tags.length c2,.slice a3 mk.blocks.length c3] 119);rw[←hW] at hbx;obtain⟨⟨z0,z1,z2,z3,z4⟩,_⟩:=zie hbx;have HW:=zaa hW;rw[←hW];clear hW hbx y0 y1 y2 y3 y4 f0 f1 f2 f3 f4;go_wp2;refine bodyPost_ret (v:=.tuple #[.agg #[.int .i64 mk.kind,.int .i64 mk.seq,.int .i64 mk.pos,.slice a2 mk.tags.length c2,.slice a3 mk.blocks.length c3],.bool false]) (by simp[results,Tryz.results144,go_sem,z0,z1,z2,z3,z4]) rfl ⟨.agg #[.int .i64 mk.kind,.int .i64 mk.seq,.int .i64 mk.pos,.slice a2 mk.tags.length c2,.slice a3 mk.blocks.length c3],by rw[←HSE.o,←HZ.o];simp[hq],?_,?_,?_⟩
    ·rw[←HSE.o,←HZ.o]
     refine⟨a2,c2,a3,c3,rfl,?_,?_,N12.o.1,N12.o.2,fun b off e=>(by have:=HA.o.1 b off e;omega),fun b off e=>(by have:=HA.o.2 b off e;omega)⟩
     ·rw[HW.o]
      refine SegT.below ?_ (zae (zab _ _) ((Below.refl _ _).drew))
      repeat refine SegT.setNe ?_ (fun b off e=>by have:=HA.o.1 b off e;simp;omega) _
      exact HT.o
     ·rw[HW.o]
      refine SegI.below ?_ (zae (zab _ _) ((Below.refl _ _).drew))
      repeat refine SegI.setNe ?_ (fun b off e=>by have:=HA.o.2 b off e;simp;omega) _
      exact HI.o
    ·rw[HW.o]
     refine Rd.below ?_ (zae (zab _ _) ((Below.refl _ _).drew))
     repeat refine Rd.setNe ?_ (show R≠w.heap.size by omega) _
     exact HR2.o
    ·rw[HW.o]
     refine But.trans ?_ (But.of_below (zae (zab _ _) ((Below.refl _ _).drew))) (by simp[World.setCell];omega);exact(((((HB2.o.setNew (p:=⟨w.heap.size,0,none⟩) (Nat.le_refl _) _).setNew (p:=⟨w.heap.size,1,none⟩) (Nat.le_refl _) _).setNew (p:=⟨w.heap.size,2,none⟩) (Nat.le_refl _) _).setNew (p:=⟨w.heap.size,3,none⟩) (Nat.le_refl _) _).setNew (p:=⟨w.heap.size,4,none⟩) (Nat.le_refl _) _)
 ·have he':(er==0)=false:=by simpa using he
  go_wp2
  go_region
  all_goals
   obtain⟨W,hW⟩:∃W,W=((((((w2.setCell ⟨w.heap.size,0,none⟩ (.int .i64 mk.kind)).setCell ⟨w.heap.size,1,none⟩ (.int .i64 mk.seq)).setCell ⟨w.heap.size,2,none⟩ (.int .i64 mk.pos)).setCell ⟨w.heap.size,3,none⟩ (.slice a2 mk.tags.length c2)).setCell ⟨w.heap.size,4,none⟩ (.slice a3 mk.blocks.length c3)).alloc (.cells #[.int .i64 mk.kind,.int .i64 mk.seq,.int .i64 mk.pos,.slice a2 mk.tags.length c2,.slice a3 mk.blocks.length c3] 119)).drew:=⟨_,rfl⟩;have hbx:=zr5 K2.o (.int .i64 mk.kind) (.int .i64 mk.seq) (.int .i64 mk.pos) (.slice a2 mk.tags.length c2) (.slice a3 mk.blocks.length c3) (.cells #[.int .i64 mk.kind,.int .i64 mk.seq,.int .i64 mk.pos,.slice a2 mk.tags.length c2,.slice a3 mk.blocks.length c3] 119);rw[←hW] at hbx;obtain⟨⟨z0,z1,z2,z3,z4⟩,_⟩:=zie hbx;have HW:=zaa hW;rw[←hW];clear hW hbx y0 y1 y2 y3 y4 f0 f1 f2 f3 f4;go_wp2;refine bodyPost_ret (v:=.tuple #[.agg #[.int .i64 mk.kind,.int .i64 mk.seq,.int .i64 mk.pos,.slice a2 mk.tags.length c2,.slice a3 mk.blocks.length c3],.bool false]) (by simp[results,Tryz.results144,go_sem,z0,z1,z2,z3,z4]) rfl ⟨.agg #[.int .i64 mk.kind,.int .i64 mk.seq,.int .i64 mk.pos,.slice a2 mk.tags.length c2,.slice a3 mk.blocks.length c3],by rw[←HSE.o,←HZ.o];simp[he],?_,?_,?_⟩
   ·rw[←HSE.o,←HZ.o]
    refine⟨a2,c2,a3,c3,rfl,?_,?_,N12.o.1,N12.o.2,fun b off e=>(by have:=HA.o.1 b off e;omega),fun b off e=>(by have:=HA.o.2 b off e;omega)⟩
    ·rw[HW.o]
     refine SegT.below ?_ (zae (zab _ _) ((Below.refl _ _).drew))
     repeat refine SegT.setNe ?_ (fun b off e=>by have:=HA.o.1 b off e;simp;omega) _
     exact HT.o
    ·rw[HW.o]
     refine SegI.below ?_ (zae (zab _ _) ((Below.refl _ _).drew))
     repeat refine SegI.setNe ?_ (fun b off e=>by have:=HA.o.2 b off e;simp;omega) _
     exact HI.o
   ·rw[HW.o]
    refine Rd.below ?_ (zae (zab _ _) ((Below.refl _ _).drew))
    repeat refine Rd.setNe ?_ (show R≠w.heap.size by omega) _
    exact HR2.o
   ·rw[HW.o]
    refine But.trans ?_ (But.of_below (zae (zab _ _) ((Below.refl _ _).drew))) (by simp[World.setCell];omega);exact(((((HB2.o.setNew (p:=⟨w.heap.size,0,none⟩) (Nat.le_refl _) _).setNew (p:=⟨w.heap.size,1,none⟩) (Nat.le_refl _) _).setNew (p:=⟨w.heap.size,2,none⟩) (Nat.le_refl _) _).setNew (p:=⟨w.heap.size,3,none⟩) (Nat.le_refl _) _).setNew (p:=⟨w.heap.size,4,none⟩) (Nat.le_refl _) _)
def bl (s:ByteArray):List UInt8:=s.data.toList
theorem zyv (s:ByteArray):(bl s).length=s.size:=rfl
theorem z4f {s t:ByteArray}(h:bl s=bl t):s=t:=ByteArray.ext (Array.ext' h)
theorem zb9 (s t:ByteArray):bl (s++t)=bl s++bl t:=by simp[bl,ByteArray.data_append]
theorem zli (s:ByteArray)(k:Nat):at8 s k=(((bl s).getD k 0).toNat:Int):=by
 by_cases h:k<s.size
 ·rw[←zik s k h,List.getD,List.getElem?_eq_getElem (show k<(bl s).length from h)];rfl
 ·have h':¬k<s.data.size:=h
  rw[List.getD,List.getElem?_eq_none (by rw[zyv];omega)];unfold at8;show((s.data[k]!).toNat:Int)=_;rw[getElem!_neg s.data k h'];rfl
theorem zqc (s:ByteArray)(h:4≤s.size):isMagic s=true↔at8 s 0=87∧at8 s 1=66∧at8 s 2=75∧at8 s 3=49:=by
 have e:(s.extract 0 4).toList=(bl s).take 4:=by
  rw[ByteArray.toList_eq];simp[bl,ByteArray.data_extract]
 rw[isMagic,if_pos h,e,beq_iff_eq,zli,zli,zli,zli];have hl:4≤(bl s).length:=h
 match hb:bl s,hl with
 |a::b::c::d::r,_=>
  simp only[List.take_succ_cons,List.take_zero,List.cons.injEq,and_true,List.getD_cons_zero,List.getD_cons_succ];constructor
  ·rintro⟨rfl,rfl,rfl,rfl⟩;exact⟨rfl,rfl,rfl,rfl⟩
  ·rintro⟨h1,h2,h3,h4⟩
   exact⟨UInt8.toNat_inj.1 (by show a.toNat=87;omega),UInt8.toNat_inj.1 (by show b.toNat=66;omega),UInt8.toNat_inj.1 (by show c.toNat=75;omega),UInt8.toNat_inj.1 (by show d.toNat=49;omega)⟩
def zvx (k q:Int):List UInt8:=[87,66,75,49,UInt8.ofNat k.toNat,UInt8.ofNat (q/16777216).toNat,UInt8.ofNat (q/65536%256).toNat,UInt8.ofNat (q/256%256).toNat,UInt8.ofNat (q%256).toNat]
def z0o:List (Int×Bool)→List UInt8
 |[]=>[]
 |x::r=>UInt8.ofNat x.1.toNat::(if x.2 then 1 else 0)::z0o r
def z2s (l:List Int):List UInt8:=l.map fun x=>UInt8.ofNat x.toNat
def zf7 (m:Mk):List UInt8:=
 if m.kind=1 then[UInt8.ofNat m.pos.toNat] else if m.kind=2 then UInt8.ofNat m.tags.length::z0o m.tags else if m.kind=3 then UInt8.ofNat m.blocks.length::z2s m.blocks else[]
theorem zht (n:Nat):bl (zd8 n)=[UInt8.ofNat n]:=rfl
theorem zok (k q:Int):bl (zmc k q)=zvx k q:=by
 rw[zmc,zb9,zb9,zb9,zb9,zb9,zht,zht,zht,zht,zht];rfl
theorem z3e (s:ByteArray)(l:List (Int×Bool)):bl (zgf s l)=bl s++z0o l:=by
 induction l generalizing s with
 |nil=>simp[zgf,z0o]
 |cons x r ih=>
  rw[zgf,ih,zb9,zb9,zht,z0o];have:bl (if x.2 then(⟨#[1]⟩:ByteArray) else⟨#[0]⟩)=[if x.2 then 1 else 0]:=by cases x.2<;>rfl
  rw[this];simp
theorem z3f (s:ByteArray)(l:List Int):bl (zgg s l)=bl s++z2s l:=by
 induction l generalizing s with
 |nil=>simp[zgg,z2s]
 |cons x r ih=>rw[zgg,ih,zb9,zht];simp[z2s]
theorem zyw (m:Mk):bl (zn3 m)=zvx m.kind m.seq++zf7 m:=by
 unfold zn3 zf7;by_cases h1:m.kind=1
 ·rw[if_pos h1,if_pos h1,zb9,zok,zht]
 ·rw[if_neg h1,if_neg h1]
  by_cases h2:m.kind=2
  ·rw[if_pos h2,if_pos h2,z3e,zb9,zok,zht];simp
  ·rw[if_neg h2,if_neg h2]
   by_cases h3:m.kind=3
   ·rw[if_pos h3,if_pos h3,z3f,zb9,zok,zht];simp
   ·rw[if_neg h3,if_neg h3,zok];simp
theorem zso (l:List (Int×Bool)):(z0o l).length=2*l.length:=by
 induction l with
 |nil=>rfl
 |cons x r ih=>simp only[z0o,List.length_cons,ih];omega
theorem zsp (l:List Int):(z2s l).length=l.length:=by simp[z2s]
theorem zj2 {m:Mk}(h:goodM m=0):(zf7 m).length≤21:=by
 obtain⟨_,_,_,ht,hb,_,_⟩:=zfr h;unfold zf7;by_cases h1:m.kind=1
 ·rw[if_pos h1];simp
 ·rw[if_neg h1]
  by_cases h2:m.kind=2
  ·rw[if_pos h2,List.length_cons,zso];have:=ht h2;omega
  ·rw[if_neg h2]
   by_cases h3:m.kind=3
   ·rw[if_pos h3,List.length_cons,zsp];have:=hb h3;omega
   ·rw[if_neg h3];simp
theorem zyx {m:Mk}(h:goodM m=0):bl (encT m)=zvx m.kind m.seq++(zf7 m++List.replicate (23 - (zf7 m).length) 0):=by
 have hl:=zj2 h;have hb:(bl (zn3 m)).length=9+(zf7 m).length:=by rw[zyw,List.length_append];rfl
 have hs:(zn3 m).size=9+(zf7 m).length:=hb;rw[encT,if_pos h];show z3w (zn3 m)=_;rw[z3w,hs];show(bl (zn3 m)).take 32++_=_;rw[List.take_of_length_le (by omega),zyw,List.append_assoc,show 32 - (9+(zf7 m).length)=23 - (zf7 m).length from by omega]
theorem ze1 {m:Mk}(h:goodM m=0):(encT m).size=32:=by
 have hl:=zj2 h
 have:(bl (encT m)).length=32:=by
  rw[zyx h,List.length_append,List.length_append,List.length_replicate];show 9+_=32;omega
 exact this
theorem zky {m:Mk}(h:goodM m=0)(j:Nat):at8 (encT m) (9+j)=(((zf7 m).getD j 0).toNat:Int):=by
 rw[zli,zyx h,List.getD,List.getElem?_append_right (show(zvx m.kind m.seq).length≤9+j from Nat.le_add_right 9 j)];rw[show 9+j - (zvx m.kind m.seq).length=j from by show 9+j - 9=j;omega];by_cases hj:j<(zf7 m).length
 ·rw[List.getElem?_append_left hj,List.getD]
 ·rw[List.getElem?_append_right (by omega),List.getD,List.getElem?_eq_none (l:=zf7 m) (by omega),List.getElem?_replicate]
  split<;>rfl
theorem zj3 {x:Int}(h0:0≤x)(h1:x≤255):((UInt8.ofNat x.toNat).toNat:Int)=x:=by
 simp;omega
theorem zuh {m:Mk}(h:goodM m=0):at8 (encT m) 0=87∧at8 (encT m) 1=66∧at8 (encT m) 2=75∧at8 (encT m) 3=49∧at8 (encT m) 4=m.kind∧at8 (encT m) 5=m.seq/16777216∧at8 (encT m) 6=m.seq/65536%256∧at8 (encT m) 7=m.seq/256%256∧at8 (encT m) 8=m.seq%256:=by
 obtain⟨_,_,_,_,_,_,_⟩:=zfr h;simp only[zli,zyx h,zvx,List.cons_append,List.getD_cons_zero,List.getD_cons_succ];refine⟨rfl,rfl,rfl,rfl,zj3 (by omega) (by omega),zj3 (by omega) (by omega),zj3 (by omega) (by omega),zj3 (by omega) (by omega),zj3 (by omega) (by omega)⟩
theorem zyy {m:Mk}(h:goodM m=0):isMagic (encT m)=true:=by
 obtain⟨h0,h1,h2,h3,_⟩:=zuh h;exact(zqc _ (by rw[ze1 h];omega)).2 ⟨h0,h1,h2,h3⟩
theorem z3g (l:List (Int×Bool))(i:Nat)(x:Int×Bool)(h:l[i]?=some x):(z0o l).getD (2*i) 0=UInt8.ofNat x.1.toNat∧(z0o l).getD (2*i+1) 0=if x.2 then 1 else 0:=by
 induction l generalizing i with
 |nil=>simp at h
 |cons y r ih=>
  cases i with
  |zero=>simp at h;subst h;exact⟨rfl,rfl⟩
  |succ i=>
   have:=ih i (by simpa using h);rw[show 2*(i+1)=2*i+1+1 from by omega,z0o];simp only[List.getD_cons_succ];exact this
theorem z3h (l:List Int)(i:Nat)(x:Int)(h:l[i]?=some x):(z2s l).getD i 0=UInt8.ofNat x.toNat:=by
 rw[List.getD,z2s,List.getElem?_map,h];rfl
theorem back {m:Mk}(h:goodM m=0):gsM (encT m)=m:=by
 obtain⟨⟨k1,k2⟩,⟨q1,q2,p1,p2⟩,⟨f1,f2,f3⟩,ht,hb,hr,hr'⟩:=zfr h;obtain⟨_,_,_,_,h4,h5,h6,h7,h8⟩:=zuh h
 have hq:zfb (encT m) 4=m.seq:=by
  simp only[zfb];rw[show 0+5=5 from rfl,show 1+5=6 from rfl,show 2+5=7 from rfl,show 3+5=8 from rfl,h5,h6,h7,h8];omega
 have h9:=zky h 0;rw[show 9+0=9 from rfl] at h9;obtain⟨kind,seq,pos,tags,blocks⟩:=m;dsimp only at *;unfold gsM;rw[hq,h4];by_cases e1:kind=1
 ·rw[if_pos e1,if_neg (by omega),if_neg (by omega),f2 (by omega),f3 (by omega)]
  rw[zf7,if_pos e1] at h9;rw[f2 (by omega),f3 (by omega)] at h9;rw[h9];show Mk.mk kind seq ((UInt8.ofNat pos.toNat).toNat:Int) [] []=_;rw[zj3 (by omega) (by omega)]
 ·obtain rfl:=f1 e1
  rw[if_neg e1];by_cases e2:kind=2
  ·have hl:=ht e2
   rw[if_pos e2,if_neg (by omega),f3 (by omega)]
   have hmany:zdd (encT ⟨kind,seq,0,tags,blocks⟩) 10=tags.length:=by
    rw[zdd,h9,zf7,if_neg e1,if_pos e2];show min (((UInt8.ofNat tags.length).toNat:Int)).toNat 10=_;simp;omega
   have hg:zh3 (encT ⟨kind,seq,0,tags,blocks⟩)=tags:=by
    apply List.ext_getElem?;intro i;by_cases hi:i<tags.length
    ·rw[zn0 _ i (by rw[hmany];exact hi)]
     obtain⟨x,hx⟩:∃x,tags[i]?=some x:=⟨_,List.getElem?_eq_getElem hi⟩;have hbx:=zkn _ _ hr (by omega) x.1 (List.mem_map.2 ⟨x,List.mem_of_getElem? hx,rfl⟩);have hT:=z3g tags i x hx;have t1:=zky h (1+2*i);have t2:=zky h (2+2*i);rw[zf7,if_neg e1,if_pos e2] at t1 t2;rw[show 9+(1+2*i)=10+2*i from by omega,show 1+2*i=2*i+1 from by omega] at t1;rw[show 9+(2+2*i)=11+2*i from by omega,show 2+2*i=2*i+1+1 from by omega] at t2;simp only[List.getD_cons_succ] at t1 t2;rw[hT.1] at t1;rw[hT.2] at t2;rw[t1,t2,hx,zj3 (by omega) (by omega)];obtain⟨xi,f⟩:=x;cases f<;>rfl
    ·rw[List.getElem?_eq_none (by rw[zd2,hmany];omega),List.getElem?_eq_none (by omega)]
   have hf3:=f3 (by omega);subst hf3;rw[hg]
  ·rw[if_neg e2,f2 e2]
   by_cases e3:kind=3
   ·have hl:=hb e3
    rw[if_pos e3];have hf2:=f2 e2;subst hf2
    have hmany:zdd (encT ⟨kind,seq,0,[],blocks⟩) 20=blocks.length:=by
     rw[zdd,h9,zf7,if_neg e1,if_neg e2,if_pos e3];show min (((UInt8.ofNat blocks.length).toNat:Int)).toNat 20=_;simp;omega
    have hg:zda (encT ⟨kind,seq,0,[],blocks⟩)=blocks:=by
     apply List.ext_getElem?;intro i;by_cases hi:i<blocks.length
     ·rw[zjg _ i (by rw[hmany];exact hi)]
      obtain⟨x,hx⟩:∃x,blocks[i]?=some x:=⟨_,List.getElem?_eq_getElem hi⟩;have hbx:=zkn _ _ hr' (by omega) x (List.mem_of_getElem? hx);have t1:=zky h (1+i);rw[zf7,if_neg e1,if_neg e2,if_pos e3] at t1;rw[show 9+(1+i)=10+i from by omega,show 1+i=i+1 from by omega] at t1;simp only[List.getD_cons_succ] at t1;rw[z3h blocks i x hx] at t1;rw[t1,hx,zj3 (by omega) (by omega)]
     ·rw[List.getElem?_eq_none (by rw[zc5,hmany];omega),List.getElem?_eq_none (by omega)]
    rw[hg]
   ·rw[if_neg e3,f3 e3]
theorem zjm {m:Mk}(h:goodM m=0):zaq (encT m)=(m,0):=by
 rw[zaq,back h,if_pos ⟨ze1 h,h,rfl⟩]
theorem zqd {s:ByteArray}(h:isMagic s=false):zaq s=(zpi,1):=by
 refine if_neg fun x=>?_;have:=zyy x.2.1;rw[x.2.2,h] at this;cases this
theorem zvy {s:ByteArray}(hm:isMagic s=true):(bl s).take 4=[87,66,75,49]:=by
 have e:(s.extract 0 4).toList=(bl s).take 4:=by
  rw[ByteArray.toList_eq];simp[bl,ByteArray.data_extract]
 rw[isMagic,if_pos (zed hm),e,beq_iff_eq] at hm;exact hm
theorem zol (s:ByteArray):(escT s).size=s.size:=by
 unfold escT
 cases hm:isMagic s with
 |false=>rfl
 |true=>
  have:=zed hm;rw[if_pos rfl,ByteArray.size_append,ByteArray.size_extract];show 4+_=_;omega
theorem zyz (s:ByteArray):isMagic (escT s)=false:=by
 cases hm:isMagic s with
 |false=>rw[escT,hm];exact hm
 |true=>
  have h4:=zed hm
  cases he:isMagic (escT s) with
  |false=>rfl
  |true=>
   have:=((zqc _ (by rw[zol];exact h4)).1 he).1;rw[escT,if_pos hm,zli,zb9] at this;exact absurd this (by show¬((0:Int)=87);decide)
theorem zy0 (s:ByteArray):zew (escT s) (isMagic s)=s:=by
 cases hm:isMagic s with
 |false=>rw[escT,hm,zew,if_pos (.inl rfl)];rfl
 |true=>
  have h4:=zed hm;have hz:=zol s;rw[zew,if_neg (by rintro(h|h);cases h;omega)]
  have hE:bl (escT s)=[0,0,0,0]++(bl s).drop 4:=by
   rw[escT,if_pos hm,zb9]
   congr 1
   simp only[bl,ByteArray.data_extract,Array.toList_extract];rw[List.extract_eq_take_drop];apply List.take_of_length_le;rw[List.length_drop];exact Nat.le_refl _
  have hX:bl ((escT s).extract 4 (escT s).size)=(bl s).drop 4:=by
   have:bl ((escT s).extract 4 (escT s).size)=(bl (escT s)).drop 4:=by
    simp only[bl,ByteArray.data_extract,Array.toList_extract];rw[List.extract_eq_take_drop];apply List.take_of_length_le;rw[List.length_drop];exact Nat.le_refl _
   rw[this,hE];rfl
  apply z4f;have hM:bl (⟨#[87,66,75,49]⟩:ByteArray)=[87,66,75,49]:=rfl;rw[zb9,hX,hM,←zvy hm,List.take_append_drop]
end Go.Proofs.YtjnpndfpajjihacGreat

