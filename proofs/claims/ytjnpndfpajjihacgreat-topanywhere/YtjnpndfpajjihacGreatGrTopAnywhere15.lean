/-
  
-/
import Derived.Test.YtjnpndfpajjihacGreatGrTopAnywhere12
import Derived.Test.YtjnpndfpajjihacGreatGrTopAnywhere14
import Derived.Lib.ConvBytes
set_option maxRecDepth 100000
set_option maxHeartbeats 40000000
namespace Go.Proofs.YtjnpndfpajjihacGreat
open Go.Proofs.Tryz
open Go.RowKit
theorem z2g(t:ByteArray)(w:World):∃(c':Nat) (w':World),(convert 9 139 (.string t)).run prog w=.ok (.slice (some ⟨w.heap.size,0,none⟩) t.size c') w'∧Below w.heap.size w w'∧w'.heap.size=w.heap.size+1∧
  ∀j,j<t.size→w'.cell? ⟨w.heap.size,j,none⟩=some (.int .u8 (at8 t j)):=by
 have h:=run_bytes_of_string (P:=prog) w 9 139 5 t underlying9 underlying139 underlying5;refine⟨_,_,h,((Below.refl _ _).drew).alloc (by simp) _,by simp,fun j hj=>?_⟩;have e:(w.drew).heap.size=w.heap.size:=by simp
 rw[←e,World.cell?_alloc_mark,bytesRow,Array.getElem?_append_left (by simpa using hj),Array.getElem?_map];have A:j<t.data.size:=hj;rw[Array.getElem?_eq_getElem A];have:=zix t j hj;simp only[Option.map_some,Option.some.injEq,Value.int.injEq,true_and];exact this
theorem zso(s:ByteArray)(a b j:Nat)(hb:b≤s.size)(h:a+j<b):at8 (s.extract a b) j=at8 s (a+j):=by
 have A:j<(s.extract a b).size:=by rw[ByteArray.size_extract];omega
 rw[←zix _ j A,←zix s (a+j) (by omega),ByteArray.getElem_extract]
theorem z4h(q c:Int)(hq:0≤q∧q≤4294967295)(hc:0≤c∧c≤255):bits .or .i64 (q*256) c=256*q+c:=by
 obtain⟨a,rfl⟩:=Int.eq_ofNat_of_zero_le hq.1;obtain⟨b,rfl⟩:=Int.eq_ofNat_of_zero_le hc.1;have e:((a:Int)*256)=((a*256:Nat):Int):=by omega
 have B:(BitVec.ofInt 64 ((a*256:Nat):Int)).toNat=a*256:=by
  rw[BitVec.ofInt_natCast,BitVec.toNat_ofNat];exact Nat.mod_eq_of_lt (by omega)
 have A:(BitVec.ofInt 64 (b:Int)).toNat=b:=by
  rw[BitVec.ofInt_natCast,BitVec.toNat_ofNat];exact Nat.mod_eq_of_lt (by omega)
 have C:a*256|||b=a*256+b:=by
  have:=Nat.shiftLeft_add_eq_or_of_lt (show b<2^8 by omega) a;rw[Nat.shiftLeft_eq]at this;exact this.symm
 rw[e];show IntKind.i64.wrap ((BitVec.ofInt 64 ((a*256:Nat):Int)|||BitVec.ofInt 64 (b:Int)).toNat:Int)=_;rw[BitVec.toNat_or,B,A,C,IntKind.wrap_i64];omega
def gsM (s:ByteArray):Mk:=⟨at8 s 4,zfo s 4,if at8 s 4=1 then at8 s 9 else 0,if at8 s 4=2 then zig s else[],if at8 s 4=3 then zde s else[]⟩
theorem zyo(s:ByteArray)(w:World)(hs:s.size=32):
  Calls prog 189 #[.string s] w fun e w'=>∃v2,e=.returned v2∧IsMkN w' w.heap.size v2 (gsM s)∧Below w.heap.size w w':=by
 have hB:∀k (hk:k<s.size),((s[k]'hk).toNat:Int)=at8 s k:=zix s;have hW:=ziy s;have A8:∀k,IntKind.i64.wrap (at8 s k)=at8 s k:=fun k=>by have:=zh8 s k;rw[IntKind.wrap_i64];omega
 have hz:(s.extract 5 9).size=4:=by rw[ByteArray.size_extract];omega
 obtain⟨c2,w2,A1,p,u,x⟩:=z2g (s.extract 5 9) ((w.alloc (Obj.cells #[.int .i64 0,.int .i64 0,.int .i64 0,.slice none 0 0,.slice none 0 0] 119)).alloc (Obj.cells #[.int .i64 (at8 s 4),.int .i64 0,.int .i64 0,.slice none 0 0,.slice none 0 0] 119));have Q:((w.alloc (Obj.cells #[.int .i64 0,.int .i64 0,.int .i64 0,.slice none 0 0,.slice none 0 0] 119)).alloc (Obj.cells #[.int .i64 (at8 s 4),.int .i64 0,.int .i64 0,.slice none 0 0,.slice none 0 0] 119)).heap.size=w.heap.size+2:=by simp
 have A0:Hid (∀j,j<4→w2.cell? ⟨w.heap.size+2,j,none⟩=some (.int .u8 (at8 s (5+j)))):=by
  intro j hj;rw[←Q,x j (by omega),zso s 5 9 j (by omega) (by omega)]
 have r:=zaa p;have A3:Hid (w2.heap.size=w.heap.size+3):=by rw[Hid,u,Q]
 rw[Q,hz]at A1;clear x p u Q;go_enter func189,ntmps189;go_wp2
 go_loopw [14] (fun i wr=>∃k:Nat,k≤4∧i=.int .i64 k∧wr.heap[w.heap.size+1]?=some (.cells #[.int .i64 (at8 s 4),.int .i64 (zfo s k),.int .i64 0,.slice none 0 0,.slice none 0 0] 119 (0,0))∧
  Hid (∀j,j<4→wr.cell? ⟨w.heap.size+2,j,none⟩=some (.int .u8 (at8 s (5+j))))∧w.heap.size+2<wr.heap.size∧
  Below (w.heap.size+1) (w.alloc (Obj.cells #[.int .i64 0,.int .i64 0,.int .i64 0,.slice none 0 0,.slice none 0 0] 119)) wr) (fun i _=>4 - (intOf i).toNat)
 case atStart=>
  refine⟨0,Nat.zero_le _,rfl,z6m r.o,A0,by rw[A3.o];omega,?_⟩;exact((Below.refl _ _).alloc (by simp) _).trans (r.o.mono (by simp))
 case round=>
  obtain⟨k,hk,rfl,L,S,R,O⟩:=hrel;have K:=zaa L;obtain⟨⟨x0,z,x2,x3,x4⟩,e0,e1,e2,e3,e4⟩:=zhn L;clear L;have m:w.heap.size+1<wr.heap.size:=by omega
  have A5:w.heap.size<wr.heap.size:=by omega
  by_cases hlt:k<4
  ·have A4:(k:Int)<4:=by omega
   have A7:=S.o k hlt;obtain⟨q,hq⟩:∃q,q=zfo s k:=⟨_,rfl⟩;have n:=z2f s k (by omega);rw[←hq]at z n;have HQ:=zaa hq;clear hq;have A6:=z4h q (at8 s (5+k)) n (zh8 s (5+k));go_wp2
   go_roundw
   case rel=>
    refine⟨k+1,by omega,by go_num,?_,?_,by simpa using R,O.setCell (by simp) _⟩
    ·refine(heap_setCell_same wr _ _ _ _ _ K.o).trans ?_;rw[zfo,←HQ.o,Nat.add_comm k 5];rfl
    ·intro j hj;exact zff (S.o j hj) (by simp)
   case measure=>simp[intOf];omega
  ·obtain rfl:k=4:=by omega
   obtain⟨⟨J,D,I,E,F⟩,h,f1,l,d,c⟩:=zhn (z6n O);have a:=zaa (zae (zab _ _) (O.mono (by simp)));clear O hlt hk S R;by_cases h1:at8 s 4=1
   ·have N:Hid (gsM s=⟨at8 s 4,zfo s 4,at8 s 9,[],[]⟩):=by
     rw[Hid,gsM,if_pos h1,if_neg (by omega),if_neg (by omega)]
    go_wp2;refine bodyPost_ret (v:=.agg #[.int .i64 (at8 s 4),.int .i64 (zfo s 4),.int .i64 (at8 s 9),.slice none 0 0,.slice none 0 0]) (by simp[results,results189,go_sem,J,D,I,E,F,h1]) rfl ⟨_,rfl,?_,?_⟩
    ·rw[N.o];exact⟨none,0,none,0,rfl,.inl rfl,.inl rfl,Nat.zero_le _,Nat.zero_le _,fun _ _ e=>(by cases e),fun _ _ e=>(by cases e)⟩
    ·repeat refine Below.setCell ?_ (by simp) _
     exact a.o
   ·by_cases h2:at8 s 4=2
    ·have N:Hid (gsM s=⟨at8 s 4,zfo s 4,0,zig s,[]⟩):=by
      rw[Hid,gsM,if_neg h1,if_pos h2,if_neg (by omega)]
     go_wp2_with fail;refine(zok s _ hs).mono ?_;rintro e Y ⟨M,c3,rfl,C,A⟩;have B:=zaa C;have A2:w.heap.size+1<Y.heap.size:=by have:=A.size;omega
     have y:w.heap.size<Y.heap.size:=by omega
     obtain⟨⟨z0,z1,z2,z3,z4⟩,g0,g1,g2,g3,g4⟩:=zhn ((A.block _ m).trans K.o)
     replace J:=zac A (by omega) J
     replace D:=zac A (by omega) D
     replace I:=zac A (by omega) I
     replace E:=zac A (by omega) E
     replace F:=zac A (by omega) F
     replace h:=za8 A (by omega) h
     replace f1:=za8 A (by omega) f1
     replace l:=za8 A (by omega) l
     replace d:=za8 A (by omega) d
     replace c:=za8 A (by omega) c
     have Z:=zaa (zae a.o A);have U:∀b off,M=some ⟨b,off,none⟩→w.heap.size+2≤b:=fun b off e=>by have:=B.o.2 b off e;omega
     have X:=zaa U;clear C A x0 z x2 x3 x4 e0 e1 e2 e3 e4 U;go_wp2;refine bodyPost_ret (v:=.agg #[.int .i64 (at8 s 4),.int .i64 (zfo s 4),.int .i64 0,.slice M (zig s).length c3,.slice none 0 0]) (by simp[results,results189,go_sem,J,D,I,E,F,h2]) rfl ⟨_,rfl,?_,?_⟩
     ·rw[N.o];refine⟨M,c3,none,0,rfl,?_,.inl rfl,?_,Nat.zero_le _,fun b off e=>(by have:=X.o b off e;omega),fun _ _ e=>(by cases e)⟩
      ·repeat refine SegT.setNe ?_ (fun b off e=>by have:=X.o b off e;simp;omega) _
       exact B.o.1
      ·show(zig s).length≤maxLen;rw[zeb,zdi];unfold maxLen;omega
     ·repeat refine Below.setCell ?_ (by simp) _
      exact Z.o
    ·by_cases h3:at8 s 4=3
     ·have N:Hid (gsM s=⟨at8 s 4,zfo s 4,0,[],zde s⟩):=by
       rw[Hid,gsM,if_neg h1,if_neg h2,if_pos h3]
      go_wp2_with fail;refine(zlr s _ hs).mono ?_;rintro e Y ⟨M,c3,rfl,C,A⟩;have B:=zaa C;have A2:w.heap.size+1<Y.heap.size:=by have:=A.size;omega
      have y:w.heap.size<Y.heap.size:=by omega
      obtain⟨⟨z0,z1,z2,z3,z4⟩,g0,g1,g2,g3,g4⟩:=zhn ((A.block _ m).trans K.o)
      replace J:=zac A (by omega) J
      replace D:=zac A (by omega) D
      replace I:=zac A (by omega) I
      replace E:=zac A (by omega) E
      replace F:=zac A (by omega) F
      replace h:=za8 A (by omega) h
      replace f1:=za8 A (by omega) f1
      replace l:=za8 A (by omega) l
      replace d:=za8 A (by omega) d
      replace c:=za8 A (by omega) c
      have Z:=zaa (zae a.o A);have U:∀b off,M=some ⟨b,off,none⟩→w.heap.size+2≤b:=fun b off e=>by have:=B.o.2 b off e;omega
      have X:=zaa U;clear C A x0 z x2 x3 x4 e0 e1 e2 e3 e4 U;go_wp2;refine bodyPost_ret (v:=.agg #[.int .i64 (at8 s 4),.int .i64 (zfo s 4),.int .i64 0,.slice none 0 0,.slice M (zde s).length c3]) (by simp[results,results189,go_sem,J,D,I,E,F,h3]) rfl ⟨_,rfl,?_,?_⟩
      ·rw[N.o];refine⟨none,0,M,c3,rfl,.inl rfl,?_,Nat.zero_le _,?_,fun _ _ e=>(by cases e),fun b off e=>(by have:=X.o b off e;omega)⟩
       ·repeat refine SegI.setNe ?_ (fun b off e=>by have:=X.o b off e;simp;omega) _
        exact B.o.1
       ·show(zde s).length≤maxLen;rw[zc8,zdi];unfold maxLen;omega
      ·repeat refine Below.setCell ?_ (by simp) _
       exact Z.o
     ·have N:Hid (gsM s=⟨at8 s 4,zfo s 4,0,[],[]⟩):=by
       rw[Hid,gsM,if_neg h1,if_neg h2,if_neg h3]
      have k1:(at8 s 4==1)=false:=by simpa using h1
      have k2:(at8 s 4==2)=false:=by simpa using h2
      have k3:(at8 s 4==3)=false:=by simpa using h3
      go_wp2;refine bodyPost_ret (v:=.agg #[.int .i64 (at8 s 4),.int .i64 (zfo s 4),.int .i64 0,.slice none 0 0,.slice none 0 0]) (by simp[results,results189,go_sem,J,D,I,E,F]) rfl ⟨_,rfl,?_,?_⟩
      ·rw[N.o];exact⟨none,0,none,0,rfl,.inl rfl,.inl rfl,Nat.zero_le _,Nat.zero_le _,fun _ _ e=>(by cases e),fun _ _ e=>(by cases e)⟩
      ·repeat refine Below.setCell ?_ (by simp) _
       exact a.o
theorem z4i{s t:ByteArray}(h:¬t=s):(t.toList==s.toList)=false:=by
 rw[beq_eq_false_iff_ne];intro e;rw[ByteArray.toList_eq,ByteArray.toList_eq]at e;exact h (ByteArray.ext (Array.ext' e))
def zar (s:ByteArray):Mk×Int:=if s.size=32∧goodM (gsM s)=0∧encT (gsM s)=s then(gsM s,0) else(zp8,1)
theorem zju(s:ByteArray)(w:World)(h:¬s.size=32):
  Calls prog 143 #[.string s] w fun e w'=>∃v2,e=.returned (.tuple #[v2,.int .i64 1])∧IsMkN w' w.heap.size v2 zp8∧Below w.heap.size w w':=by
 have h':((s.size:Int) !=32)=true:=by
  rw[bne_iff_ne];omega
 go_enter func143,ntmps143;go_wp2;refine bodyPost_ret (v:=.tuple #[.agg #[.int .i64 0,.int .i64 0,.int .i64 0,.slice none 0 0,.slice none 0 0],.int .i64 1]) (by simp[results,results143,go_sem]) rfl ⟨_,rfl,zsm _ _,?_⟩
 repeat refine Below.setCell ?_ (by simp) _
 exact zab _ _
theorem zkz(s:ByteArray)(w:World)(h:s.size=32):
  Calls prog 143 #[.string s] w fun e w'=>∃v2,e=.returned (.tuple #[v2,.int .i64 (zar s).2])∧IsMkN w' w.heap.size v2 (zar s).1∧Below w.heap.size w w':=by
 go_enter func143,ntmps143;go_wp2_with fail;refine(zyo s _ h).mono ?_;rintro e Z ⟨v1,rfl,S,D⟩;obtain⟨m,k⟩:∃m,m=gsM s:=⟨_,rfl⟩;rw[←k]at S;obtain⟨a,c,L,Q,rfl,Y,d,i,J,u,U⟩:=S;have A0:Hid (IsMk Z (.agg #[.int .i64 m.kind,.int .i64 m.seq,.int .i64 m.pos,.slice a m.tags.length c,.slice L m.blocks.length Q]) m):=⟨a,c,L,Q,rfl,Y,d,i,J⟩;have HT:=zaa Y;have HI:=zaa d;have z:=zaa (And.intro i J);have R:Hid ((∀b off,a=some ⟨b,off,none⟩→w.heap.size+1≤b)∧∀b off,L=some ⟨b,off,none⟩→w.heap.size+1≤b):=⟨fun b off e=>(by have:=u b off e;simp at this;omega),fun b off e=>(by have:=U b off e;simp at this;omega)⟩;clear Y d i J u U;have A3:w.heap.size<Z.heap.size:=by have:=D.size;simp at this;omega
 obtain⟨⟨O,N,K,E,I⟩,f0,f1,r,q,p⟩:=zhn (z5k D);have X:=zaa (zae (zab _ _) D);have j:=zaa k;clear D k;go_wp2_with fail;refine(zds _ m _ (A0.o.below (zab _ _))).mono ?_;rintro e y ⟨rfl,C⟩;have A5:Z.heap.size<y.heap.size:=by have:=C.size;simp at this;omega
 have A1:w.heap.size<y.heap.size:=by omega
 obtain⟨⟨x0,x1,x2,x3,x4⟩,_⟩:=zhn (z5k C);have A:=zae (zab _ _) C
 replace O:=zac A (by omega) O
 replace N:=zac A (by omega) N
 replace K:=zac A (by omega) K
 replace E:=zac A (by omega) E
 replace I:=zac A (by omega) I
 replace f0:=za8 A (by omega) f0
 replace f1:=za8 A (by omega) f1
 replace r:=za8 A (by omega) r
 replace q:=za8 A (by omega) q
 replace p:=za8 A (by omega) p
 have l:=zaa (HT.o.below A);have n:=zaa (HI.o.below A);have M:=zaa (zae X.o A);clear C A X;by_cases hg:goodM m=0
 ·obtain⟨t,F⟩:∃t,t=encT m:=⟨_,rfl⟩;rw[←F,hg];by_cases hE:t=s
  ·have B:Hid (zar s=(m,0)):=by
    rw[Hid,zar,←j.o,if_pos ⟨h,hg,by rw[←F];exact hE⟩]
   clear F hg;subst hE;go_wp2;refine bodyPost_ret (v:=.tuple #[.agg #[.int .i64 m.kind,.int .i64 m.seq,.int .i64 m.pos,.slice a m.tags.length c,.slice L m.blocks.length Q],.int .i64 0]) (by simp[results,results143,go_sem,O,N,K,E,I]) rfl ⟨_,by rw[B.o],?_,?_⟩
   ·rw[B.o];refine⟨a,c,L,Q,rfl,?_,?_,z.o.1,z.o.2,fun b off e=>(by have:=R.o.1 b off e;omega),fun b off e=>(by have:=R.o.2 b off e;omega)⟩
    ·repeat refine SegT.setNe ?_ (fun b off e=>by have:=R.o.1 b off e;simp;omega) _
     exact l.o
    ·repeat refine SegI.setNe ?_ (fun b off e=>by have:=R.o.2 b off e;simp;omega) _
     exact n.o
   ·repeat refine Below.setCell ?_ (by simp) _
    exact M.o
  ·have B:Hid (zar s=(zp8,1)):=by
    rw[Hid,zar,←j.o,if_neg (fun x=>hE (by rw[F];exact x.2.2))]
   have A4:=z4i hE;clear F hg;go_wp2;refine bodyPost_ret (v:=.tuple #[.agg #[.int .i64 0,.int .i64 0,.int .i64 0,.slice none 0 0,.slice none 0 0],.int .i64 1]) (by simp[results,results143,go_sem,O,N,K,E,I]) rfl ⟨_,by rw[B.o],by rw[B.o];exact zsm _ _,?_⟩
   repeat refine Below.setCell ?_ (by simp) _
   exact M.o
 ·have B:Hid (zar s=(zp8,1)):=by
   rw[Hid,zar,←j.o,if_neg (fun x=>hg x.2.1)]
  have A2:(goodM m !=0)=true:=by simpa using hg
  go_wp2;refine bodyPost_ret (v:=.tuple #[.agg #[.int .i64 0,.int .i64 0,.int .i64 0,.slice none 0 0,.slice none 0 0],.int .i64 1]) (by simp[results,results143,go_sem,O,N,K,E,I]) rfl ⟨_,by rw[B.o],by rw[B.o];exact zsm _ _,?_⟩
  repeat refine Below.setCell ?_ (by simp) _
  exact M.o
theorem zgu(s:ByteArray)(w:World):
  Calls prog 143 #[.string s] w fun e w'=>∃v2,e=.returned (.tuple #[v2,.int .i64 (zar s).2])∧IsMkN w' w.heap.size v2 (zar s).1∧Below w.heap.size w w':=by
 by_cases h:s.size=32
 ·exact zkz s w h
 ·have e:zar s=(zp8,1):=if_neg fun x=>h x.1;rw[e];exact zju s w h
theorem zlt(s:ByteArray)(w:World):
  Calls prog 143 #[.string s] w fun e w'=>∃v2,e=.returned (.tuple #[v2,.int .i64 (zar s).2])∧IsMk w' v2 (zar s).1∧Below w.heap.size w w':=
 (zgu s w).mono fun _ _ ⟨v2,h1,h2,h3⟩=>⟨v2,h1,h2.is,h3⟩
def zct (seq:Int):Tx:=⟨seq,[],[],[],⟨false,0⟩,⟨false,0⟩,⟨false,0⟩⟩
def copiesAt (log:List ByteArray):Nat→List (Int×Bool)→List (Int×ByteArray)
 |_,[]=>[]
 |i,x::r=>(x.1,zfa (log.getD i ByteArray.empty) x.2)::copiesAt log (i+1) r
theorem zdt(log:List ByteArray)(i:Nat)(l:List (Int×Bool)):(copiesAt log i l).length=l.length:=by
 induction l generalizing i with
 |nil=>rfl
 |cons x r ih=>simp[copiesAt,ih]
theorem zon{l:List (Int×Bool)}{k:Nat}{x:Int×Bool}(h:l[k]?=some x)(log:List ByteArray)(i:Nat):copiesAt log i (l.take (k+1))=copiesAt log i (l.take k)++[(x.1,zfa (log.getD (i+k) ByteArray.empty) x.2)]:=by
 induction l generalizing i k with
 |nil=>simp at h
 |cons y r ih=>
  cases k with
  |zero=>simp at h;subst h;rfl
  |succ k=>
   have:=ih (k:=k) (by simpa using h) (i+1);rw[List.take_succ_cons,List.take_succ_cons,copiesAt,copiesAt,this,show i+1+k=i+(k+1) from by omega];rfl
def more (log:List ByteArray)(i:Nat)(t:Tx)(m:Mk):Tx:={t with rev:=t.rev++m.blocks,info:=t.info++copiesAt log (i+1) m.tags}
def zfb (log:List ByteArray)(seq:Int)(i:Nat)(t:Tx):Option (Nat×Tx):=
 if _h:i<log.length then
  if(zar (log.getD i ByteArray.empty)).2≠0∨(zar (log.getD i ByteArray.empty)).1.seq≠seq∨(zar (log.getD i ByteArray.empty)).1.kind=1 then none
  else if(zar (log.getD i ByteArray.empty)).1.kind=4 then some (i+1,t)
  else if i+1+(zar (log.getD i ByteArray.empty)).1.tags.length≤log.length then zfb log seq (i+1+(zar (log.getD i ByteArray.empty)).1.tags.length) (more log i t (zar (log.getD i ByteArray.empty)).1)
  else none
 else none
termination_by log.length - i
decreasing_by omega
def scanP (log:List ByteArray)(pos:Nat)(seq:Int)(acc:List Tx):List Tx×Nat:=
 if _h:seq<2147483647 then
  match zfb log seq pos (zct seq) with
  |none=>(acc,pos)
  |some (n,t)=>scanP log n (seq+1) (acc++[t])
 else(acc,pos)
termination_by (2147483647 - seq).toNat
decreasing_by omega
def logOf (d:Dk)(at0:Int):List ByteArray:=(List.range 24).map fun i:Nat=>zam d (1+(at0+(i:Int))%24)
theorem za5(d:Dk)(a:Int):(logOf d a).length=24:=by simp[logOf]
theorem zi1(d:Dk)(a:Int)(i:Nat)(h:i<24):(logOf d a).getD i ByteArray.empty=zam d (1+(a+(i:Int))%24):=by
 rw[logOf,List.getD,List.getElem?_map,List.getElem?_range h];rfl
def zap (d:Dk):Mk:=(zar (zam d 0)).1
def scanE (d:Dk):Int:=if readE d 0≠0 then readE d 0 else if(zar (zam d 0)).2≠0∨(zap d).kind≠1 then 1 else 0
def zbw (d:Dk):List Tx×Nat:=scanP (logOf d (zap d).pos) 0 (zap d).seq []
theorem zdj(log:List ByteArray)(seq:Int):∀(f i:Nat) (t:Tx) (n:Nat) (u:Tx),log.length - i≤f→zfb log seq i t=some (n,u)→i<n∧n≤log.length:=by
 intro f
 induction f with
 |zero=>intro i t n u A h;rw[zfb,dif_neg (by omega)]at h;cases h
 |succ f ih=>
  intro i t n u A h;rw[zfb]at h;split at h
  ·split at h
   ·cases h
   ·split at h
    ·cases h;omega
    ·split at h
     ·have:=ih _ _ _ _ (by omega) h;omega
     ·cases h
  ·cases h
open Go.Proofs.Tryz
def Rd (w:World)(R:Nat)(a:Option Addr)(c:Nat)(a':Option Addr)(c':Nat)(d:Dk)(p0 i:Nat):Prop:=
 w.heap[R]?=some (.cells #[.slice a d.safe.length c,.slice a' d.wr.length c',.int .i64 (((p0+i)%24:Nat):Int),.int .i64 ((24 - i:Nat):Int)] 170 (0,0))
theorem z30{w:World}{B:Nat}{v0 v1 v2 v3:Value}{t:TypeId}(h:w.heap[B]?=some (.cells #[v0,v1,v2,v3] t (0,0))):
  (w.cell? ⟨B,0,none⟩=some v0∧w.cell? ⟨B,1,none⟩=some v1∧w.cell? ⟨B,2,none⟩=some v2∧w.cell? ⟨B,3,none⟩=some v3)∧∀k,w.frozen? ⟨B,k,none⟩=false:=by
 refine⟨⟨?_,?_,?_,?_⟩,fun k=>frozen_of_row w _ _ _ _ h⟩<;>(rw[cell_of_row w _ _ _ _ _ h];rfl)
theorem But.below{R base:Nat}{w w' w0:World}(h:But R w.heap.size w w')(hb:Below base w0 w)(hw:base≤w.heap.size)(hR:base≤R):Below base w0 w':=
 ⟨h.os.trans hb.os,h.tape.trans hb.tape,h.output.trans hb.output,Nat.le_trans hb.size h.size,fun k hk=>(h.block k (by omega) (by omega)).trans (hb.block k hk)⟩
theorem But.setCell{R base o:Nat}{w w':World}(h:But R base w w')(u:Value):But R base w (w'.setCell ⟨R,o,none⟩ u):=by
 refine⟨h.os,h.tape,h.output,by simpa[World.setCell] using h.size,fun k hk hn=>?_⟩;rw[World.setCell];simp only[Array.getElem?_modify];rw[if_neg (fun x=>hn x.symm)];exact h.block k hk hn
theorem zyp{d:Dk}(h:za0 d=true){p:Nat}(hp:p<24):readE d (1+(p:Int))=0:=by
 have:zb0 (1+(p:Int))=true:=by simp[zb0];omega
 simp[readE,h,this]
theorem zqa(R:Nat)(a:Option Addr)(c:Nat)(a':Option Addr)(c':Nat)(d:Dk)(p0:Nat)(w:World)(hR:Rd w R a c a' c' d p0 24):
  Calls prog 190 #[.pointer (some ⟨R,0,none⟩)] w fun e w'=>e=.returned (.tuple #[.string ⟨#[]⟩,.bool false])∧w=w':=by
 obtain⟨⟨x0,x1,x2,A⟩,ff⟩:=z30 hR;clear hR;simp only[Nat.sub_self]at A;go_enter func190,ntmps190;go_wp2;exact bodyPost_ret (v:=.tuple #[.string ⟨#[]⟩,.bool false]) (by simp[results,results190,go_sem]) rfl ⟨rfl,rfl⟩
theorem znl(R:Nat)(a:Option Addr)(c:Nat)(a':Option Addr)(c':Nat)(d:Dk)(p0 i:Nat)(w w0:World)(hR:Rd w R a c a' c' d p0 i)(hi:i<24)(hD:IsDk w0 (.agg #[.slice a d.safe.length c,.slice a' d.wr.length c']) d)(hg:za0 d=true)(hb:Below w0.heap.size w0 w):
  Calls prog 190 #[.pointer (some ⟨R,0,none⟩)] w fun e w'=>e=.returned (.tuple #[.string (zam d (1+(((p0+i)%24:Nat):Int))),.bool true])∧Rd w' R a c a' c' d p0 (i+1)∧But R w.heap.size w w':=by
 have K:=zaa hR;have U:R<w.heap.size:=(Array.getElem?_eq_some_iff.1 hR).1;obtain⟨p,B⟩:∃p,p=(p0+i)%24:=⟨_,rfl⟩;have I:p<24:=by omega
 have N:Hid ((p0+(i+1))%24=(p+1)%24):=by rw[Hid,B];omega
 have HP:=zaa B;have O:Hid ((((p0+i)%24:Nat):Int)=(p:Int)):=by rw[Hid,←B]
 obtain⟨⟨m,b,X,L⟩,l⟩:=z30 hR;rw[←B]at X⊢;have S:=zaa hD;have D:=zaa hb;have Y:=zaa (zyp hg I);clear hR hD hb B;have E:((24 - i:Nat):Int)=24 - (i:Int):=by omega
 rw[E]at L;have A0:((24 - (i:Int))==0)=false:=by rw[beq_eq_false_iff_ne];omega
 have ew:IntKind.i64.wrap (1+(p:Int))=1+(p:Int):=by rw[IntKind.wrap_i64];omega
 have A1:IntKind.i64.wrap ((p:Int)+1)=(p:Int)+1:=by rw[IntKind.wrap_i64];omega
 have em:((p:Int)+1).tmod 24=(((p+1)%24:Nat):Int):=by rw[Int.tmod_eq_emod_of_nonneg (by omega)];omega
 go_enter func190,ntmps190;go_wp2
 go_region_with (go_at_call 55;refine(zk2 _ d (1+(p:Int)) _ (S.o.below (zae D.o ((Below.refl _ _).drew)))).mono ?_;rintro e M ⟨rfl,F⟩;rw[Y.o];have A:Below w.heap.size w M:=((Below.refl _ _).drew).trans F;have C:=zad A U K.o;obtain⟨⟨y0,y1,h,Z⟩,fg⟩:=z30 C)
 all_goals
  have J:=zaa C;have Q:=zaa A;rw[O.o]at h;rw[E]at Z;clear F A C m b X L l S D K;go_wp2;refine bodyPost_ret (v:=.tuple #[.string (zam d (1+(p:Int))),.bool true]) (by simp[results,results190,go_sem]) rfl ⟨rfl,?_,?_⟩
  ·have k:=heap_setCell_same M R 2 _ _ (.int .i64 (((p+1)%24:Nat):Int)) J.o;have j:=heap_setCell_same _ R 3 _ _ (.int .i64 (24 - (i:Int) - 1)) k;rw[Rd,N.o,show((24 - (i+1):Nat):Int)=24 - (i:Int) - 1 from by omega];exact j
  ·exact((But.of_below Q.o).setCell _).setCell _
theorem znm(d:Dk)(p0 i:Nat)(h:i<24):zam d (1+(((p0+i)%24:Nat):Int))=(logOf d p0).getD i ByteArray.empty:=by
 rw[zi1 d p0 i h]
 congr 2
theorem Rd.lt{w:World}{R:Nat}{a:Option Addr}{c:Nat}{a':Option Addr}{c':Nat}{d:Dk}{p0 i:Nat}(h:Rd w R a c a' c' d p0 i):R<w.heap.size:=(Array.getElem?_eq_some_iff.1 h).1
theorem Rd.below{w w':World}{R:Nat}{a:Option Addr}{c:Nat}{a':Option Addr}{c':Nat}{d:Dk}{p0 i:Nat}(h:Rd w R a c a' c' d p0 i)(hb:Below w.heap.size w w'):Rd w' R a c a' c' d p0 i:=zad hb h.lt h
theorem Rd.setNe{w:World}{R:Nat}{a:Option Addr}{c:Nat}{a':Option Addr}{c':Nat}{d:Dk}{p0 i:Nat}(h:Rd w R a c a' c' d p0 i){p:Addr}(hn:R≠p.block)(u:Value):Rd (w.setCell p u) R a c a' c' d p0 i:=by
 rw[Rd,World.setCell];simp only[Array.getElem?_modify];rw[if_neg (fun x=>hn x.symm)];exact h
theorem But.setNew{R base:Nat}{w w':World}(h:But R base w w'){p:Addr}(hp:base≤p.block)(u:Value):But R base w (w'.setCell p u):=by
 refine⟨h.os,h.tape,h.output,by simpa[World.setCell] using h.size,fun k hk hn=>?_⟩;rw[World.setCell];simp only[Array.getElem?_modify];rw[if_neg (by omega)];exact h.block k hk hn
theorem zsp{w:World}{B:Nat}{z0 z1 z2 z3 z4:Value}{t:TypeId}(h:w.heap[B]?=some (.cells #[z0,z1,z2,z3,z4] t (0,0)))(v0 v1 v2 v3 v4:Value)(o:Obj):
  ((((((w.setCell ⟨B,0,none⟩ v0).setCell ⟨B,1,none⟩ v1).setCell ⟨B,2,none⟩ v2).setCell ⟨B,3,none⟩ v3).setCell ⟨B,4,none⟩ v4).alloc o).drew.heap[B]?=some (.cells #[v0,v1,v2,v3,v4] t (0,0)):=by
 have D:=heap_setCell_same w B 0 _ _ v0 h;have F:=heap_setCell_same _ B 1 _ _ v1 D;have E:=heap_setCell_same _ B 2 _ _ v2 F;have C:=heap_setCell_same _ B 3 _ _ v3 E;have A:=heap_setCell_same _ B 4 _ _ v4 C;exact(zad (zae (zab _ o) ((Below.refl _ _).drew)) (Array.getElem?_eq_some_iff.1 A).1 A)
theorem zyq(R:Nat)(a:Option Addr)(c:Nat)(a':Option Addr)(c':Nat)(d:Dk)(p0:Nat)(seq:Int)(w:World)(hR:Rd w R a c a' c' d p0 24):
  Calls prog 144 #[.pointer (some ⟨R,0,none⟩),.int .i64 seq] w fun e w'=>e=.returned (.tuple #[.agg #[.int .i64 0,.int .i64 0,.int .i64 0,.slice none 0 0,.slice none 0 0],.bool false])∧Below w.heap.size w w':=by
 have A:=zaa hR;clear hR;go_enter func144,ntmps144;go_wp2_with fail;refine(zqa R a c a' c' d p0 _ (A.o.below (zab _ _))).mono ?_;rintro e w1 ⟨rfl,rfl⟩;go_wp2;refine bodyPost_ret (v:=.tuple #[.agg #[.int .i64 0,.int .i64 0,.int .i64 0,.slice none 0 0,.slice none 0 0],.bool false]) (by simp[results,results144,go_sem]) rfl ⟨rfl,?_⟩
 repeat refine Below.setCell ?_ (by simp) _
 exact zab _ _
theorem zv4(R:Nat)(a:Option Addr)(c:Nat)(a':Option Addr)(c':Nat)(d:Dk)(p0 i:Nat)(seq:Int)(w w0:World)(hR:Rd w R a c a' c' d p0 i)(hi:i<24)(hD:IsDk w0 (.agg #[.slice a d.safe.length c,.slice a' d.wr.length c']) d)(hg:za0 d=true)(hb:Below w0.heap.size w0 w):
  Calls prog 144 #[.pointer (some ⟨R,0,none⟩),.int .i64 seq] w fun e w'=>∃v,e=.returned (.tuple #[v,.bool (decide ((zar ((logOf d p0).getD i ByteArray.empty)).2=0)&&decide ((zar ((logOf d p0).getD i ByteArray.empty)).1.seq=seq))])∧IsMkN w' w.heap.size v (zar ((logOf d p0).getD i ByteArray.empty)).1∧Rd w' R a c a' c' d p0 (i+1)∧But R w.heap.size w w':=by
 have HR:=zaa hR;have A4:=hR.lt;have HD:=zaa hD;have l:=zaa hb;clear hR hD hb;go_enter func144,ntmps144;go_wp2_with fail;refine(znl R a c a' c' d p0 i _ w0 (HR.o.below (zab _ _)) hi HD.o hg (zae l.o (zab _ _))).mono ?_;rintro e y ⟨rfl,n,L⟩;rw[znm d p0 i hi];obtain⟨s,X⟩:∃s,s=(logOf d p0).getD i ByteArray.empty:=⟨_,rfl⟩;rw[←X];have I:=zaa X;clear X;have k:=zaa n;have q:=zaa L;have r:w.heap.size+1≤y.heap.size:=by have:=L.size;simpa using this
 have A0:w.heap.size<y.heap.size:=by omega
 have K4:Hid (y.heap[w.heap.size]?=some (.cells #[.int .i64 0,.int .i64 0,.int .i64 0,.slice none 0 0,.slice none 0 0] 119 (0,0))):=(L.block _ (by simp) (by omega)).trans (heap_alloc_new w _);clear n L HR HD l;go_wp2_with fail;refine(zgu s _).mono ?_;rintro e U ⟨v2,rfl,hN,K⟩;obtain⟨A,c2,B,c3,rfl,x,hI,n1,u,t1,t2⟩:=hN;obtain⟨m,hm⟩:∃m,m=zar s:=⟨_,rfl⟩;rw[←hm]at x hI n1 u⊢;have HT:=zaa x;have HI:=zaa hI;have F:Hid ((∀b off,A=some ⟨b,off,none⟩→w.heap.size+1≤b)∧∀b off,B=some ⟨b,off,none⟩→w.heap.size+1≤b):=⟨fun b off e=>Nat.le_trans r (t1 b off e),fun b off e=>Nat.le_trans r (t2 b off e)⟩;have O:=zaa (k.o.below K);have j:=zaa (zad K A0 K4.o);have Y:Hid (But R w.heap.size w U):=(((But.of_below (zab _ _)).trans q.o (by simp)).trans (But.of_below K) (by omega));have A3:w.heap.size<U.heap.size:=by have:=K.size;omega
 have J:=zaa (And.intro n1 u);have M:=zaa hm;clear x hI n1 u t1 t2 K k q K4 hm;obtain⟨⟨y0,y1,y2,z,y4⟩,f0,f1,f2,f3,f4⟩:=zhn j.o;obtain⟨mk,er⟩:=m;by_cases he:er=0
 ·subst he;by_cases hq:mk.seq=seq
  ·have A1:(mk.seq==seq)=true:=by simpa using hq
   go_wp2
   go_region
   all_goals
    obtain⟨W,D⟩:∃W,W=((((((U.setCell ⟨w.heap.size,0,none⟩ (.int .i64 mk.kind)).setCell ⟨w.heap.size,1,none⟩ (.int .i64 seq)).setCell ⟨w.heap.size,2,none⟩ (.int .i64 mk.pos)).setCell ⟨w.heap.size,3,none⟩ (.slice A mk.tags.length c2)).setCell ⟨w.heap.size,4,none⟩ (.slice B mk.blocks.length c3)).alloc (.cells #[.int .i64 mk.kind,.int .i64 seq,.int .i64 mk.pos,.slice A mk.tags.length c2,.slice B mk.blocks.length c3] 119)).drew:=⟨_,rfl⟩;have C:=zsp j.o (.int .i64 mk.kind) (.int .i64 seq) (.int .i64 mk.pos) (.slice A mk.tags.length c2) (.slice B mk.blocks.length c3) (.cells #[.int .i64 mk.kind,.int .i64 seq,.int .i64 mk.pos,.slice A mk.tags.length c2,.slice B mk.blocks.length c3] 119);rw[←D]at C;obtain⟨⟨Q,S,Z,h,N⟩,_⟩:=zhn C;have E:=zaa D;rw[←D];clear D C y0 y1 y2 z y4 f0 f1 f2 f3 f4;go_wp2;refine bodyPost_ret (v:=.tuple #[.agg #[.int .i64 mk.kind,.int .i64 seq,.int .i64 mk.pos,.slice A mk.tags.length c2,.slice B mk.blocks.length c3],.bool true]) (by simp[results,results144,go_sem,Q,S,Z,h,N]) rfl ⟨.agg #[.int .i64 mk.kind,.int .i64 seq,.int .i64 mk.pos,.slice A mk.tags.length c2,.slice B mk.blocks.length c3],by rw[←I.o,←M.o];simp[hq],?_,?_,?_⟩
    ·rw[←I.o,←M.o];refine⟨A,c2,B,c3,by rw[hq],?_,?_,J.o.1,J.o.2,fun b off e=>(by have:=F.o.1 b off e;omega),fun b off e=>(by have:=F.o.2 b off e;omega)⟩
     ·rw[E.o];refine SegT.below ?_ (zae (zab _ _) ((Below.refl _ _).drew))
      repeat refine SegT.setNe ?_ (fun b off e=>by have:=F.o.1 b off e;simp;omega) _
      exact HT.o
     ·rw[E.o];refine SegI.below ?_ (zae (zab _ _) ((Below.refl _ _).drew))
      repeat refine SegI.setNe ?_ (fun b off e=>by have:=F.o.2 b off e;simp;omega) _
      exact HI.o
    ·rw[E.o];refine Rd.below ?_ (zae (zab _ _) ((Below.refl _ _).drew))
     repeat refine Rd.setNe ?_ (show R≠w.heap.size by omega) _
     exact O.o
    ·rw[E.o];refine But.trans ?_ (But.of_below (zae (zab _ _) ((Below.refl _ _).drew))) (by simp[World.setCell];omega);exact(((((Y.o.setNew (p:=⟨w.heap.size,0,none⟩) (Nat.le_refl _) _).setNew (p:=⟨w.heap.size,1,none⟩) (Nat.le_refl _) _).setNew (p:=⟨w.heap.size,2,none⟩) (Nat.le_refl _) _).setNew (p:=⟨w.heap.size,3,none⟩) (Nat.le_refl _) _).setNew (p:=⟨w.heap.size,4,none⟩) (Nat.le_refl _) _)
  ·have A1:(mk.seq==seq)=false:=by simpa using hq
   go_wp2
   go_region
   all_goals
    obtain⟨W,D⟩:∃W,W=((((((U.setCell ⟨w.heap.size,0,none⟩ (.int .i64 mk.kind)).setCell ⟨w.heap.size,1,none⟩ (.int .i64 mk.seq)).setCell ⟨w.heap.size,2,none⟩ (.int .i64 mk.pos)).setCell ⟨w.heap.size,3,none⟩ (.slice A mk.tags.length c2)).setCell ⟨w.heap.size,4,none⟩ (.slice B mk.blocks.length c3)).alloc (.cells #[.int .i64 mk.kind,.int .i64 mk.seq,.int .i64 mk.pos,.slice A mk.tags.length c2,.slice B mk.blocks.length c3] 119)).drew:=⟨_,rfl⟩;have C:=zsp j.o (.int .i64 mk.kind) (.int .i64 mk.seq) (.int .i64 mk.pos) (.slice A mk.tags.length c2) (.slice B mk.blocks.length c3) (.cells #[.int .i64 mk.kind,.int .i64 mk.seq,.int .i64 mk.pos,.slice A mk.tags.length c2,.slice B mk.blocks.length c3] 119);rw[←D]at C;obtain⟨⟨Q,S,Z,h,N⟩,_⟩:=zhn C;have E:=zaa D;rw[←D];clear D C y0 y1 y2 z y4 f0 f1 f2 f3 f4;go_wp2;refine bodyPost_ret (v:=.tuple #[.agg #[.int .i64 mk.kind,.int .i64 mk.seq,.int .i64 mk.pos,.slice A mk.tags.length c2,.slice B mk.blocks.length c3],.bool false]) (by simp[results,results144,go_sem,Q,S,Z,h,N]) rfl ⟨.agg #[.int .i64 mk.kind,.int .i64 mk.seq,.int .i64 mk.pos,.slice A mk.tags.length c2,.slice B mk.blocks.length c3],by rw[←I.o,←M.o];simp[hq],?_,?_,?_⟩
    ·rw[←I.o,←M.o];refine⟨A,c2,B,c3,rfl,?_,?_,J.o.1,J.o.2,fun b off e=>(by have:=F.o.1 b off e;omega),fun b off e=>(by have:=F.o.2 b off e;omega)⟩
     ·rw[E.o];refine SegT.below ?_ (zae (zab _ _) ((Below.refl _ _).drew))
      repeat refine SegT.setNe ?_ (fun b off e=>by have:=F.o.1 b off e;simp;omega) _
      exact HT.o
     ·rw[E.o];refine SegI.below ?_ (zae (zab _ _) ((Below.refl _ _).drew))
      repeat refine SegI.setNe ?_ (fun b off e=>by have:=F.o.2 b off e;simp;omega) _
      exact HI.o
    ·rw[E.o];refine Rd.below ?_ (zae (zab _ _) ((Below.refl _ _).drew))
     repeat refine Rd.setNe ?_ (show R≠w.heap.size by omega) _
     exact O.o
    ·rw[E.o];refine But.trans ?_ (But.of_below (zae (zab _ _) ((Below.refl _ _).drew))) (by simp[World.setCell];omega);exact(((((Y.o.setNew (p:=⟨w.heap.size,0,none⟩) (Nat.le_refl _) _).setNew (p:=⟨w.heap.size,1,none⟩) (Nat.le_refl _) _).setNew (p:=⟨w.heap.size,2,none⟩) (Nat.le_refl _) _).setNew (p:=⟨w.heap.size,3,none⟩) (Nat.le_refl _) _).setNew (p:=⟨w.heap.size,4,none⟩) (Nat.le_refl _) _)
 ·have A2:(er==0)=false:=by simpa using he
  go_wp2
  go_region
  all_goals
   obtain⟨W,D⟩:∃W,W=((((((U.setCell ⟨w.heap.size,0,none⟩ (.int .i64 mk.kind)).setCell ⟨w.heap.size,1,none⟩ (.int .i64 mk.seq)).setCell ⟨w.heap.size,2,none⟩ (.int .i64 mk.pos)).setCell ⟨w.heap.size,3,none⟩ (.slice A mk.tags.length c2)).setCell ⟨w.heap.size,4,none⟩ (.slice B mk.blocks.length c3)).alloc (.cells #[.int .i64 mk.kind,.int .i64 mk.seq,.int .i64 mk.pos,.slice A mk.tags.length c2,.slice B mk.blocks.length c3] 119)).drew:=⟨_,rfl⟩;have C:=zsp j.o (.int .i64 mk.kind) (.int .i64 mk.seq) (.int .i64 mk.pos) (.slice A mk.tags.length c2) (.slice B mk.blocks.length c3) (.cells #[.int .i64 mk.kind,.int .i64 mk.seq,.int .i64 mk.pos,.slice A mk.tags.length c2,.slice B mk.blocks.length c3] 119);rw[←D]at C;obtain⟨⟨Q,S,Z,h,N⟩,_⟩:=zhn C;have E:=zaa D;rw[←D];clear D C y0 y1 y2 z y4 f0 f1 f2 f3 f4;go_wp2;refine bodyPost_ret (v:=.tuple #[.agg #[.int .i64 mk.kind,.int .i64 mk.seq,.int .i64 mk.pos,.slice A mk.tags.length c2,.slice B mk.blocks.length c3],.bool false]) (by simp[results,results144,go_sem,Q,S,Z,h,N]) rfl ⟨.agg #[.int .i64 mk.kind,.int .i64 mk.seq,.int .i64 mk.pos,.slice A mk.tags.length c2,.slice B mk.blocks.length c3],by rw[←I.o,←M.o];simp[he],?_,?_,?_⟩
   ·rw[←I.o,←M.o];refine⟨A,c2,B,c3,rfl,?_,?_,J.o.1,J.o.2,fun b off e=>(by have:=F.o.1 b off e;omega),fun b off e=>(by have:=F.o.2 b off e;omega)⟩
    ·rw[E.o];refine SegT.below ?_ (zae (zab _ _) ((Below.refl _ _).drew))
     repeat refine SegT.setNe ?_ (fun b off e=>by have:=F.o.1 b off e;simp;omega) _
     exact HT.o
    ·rw[E.o];refine SegI.below ?_ (zae (zab _ _) ((Below.refl _ _).drew))
     repeat refine SegI.setNe ?_ (fun b off e=>by have:=F.o.2 b off e;simp;omega) _
     exact HI.o
   ·rw[E.o];refine Rd.below ?_ (zae (zab _ _) ((Below.refl _ _).drew))
    repeat refine Rd.setNe ?_ (show R≠w.heap.size by omega) _
    exact O.o
   ·rw[E.o];refine But.trans ?_ (But.of_below (zae (zab _ _) ((Below.refl _ _).drew))) (by simp[World.setCell];omega);exact(((((Y.o.setNew (p:=⟨w.heap.size,0,none⟩) (Nat.le_refl _) _).setNew (p:=⟨w.heap.size,1,none⟩) (Nat.le_refl _) _).setNew (p:=⟨w.heap.size,2,none⟩) (Nat.le_refl _) _).setNew (p:=⟨w.heap.size,3,none⟩) (Nat.le_refl _) _).setNew (p:=⟨w.heap.size,4,none⟩) (Nat.le_refl _) _)
def bl (s:ByteArray):List UInt8:=s.data.toList
theorem zzp(s:ByteArray):(bl s).length=s.size:=rfl
theorem z5z{s t:ByteArray}(h:bl s=bl t):s=t:=ByteArray.ext (Array.ext' h)
theorem zcb(s t:ByteArray):bl (s++t)=bl s++bl t:=by simp[bl,ByteArray.data_append]
theorem zl1(s:ByteArray)(k:Nat):at8 s k=(((bl s).getD k 0).toNat:Int):=by
 by_cases h:k<s.size
 ·rw[←zix s k h,List.getD,List.getElem?_eq_getElem (show k<(bl s).length from h)];rfl
 ·have A:¬k<s.data.size:=h;rw[List.getD,List.getElem?_eq_none (by rw[zzp];omega)];unfold at8;show((s.data[k]!).toNat:Int)=_;rw[getElem!_neg s.data k A];rfl
theorem zq1(s:ByteArray)(h:4≤s.size):isMagic s=true↔at8 s 0=87∧at8 s 1=66∧at8 s 2=75∧at8 s 3=49:=by
 have e:(s.extract 0 4).toList=(bl s).take 4:=by
  rw[ByteArray.toList_eq];simp[bl,ByteArray.data_extract]
 rw[isMagic,if_pos h,e,beq_iff_eq,zl1,zl1,zl1,zl1];have A:4≤(bl s).length:=h
 match hb:bl s,A with
 |a::b::c::d::r,_=>
  simp only[List.take_succ_cons,List.take_zero,List.cons.injEq,and_true,List.getD_cons_zero,List.getD_cons_succ];constructor
  ·rintro⟨rfl,rfl,rfl,rfl⟩;exact⟨rfl,rfl,rfl,rfl⟩
  ·rintro⟨h1,h2,h3,h4⟩;exact⟨UInt8.toNat_inj.1 (by show a.toNat=87;omega),UInt8.toNat_inj.1 (by show b.toNat=66;omega),UInt8.toNat_inj.1 (by show c.toNat=75;omega),UInt8.toNat_inj.1 (by show d.toNat=49;omega)⟩
def zwq (k q:Int):List UInt8:=[87,66,75,49,UInt8.ofNat k.toNat,UInt8.ofNat (q/16777216).toNat,UInt8.ofNat (q/65536%256).toNat,UInt8.ofNat (q/256%256).toNat,UInt8.ofNat (q%256).toNat]
def z1t:List (Int×Bool)→List UInt8
 |[]=>[]
 |x::r=>UInt8.ofNat x.1.toNat::(if x.2 then 1 else 0)::z1t r
def z34 (l:List Int):List UInt8:=l.map fun x=>UInt8.ofNat x.toNat
def zgl (m:Mk):List UInt8:=
 if m.kind=1 then[UInt8.ofNat m.pos.toNat] else if m.kind=2 then UInt8.ofNat m.tags.length::z1t m.tags else if m.kind=3 then UInt8.ofNat m.blocks.length::z34 m.blocks else[]
theorem zh9(n:Nat):bl (zei n)=[UInt8.ofNat n]:=rfl
theorem zo2(k q:Int):bl (zmw k q)=zwq k q:=by
 rw[zmw,zcb,zcb,zcb,zcb,zcb,zh9,zh9,zh9,zh9,zh9];rfl
theorem z4o(s:ByteArray)(l:List (Int×Bool)):bl (zgs s l)=bl s++z1t l:=by
 induction l generalizing s with
 |nil=>simp[zgs,z1t]
 |cons x r ih=>
  rw[zgs,ih,zcb,zcb,zh9,z1t];have:bl (if x.2 then(⟨#[1]⟩:ByteArray) else⟨#[0]⟩)=[if x.2 then 1 else 0]:=by cases x.2<;>rfl
  rw[this];simp
theorem z4p(s:ByteArray)(l:List Int):bl (zgt s l)=bl s++z34 l:=by
 induction l generalizing s with
 |nil=>simp[zgt,z34]
 |cons x r ih=>rw[zgt,ih,zcb,zh9];simp[z34]
theorem zzq(m:Mk):bl (zol m)=zwq m.kind m.seq++zgl m:=by
 unfold zol zgl;by_cases h1:m.kind=1
 ·rw[if_pos h1,if_pos h1,zcb,zo2,zh9]
 ·rw[if_neg h1,if_neg h1];by_cases h2:m.kind=2
  ·rw[if_pos h2,if_pos h2,z4o,zcb,zo2,zh9];simp
  ·rw[if_neg h2,if_neg h2];by_cases h3:m.kind=3
   ·rw[if_pos h3,if_pos h3,z4p,zcb,zo2,zh9];simp
   ·rw[if_neg h3,if_neg h3,zo2];simp
theorem zs8(l:List (Int×Bool)):(z1t l).length=2*l.length:=by
 induction l with
 |nil=>rfl
 |cons x r ih=>simp only[z1t,List.length_cons,ih];omega
theorem zs9(l:List Int):(z34 l).length=l.length:=by simp[z34]
theorem zkj{m:Mk}(h:goodM m=0):(zgl m).length≤21:=by
 obtain⟨_,_,_,A,hb,_,_⟩:=zgb h;unfold zgl;by_cases h1:m.kind=1
 ·rw[if_pos h1];simp
 ·rw[if_neg h1];by_cases h2:m.kind=2
  ·rw[if_pos h2,List.length_cons,zs8];have:=A h2;omega
  ·rw[if_neg h2];by_cases h3:m.kind=3
   ·rw[if_pos h3,List.length_cons,zs9];have:=hb h3;omega
   ·rw[if_neg h3];simp
theorem zzr{m:Mk}(h:goodM m=0):bl (encT m)=zwq m.kind m.seq++(zgl m++List.replicate (23 - (zgl m).length) 0):=by
 have hl:=zkj h;have hb:(bl (zol m)).length=9+(zgl m).length:=by rw[zzq,List.length_append];rfl
 have A:(zol m).size=9+(zgl m).length:=hb;rw[encT,if_pos h];show z5g (zol m)=_;rw[z5g,A];show(bl (zol m)).take 32++_=_;rw[List.take_of_length_le (by omega),zzq,List.append_assoc,show 32 - (9+(zgl m).length)=23 - (zgl m).length from by omega]
theorem zej{m:Mk}(h:goodM m=0):(encT m).size=32:=by
 have hl:=zkj h
 have:(bl (encT m)).length=32:=by
  rw[zzr h,List.length_append,List.length_append,List.length_replicate];show 9+_=32;omega
 exact this
theorem zle{m:Mk}(h:goodM m=0)(j:Nat):at8 (encT m) (9+j)=(((zgl m).getD j 0).toNat:Int):=by
 rw[zl1,zzr h,List.getD,List.getElem?_append_right (show(zwq m.kind m.seq).length≤9+j from Nat.le_add_right 9 j)];rw[show 9+j - (zwq m.kind m.seq).length=j from by show 9+j - 9=j;omega];by_cases hj:j<(zgl m).length
 ·rw[List.getElem?_append_left hj,List.getD]
 ·rw[List.getElem?_append_right (by omega),List.getD,List.getElem?_eq_none (l:=zgl m) (by omega),List.getElem?_replicate];split<;>rfl
theorem zkk{x:Int}(h0:0≤x)(h1:x≤255):((UInt8.ofNat x.toNat).toNat:Int)=x:=by
 simp;omega
theorem zu4{m:Mk}(h:goodM m=0):at8 (encT m) 0=87∧at8 (encT m) 1=66∧at8 (encT m) 2=75∧at8 (encT m) 3=49∧at8 (encT m) 4=m.kind∧at8 (encT m) 5=m.seq/16777216∧at8 (encT m) 6=m.seq/65536%256∧at8 (encT m) 7=m.seq/256%256∧at8 (encT m) 8=m.seq%256:=by
 obtain⟨_,_,_,_,_,_,_⟩:=zgb h;simp only[zl1,zzr h,zwq,List.cons_append,List.getD_cons_zero,List.getD_cons_succ];refine⟨rfl,rfl,rfl,rfl,zkk (by omega) (by omega),zkk (by omega) (by omega),zkk (by omega) (by omega),zkk (by omega) (by omega),zkk (by omega) (by omega)⟩
theorem zzs{m:Mk}(h:goodM m=0):isMagic (encT m)=true:=by
 obtain⟨C,B,A,D,_⟩:=zu4 h;exact(zq1 _ (by rw[zej h];omega)).2 ⟨C,B,A,D⟩
theorem z4q(l:List (Int×Bool))(i:Nat)(x:Int×Bool)(h:l[i]?=some x):(z1t l).getD (2*i) 0=UInt8.ofNat x.1.toNat∧(z1t l).getD (2*i+1) 0=if x.2 then 1 else 0:=by
 induction l generalizing i with
 |nil=>simp at h
 |cons y r ih=>
  cases i with
  |zero=>simp at h;subst h;exact⟨rfl,rfl⟩
  |succ i=>
   have:=ih i (by simpa using h);rw[show 2*(i+1)=2*i+1+1 from by omega,z1t];simp only[List.getD_cons_succ];exact this
theorem z4r(l:List Int)(i:Nat)(x:Int)(h:l[i]?=some x):(z34 l).getD i 0=UInt8.ofNat x.toNat:=by
 rw[List.getD,z34,List.getElem?_map,h];rfl
theorem back{m:Mk}(h:goodM m=0):gsM (encT m)=m:=by
 obtain⟨⟨k1,k2⟩,⟨q1,q2,p1,p2⟩,⟨f1,K,I⟩,X,hb,U,M⟩:=zgb h;obtain⟨_,_,_,_,d,Z,b,Y,S⟩:=zu4 h
 have c:zfo (encT m) 4=m.seq:=by
  simp only[zfo];rw[show 0+5=5 from rfl,show 1+5=6 from rfl,show 2+5=7 from rfl,show 3+5=8 from rfl,Z,b,Y,S];omega
 have F:=zle h 0;rw[show 9+0=9 from rfl]at F;obtain⟨kind,seq,pos,B,A⟩:=m;dsimp only at *;unfold gsM;rw[c,d];by_cases e1:kind=1
 ·rw[if_pos e1,if_neg (by omega),if_neg (by omega),K (by omega),I (by omega)];rw[zgl,if_pos e1]at F;rw[K (by omega),I (by omega)]at F;rw[F];show Mk.mk kind seq ((UInt8.ofNat pos.toNat).toNat:Int) [] []=_;rw[zkk (by omega) (by omega)]
 ·obtain rfl:=f1 e1;rw[if_neg e1];by_cases e2:kind=2
  ·have a:=X e2;rw[if_pos e2,if_neg (by omega),I (by omega)]
   have C:zdi (encT ⟨kind,seq,0,B,A⟩) 10=B.length:=by
    rw[zdi,F,zgl,if_neg e1,if_pos e2];show min (((UInt8.ofNat B.length).toNat:Int)).toNat 10=_;simp;omega
   have L:zig (encT ⟨kind,seq,0,B,A⟩)=B:=by
    apply List.ext_getElem?;intro i;by_cases hi:i<B.length
    ·rw[zoi _ i (by rw[C];exact hi)];obtain⟨x,E⟩:∃x,B[i]?=some x:=⟨_,List.getElem?_eq_getElem hi⟩;have Q:=zk4 _ _ U (by omega) x.1 (List.mem_map.2 ⟨x,List.mem_of_getElem? E,rfl⟩);have O:=z4q B i x E;have D:=zle h (1+2*i);have J:=zle h (2+2*i);rw[zgl,if_neg e1,if_pos e2]at D J;rw[show 9+(1+2*i)=10+2*i from by omega,show 1+2*i=2*i+1 from by omega]at D;rw[show 9+(2+2*i)=11+2*i from by omega,show 2+2*i=2*i+1+1 from by omega]at J;simp only[List.getD_cons_succ]at D J;rw[O.1]at D;rw[O.2]at J;rw[D,J,E,zkk (by omega) (by omega)];obtain⟨xi,f⟩:=x;cases f<;>rfl
    ·rw[List.getElem?_eq_none (by rw[zeb,C];omega),List.getElem?_eq_none (by omega)]
   have N:=I (by omega);subst N;rw[L]
  ·rw[if_neg e2,K e2];by_cases e3:kind=3
   ·have a:=hb e3;rw[if_pos e3];have R:=K e2;subst R
    have C:zdi (encT ⟨kind,seq,0,[],A⟩) 20=A.length:=by
     rw[zdi,F,zgl,if_neg e1,if_neg e2,if_pos e3];show min (((UInt8.ofNat A.length).toNat:Int)).toNat 20=_;simp;omega
    have L:zde (encT ⟨kind,seq,0,[],A⟩)=A:=by
     apply List.ext_getElem?;intro i;by_cases hi:i<A.length
     ·rw[zjt _ i (by rw[C];exact hi)];obtain⟨x,E⟩:∃x,A[i]?=some x:=⟨_,List.getElem?_eq_getElem hi⟩;have Q:=zk4 _ _ M (by omega) x (List.mem_of_getElem? E);have D:=zle h (1+i);rw[zgl,if_neg e1,if_neg e2,if_pos e3]at D;rw[show 9+(1+i)=10+i from by omega,show 1+i=i+1 from by omega]at D;simp only[List.getD_cons_succ]at D;rw[z4r A i x E]at D;rw[D,E,zkk (by omega) (by omega)]
     ·rw[List.getElem?_eq_none (by rw[zc8,C];omega),List.getElem?_eq_none (by omega)]
    rw[L]
   ·rw[if_neg e3,I e3]
theorem zjz{m:Mk}(h:goodM m=0):zar (encT m)=(m,0):=by
 rw[zar,back h,if_pos ⟨zej h,h,rfl⟩]
theorem zq2{s:ByteArray}(h:isMagic s=false):zar s=(zp8,1):=by
 refine if_neg fun x=>?_;have:=zzs x.2.1;rw[x.2.2,h]at this;cases this
theorem zwr{s:ByteArray}(hm:isMagic s=true):(bl s).take 4=[87,66,75,49]:=by
 have e:(s.extract 0 4).toList=(bl s).take 4:=by
  rw[ByteArray.toList_eq];simp[bl,ByteArray.data_extract]
 rw[isMagic,if_pos (zeo hm),e,beq_iff_eq]at hm;exact hm
theorem zo3(s:ByteArray):(escT s).size=s.size:=by
 unfold escT
 cases hm:isMagic s with
 |false=>rfl
 |true=>
  have:=zeo hm;rw[if_pos rfl,ByteArray.size_append,ByteArray.size_extract];show 4+_=_;omega
theorem zzt(s:ByteArray):isMagic (escT s)=false:=by
 cases hm:isMagic s with
 |false=>rw[escT,hm];exact hm
 |true=>
  have A:=zeo hm
  cases he:isMagic (escT s) with
  |false=>rfl
  |true=>
   have:=((zq1 _ (by rw[zo3];exact A)).1 he).1;rw[escT,if_pos hm,zl1,zcb]at this;exact absurd this (by show¬((0:Int)=87);decide)
theorem zzu(s:ByteArray):zfa (escT s) (isMagic s)=s:=by
 cases hm:isMagic s with
 |false=>rw[escT,hm,zfa,if_pos (.inl rfl)];rfl
 |true=>
  have h4:=zeo hm;have hz:=zo3 s;rw[zfa,if_neg (by rintro(h|h);cases h;omega)]
  have C:bl (escT s)=[0,0,0,0]++(bl s).drop 4:=by
   rw[escT,if_pos hm,zcb]
   congr 1
   simp only[bl,ByteArray.data_extract,Array.toList_extract];rw[List.extract_eq_take_drop];apply List.take_of_length_le;rw[List.length_drop];exact Nat.le_refl _
  have B:bl ((escT s).extract 4 (escT s).size)=(bl s).drop 4:=by
   have:bl ((escT s).extract 4 (escT s).size)=(bl (escT s)).drop 4:=by
    simp only[bl,ByteArray.data_extract,Array.toList_extract];rw[List.extract_eq_take_drop];apply List.take_of_length_le;rw[List.length_drop];exact Nat.le_refl _
   rw[this,C];rfl
  apply z5z;have A:bl (⟨#[87,66,75,49]⟩:ByteArray)=[87,66,75,49]:=rfl;rw[zcb,B,A,←zwr hm,List.take_append_drop]
