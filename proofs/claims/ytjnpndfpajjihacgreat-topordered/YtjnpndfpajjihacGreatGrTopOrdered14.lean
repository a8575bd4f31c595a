/-
  
-/
import Derived.Test.YtjnpndfpajjihacGreatGrTopOrdered11
import Derived.Test.YtjnpndfpajjihacGreatGrTopOrdered13
import Derived.Lib.ConvBytes
set_option maxRecDepth 100000
set_option maxHeartbeats 40000000
namespace Go.Proofs.YtjnpndfpajjihacGreat
open Go.Proofs.Tryz
open Go.RowKit
theorem z19(t:ByteArray)(w:World):∃(c':Nat) (w':World),(convert 9 139 (.string t)).run prog w=.ok (.slice (some ⟨w.heap.size,0,none⟩) t.size c') w'∧Below w.heap.size w w'∧w'.heap.size=w.heap.size+1∧
  ∀j,j<t.size→w'.cell? ⟨w.heap.size,j,none⟩=some (.int .u8 (at8 t j)):=by
 have h:=run_bytes_of_string (P:=prog) w 9 139 5 t underlying9 underlying139 underlying5;refine⟨_,_,h,((Below.refl _ _).drew).alloc (by simp) _,by simp,fun j hj=>?_⟩;have e:(w.drew).heap.size=w.heap.size:=by simp
 rw[←e,World.cell?_alloc_mark,bytesRow,Array.getElem?_append_left (by simpa using hj),Array.getElem?_map];have A:j<t.data.size:=hj;rw[Array.getElem?_eq_getElem A];have:=ziy t j hj;simp only[Option.map_some,Option.some.injEq,Value.int.injEq,true_and];exact this
theorem zsr(s:ByteArray)(a b j:Nat)(hb:b≤s.size)(h:a+j<b):at8 (s.extract a b) j=at8 s (a+j):=by
 have A:j<(s.extract a b).size:=by rw[ByteArray.size_extract];omega
 rw[←ziy _ j A,←ziy s (a+j) (by omega),ByteArray.getElem_extract]
theorem z39(q c:Int)(hq:0≤q∧q≤4294967295)(hc:0≤c∧c≤255):bits .or .i64 (q*256) c=256*q+c:=by
 obtain⟨a,rfl⟩:=Int.eq_ofNat_of_zero_le hq.1;obtain⟨b,rfl⟩:=Int.eq_ofNat_of_zero_le hc.1;have e:((a:Int)*256)=((a*256:Nat):Int):=by omega
 have A:(BitVec.ofInt 64 ((a*256:Nat):Int)).toNat=a*256:=by
  rw[BitVec.ofInt_natCast,BitVec.toNat_ofNat];exact Nat.mod_eq_of_lt (by omega)
 have B:(BitVec.ofInt 64 (b:Int)).toNat=b:=by
  rw[BitVec.ofInt_natCast,BitVec.toNat_ofNat];exact Nat.mod_eq_of_lt (by omega)
 have C:a*256|||b=a*256+b:=by
  have:=Nat.shiftLeft_add_eq_or_of_lt (show b<2^8 by omega) a;rw[Nat.shiftLeft_eq]at this;exact this.symm
 rw[e];show IntKind.i64.wrap ((BitVec.ofInt 64 ((a*256:Nat):Int)|||BitVec.ofInt 64 (b:Int)).toNat:Int)=_;rw[BitVec.toNat_or,A,B,C,IntKind.wrap_i64];omega
def gsM (s:ByteArray):Mk:=⟨at8 s 4,zfq s 4,if at8 s 4=1 then at8 s 9 else 0,if at8 s 4=2 then zie s else[],if at8 s 4=3 then zdh s else[]⟩
theorem zyo(s:ByteArray)(w:World)(hs:s.size=32):
  Calls prog 189 #[.string s] w fun e w'=>∃v2,e=.returned v2∧IsMkN w' w.heap.size v2 (gsM s)∧Below w.heap.size w w':=by
 have hB:∀k (hk:k<s.size),((s[k]'hk).toNat:Int)=at8 s k:=ziy s;have hW:=ziz s;have A7:∀k,IntKind.i64.wrap (at8 s k)=at8 s k:=fun k=>by have:=zh5 s k;rw[IntKind.wrap_i64];omega
 have hz:(s.extract 5 9).size=4:=by rw[ByteArray.size_extract];omega
 obtain⟨c2,w2,A0,x,p,r⟩:=z19 (s.extract 5 9) ((w.alloc (Obj.cells #[.int .i64 0,.int .i64 0,.int .i64 0,.slice none 0 0,.slice none 0 0] 119)).alloc (Obj.cells #[.int .i64 (at8 s 4),.int .i64 0,.int .i64 0,.slice none 0 0,.slice none 0 0] 119));have Q:((w.alloc (Obj.cells #[.int .i64 0,.int .i64 0,.int .i64 0,.slice none 0 0,.slice none 0 0] 119)).alloc (Obj.cells #[.int .i64 (at8 s 4),.int .i64 0,.int .i64 0,.slice none 0 0,.slice none 0 0] 119)).heap.size=w.heap.size+2:=by simp
 have A3:Hid (∀j,j<4→w2.cell? ⟨w.heap.size+2,j,none⟩=some (.int .u8 (at8 s (5+j)))):=by
  intro j hj;rw[←Q,r j (by omega),zsr s 5 9 j (by omega) (by omega)]
 have m:=zab x;have A1:Hid (w2.heap.size=w.heap.size+3):=by rw[Hid,p,Q]
 rw[Q,hz]at A0;clear r x p Q;go_enter func189,ntmps189;go_wp2
 go_loopw [14] (fun i wr=>∃k:Nat,k≤4∧i=.int .i64 k∧wr.heap[w.heap.size+1]?=some (.cells #[.int .i64 (at8 s 4),.int .i64 (zfq s k),.int .i64 0,.slice none 0 0,.slice none 0 0] 119 (0,0))∧
  Hid (∀j,j<4→wr.cell? ⟨w.heap.size+2,j,none⟩=some (.int .u8 (at8 s (5+j))))∧w.heap.size+2<wr.heap.size∧
  Below (w.heap.size+1) (w.alloc (Obj.cells #[.int .i64 0,.int .i64 0,.int .i64 0,.slice none 0 0,.slice none 0 0] 119)) wr) (fun i _=>4 - (intOf i).toNat)
 case atStart=>
  refine⟨0,Nat.zero_le _,rfl,z54 m.o,A3,by rw[A1.o];omega,?_⟩;exact((Below.refl _ _).alloc (by simp) _).trans (m.o.mono (by simp))
 case round=>
  obtain⟨k,hk,rfl,N,R,Z,O⟩:=hrel;have K:=zab N;obtain⟨⟨x0,z,x2,x3,x4⟩,e0,e1,e2,e3,e4⟩:=zis N;clear N;have u:w.heap.size+1<wr.heap.size:=by omega
  have A4:w.heap.size<wr.heap.size:=by omega
  by_cases hlt:k<4
  ·have A5:(k:Int)<4:=by omega
   have A8:=R.o k hlt;obtain⟨q,hq⟩:∃q,q=zfq s k:=⟨_,rfl⟩;have n:=z18 s k (by omega);rw[←hq]at z n;have HQ:=zab hq;clear hq;have A6:=z39 q (at8 s (5+k)) n (zh5 s (5+k));go_wp2
   go_roundw
   case rel=>
    refine⟨k+1,by omega,by go_num,?_,?_,by simpa using Z,O.setCell (by simp) _⟩
    ·refine(heap_setCell_same wr _ _ _ _ _ K.o).trans ?_;rw[zfq,←HQ.o,Nat.add_comm k 5];rfl
    ·intro j hj;exact zeo (R.o j hj) (by simp)
   case measure=>simp[intOf];omega
  ·obtain rfl:k=4:=by omega
   obtain⟨⟨B,C,I,D,E⟩,c,f1,a,d,h⟩:=zis (z55 O);have l:=zab (zae (zaa _ _) (O.mono (by simp)));clear O hlt hk R Z;by_cases h1:at8 s 4=1
   ·have L:Hid (gsM s=⟨at8 s 4,zfq s 4,at8 s 9,[],[]⟩):=by
     rw[Hid,gsM,if_pos h1,if_neg (by omega),if_neg (by omega)]
    go_wp2;refine bodyPost_ret (v:=.agg #[.int .i64 (at8 s 4),.int .i64 (zfq s 4),.int .i64 (at8 s 9),.slice none 0 0,.slice none 0 0]) (by simp[results,results189,go_sem,B,C,I,D,E,h1]) rfl ⟨_,rfl,?_,?_⟩
    ·rw[L.o];exact⟨none,0,none,0,rfl,.inl rfl,.inl rfl,Nat.zero_le _,Nat.zero_le _,fun _ _ e=>(by cases e),fun _ _ e=>(by cases e)⟩
    ·repeat refine Below.setCell ?_ (by simp) _
     exact l.o
   ·by_cases h2:at8 s 4=2
    ·have L:Hid (gsM s=⟨at8 s 4,zfq s 4,0,zie s,[]⟩):=by
      rw[Hid,gsM,if_neg h1,if_pos h2,if_neg (by omega)]
     go_wp2_with fail;refine(zol s _ hs).mono ?_;rintro e X ⟨M,c3,rfl,F,A⟩;have J:=zab F;have A2:w.heap.size+1<X.heap.size:=by have:=A.size;omega
     have y:w.heap.size<X.heap.size:=by omega
     obtain⟨⟨z0,z1,z2,z3,z4⟩,g0,g1,g2,g3,g4⟩:=zis ((A.block _ u).trans K.o)
     replace B:=zac A (by omega) B
     replace C:=zac A (by omega) C
     replace I:=zac A (by omega) I
     replace D:=zac A (by omega) D
     replace E:=zac A (by omega) E
     replace c:=za4 A (by omega) c
     replace f1:=za4 A (by omega) f1
     replace a:=za4 A (by omega) a
     replace d:=za4 A (by omega) d
     replace h:=za4 A (by omega) h
     have U:=zab (zae l.o A);have Y:∀b off,M=some ⟨b,off,none⟩→w.heap.size+2≤b:=fun b off e=>by have:=J.o.2 b off e;omega
     have S:=zab Y;clear F A x0 z x2 x3 x4 e0 e1 e2 e3 e4 Y;go_wp2;refine bodyPost_ret (v:=.agg #[.int .i64 (at8 s 4),.int .i64 (zfq s 4),.int .i64 0,.slice M (zie s).length c3,.slice none 0 0]) (by simp[results,results189,go_sem,B,C,I,D,E,h2]) rfl ⟨_,rfl,?_,?_⟩
     ·rw[L.o];refine⟨M,c3,none,0,rfl,?_,.inl rfl,?_,Nat.zero_le _,fun b off e=>(by have:=S.o b off e;omega),fun _ _ e=>(by cases e)⟩
      ·repeat refine SegT.setNe ?_ (fun b off e=>by have:=S.o b off e;simp;omega) _
       exact J.o.1
      ·show(zie s).length≤maxLen;rw[zd8,zdk];unfold maxLen;omega
     ·repeat refine Below.setCell ?_ (by simp) _
      exact U.o
    ·by_cases h3:at8 s 4=3
     ·have L:Hid (gsM s=⟨at8 s 4,zfq s 4,0,[],zdh s⟩):=by
       rw[Hid,gsM,if_neg h1,if_neg h2,if_pos h3]
      go_wp2_with fail;refine(zls s _ hs).mono ?_;rintro e X ⟨M,c3,rfl,F,A⟩;have J:=zab F;have A2:w.heap.size+1<X.heap.size:=by have:=A.size;omega
      have y:w.heap.size<X.heap.size:=by omega
      obtain⟨⟨z0,z1,z2,z3,z4⟩,g0,g1,g2,g3,g4⟩:=zis ((A.block _ u).trans K.o)
      replace B:=zac A (by omega) B
      replace C:=zac A (by omega) C
      replace I:=zac A (by omega) I
      replace D:=zac A (by omega) D
      replace E:=zac A (by omega) E
      replace c:=za4 A (by omega) c
      replace f1:=za4 A (by omega) f1
      replace a:=za4 A (by omega) a
      replace d:=za4 A (by omega) d
      replace h:=za4 A (by omega) h
      have U:=zab (zae l.o A);have Y:∀b off,M=some ⟨b,off,none⟩→w.heap.size+2≤b:=fun b off e=>by have:=J.o.2 b off e;omega
      have S:=zab Y;clear F A x0 z x2 x3 x4 e0 e1 e2 e3 e4 Y;go_wp2;refine bodyPost_ret (v:=.agg #[.int .i64 (at8 s 4),.int .i64 (zfq s 4),.int .i64 0,.slice none 0 0,.slice M (zdh s).length c3]) (by simp[results,results189,go_sem,B,C,I,D,E,h3]) rfl ⟨_,rfl,?_,?_⟩
      ·rw[L.o];refine⟨none,0,M,c3,rfl,.inl rfl,?_,Nat.zero_le _,?_,fun _ _ e=>(by cases e),fun b off e=>(by have:=S.o b off e;omega)⟩
       ·repeat refine SegI.setNe ?_ (fun b off e=>by have:=S.o b off e;simp;omega) _
        exact J.o.1
       ·show(zdh s).length≤maxLen;rw[zdb,zdk];unfold maxLen;omega
      ·repeat refine Below.setCell ?_ (by simp) _
       exact U.o
     ·have L:Hid (gsM s=⟨at8 s 4,zfq s 4,0,[],[]⟩):=by
       rw[Hid,gsM,if_neg h1,if_neg h2,if_neg h3]
      have k1:(at8 s 4==1)=false:=by simpa using h1
      have k2:(at8 s 4==2)=false:=by simpa using h2
      have k3:(at8 s 4==3)=false:=by simpa using h3
      go_wp2;refine bodyPost_ret (v:=.agg #[.int .i64 (at8 s 4),.int .i64 (zfq s 4),.int .i64 0,.slice none 0 0,.slice none 0 0]) (by simp[results,results189,go_sem,B,C,I,D,E]) rfl ⟨_,rfl,?_,?_⟩
      ·rw[L.o];exact⟨none,0,none,0,rfl,.inl rfl,.inl rfl,Nat.zero_le _,Nat.zero_le _,fun _ _ e=>(by cases e),fun _ _ e=>(by cases e)⟩
      ·repeat refine Below.setCell ?_ (by simp) _
       exact l.o
theorem z4a{s t:ByteArray}(h:¬t=s):(t.toList==s.toList)=false:=by
 rw[beq_eq_false_iff_ne];intro e;rw[ByteArray.toList_eq,ByteArray.toList_eq]at e;exact h (ByteArray.ext (Array.ext' e))
def zas (s:ByteArray):Mk×Int:=if s.size=32∧goodM (gsM s)=0∧encT (gsM s)=s then(gsM s,0) else(zp6,1)
theorem zjw(s:ByteArray)(w:World)(h:¬s.size=32):
  Calls prog 143 #[.string s] w fun e w'=>∃v2,e=.returned (.tuple #[v2,.int .i64 1])∧IsMkN w' w.heap.size v2 zp6∧Below w.heap.size w w':=by
 have h':((s.size:Int) !=32)=true:=by
  rw[bne_iff_ne];omega
 go_enter func143,ntmps143;go_wp2;refine bodyPost_ret (v:=.tuple #[.agg #[.int .i64 0,.int .i64 0,.int .i64 0,.slice none 0 0,.slice none 0 0],.int .i64 1]) (by simp[results,results143,go_sem]) rfl ⟨_,rfl,zsp _ _,?_⟩
 repeat refine Below.setCell ?_ (by simp) _
 exact zaa _ _
theorem zk0(s:ByteArray)(w:World)(h:s.size=32):
  Calls prog 143 #[.string s] w fun e w'=>∃v2,e=.returned (.tuple #[v2,.int .i64 (zas s).2])∧IsMkN w' w.heap.size v2 (zas s).1∧Below w.heap.size w w':=by
 go_enter func143,ntmps143;go_wp2_with fail;refine(zyo s _ h).mono ?_;rintro e d ⟨v1,rfl,U,D⟩;obtain⟨m,j⟩:∃m,m=gsM s:=⟨_,rfl⟩;rw[←j]at U;obtain⟨a,c,I,Q,rfl,Y,i,Z,L,r,X⟩:=U;have A0:Hid (IsMk d (.agg #[.int .i64 m.kind,.int .i64 m.seq,.int .i64 m.pos,.slice a m.tags.length c,.slice I m.blocks.length Q]) m):=⟨a,c,I,Q,rfl,Y,i,Z,L⟩;have HT:=zab Y;have HI:=zab i;have n:=zab (And.intro Z L);have R:Hid ((∀b off,a=some ⟨b,off,none⟩→w.heap.size+1≤b)∧∀b off,I=some ⟨b,off,none⟩→w.heap.size+1≤b):=⟨fun b off e=>(by have:=r b off e;simp at this;omega),fun b off e=>(by have:=X b off e;simp at this;omega)⟩;clear Y i Z L r X;have A5:w.heap.size<d.heap.size:=by have:=D.size;simp at this;omega
 obtain⟨⟨J,K,E,M,N⟩,p,f1,q,u,y⟩:=zis (z45 D);have S:=zab (zae (zaa _ _) D);have k:=zab j;clear D j;go_wp2_with fail;refine(zds _ m _ (A0.o.below (zaa _ _))).mono ?_;rintro e z ⟨rfl,C⟩;have A4:d.heap.size<z.heap.size:=by have:=C.size;simp at this;omega
 have A2:w.heap.size<z.heap.size:=by omega
 obtain⟨⟨x0,x1,x2,x3,x4⟩,_⟩:=zis (z45 C);have A:=zae (zaa _ _) C
 replace J:=zac A (by omega) J
 replace K:=zac A (by omega) K
 replace E:=zac A (by omega) E
 replace M:=zac A (by omega) M
 replace N:=zac A (by omega) N
 replace p:=za4 A (by omega) p
 replace f1:=za4 A (by omega) f1
 replace q:=za4 A (by omega) q
 replace u:=za4 A (by omega) u
 replace y:=za4 A (by omega) y
 have A1:=zab (HT.o.below A);have l:=zab (HI.o.below A);have F:=zab (zae S.o A);clear C A S;by_cases hg:goodM m=0
 ·obtain⟨t,O⟩:∃t,t=encT m:=⟨_,rfl⟩;rw[←O,hg];by_cases hE:t=s
  ·have B:Hid (zas s=(m,0)):=by
    rw[Hid,zas,←k.o,if_pos ⟨h,hg,by rw[←O];exact hE⟩]
   clear O hg;subst hE;go_wp2;refine bodyPost_ret (v:=.tuple #[.agg #[.int .i64 m.kind,.int .i64 m.seq,.int .i64 m.pos,.slice a m.tags.length c,.slice I m.blocks.length Q],.int .i64 0]) (by simp[results,results143,go_sem,J,K,E,M,N]) rfl ⟨_,by rw[B.o],?_,?_⟩
   ·rw[B.o];refine⟨a,c,I,Q,rfl,?_,?_,n.o.1,n.o.2,fun b off e=>(by have:=R.o.1 b off e;omega),fun b off e=>(by have:=R.o.2 b off e;omega)⟩
    ·repeat refine SegT.setNe ?_ (fun b off e=>by have:=R.o.1 b off e;simp;omega) _
     exact A1.o
    ·repeat refine SegI.setNe ?_ (fun b off e=>by have:=R.o.2 b off e;simp;omega) _
     exact l.o
   ·repeat refine Below.setCell ?_ (by simp) _
    exact F.o
  ·have B:Hid (zas s=(zp6,1)):=by
    rw[Hid,zas,←k.o,if_neg (fun x=>hE (by rw[O];exact x.2.2))]
   have A6:=z4a hE;clear O hg;go_wp2;refine bodyPost_ret (v:=.tuple #[.agg #[.int .i64 0,.int .i64 0,.int .i64 0,.slice none 0 0,.slice none 0 0],.int .i64 1]) (by simp[results,results143,go_sem,J,K,E,M,N]) rfl ⟨_,by rw[B.o],by rw[B.o];exact zsp _ _,?_⟩
   repeat refine Below.setCell ?_ (by simp) _
   exact F.o
 ·have B:Hid (zas s=(zp6,1)):=by
   rw[Hid,zas,←k.o,if_neg (fun x=>hg x.2.1)]
  have A3:(goodM m !=0)=true:=by simpa using hg
  go_wp2;refine bodyPost_ret (v:=.tuple #[.agg #[.int .i64 0,.int .i64 0,.int .i64 0,.slice none 0 0,.slice none 0 0],.int .i64 1]) (by simp[results,results143,go_sem,J,K,E,M,N]) rfl ⟨_,by rw[B.o],by rw[B.o];exact zsp _ _,?_⟩
  repeat refine Below.setCell ?_ (by simp) _
  exact F.o
theorem zgx(s:ByteArray)(w:World):
  Calls prog 143 #[.string s] w fun e w'=>∃v2,e=.returned (.tuple #[v2,.int .i64 (zas s).2])∧IsMkN w' w.heap.size v2 (zas s).1∧Below w.heap.size w w':=by
 by_cases h:s.size=32
 ·exact zk0 s w h
 ·have e:zas s=(zp6,1):=if_neg fun x=>h x.1;rw[e];exact zjw s w h
theorem zlu(s:ByteArray)(w:World):
  Calls prog 143 #[.string s] w fun e w'=>∃v2,e=.returned (.tuple #[v2,.int .i64 (zas s).2])∧IsMk w' v2 (zas s).1∧Below w.heap.size w w':=
 (zgx s w).mono fun _ _ ⟨v2,h1,h2,h3⟩=>⟨v2,h1,h2.is,h3⟩
def zcv (seq:Int):Tx:=⟨seq,[],[],[],⟨false,0⟩,⟨false,0⟩,⟨false,0⟩⟩
def copiesAt (log:List ByteArray):Nat→List (Int×Bool)→List (Int×ByteArray)
 |_,[]=>[]
 |i,x::r=>(x.1,zfa (log.getD i ByteArray.empty) x.2)::copiesAt log (i+1) r
theorem zdt(log:List ByteArray)(i:Nat)(l:List (Int×Bool)):(copiesAt log i l).length=l.length:=by
 induction l generalizing i with
 |nil=>rfl
 |cons x r ih=>simp[copiesAt,ih]
theorem zoo{l:List (Int×Bool)}{k:Nat}{x:Int×Bool}(h:l[k]?=some x)(log:List ByteArray)(i:Nat):copiesAt log i (l.take (k+1))=copiesAt log i (l.take k)++[(x.1,zfa (log.getD (i+k) ByteArray.empty) x.2)]:=by
 induction l generalizing i k with
 |nil=>simp at h
 |cons y r ih=>
  cases k with
  |zero=>simp at h;subst h;rfl
  |succ k=>
   have:=ih (k:=k) (by simpa using h) (i+1);rw[List.take_succ_cons,List.take_succ_cons,copiesAt,copiesAt,this,show i+1+k=i+(k+1) from by omega];rfl
def more (log:List ByteArray)(i:Nat)(t:Tx)(m:Mk):Tx:={t with rev:=t.rev++m.blocks,info:=t.info++copiesAt log (i+1) m.tags}
def zfb (log:List ByteArray)(seq:Int)(i:Nat)(t:Tx):Option (Nat×Tx):=
 if _h:i<log.length then
  if(zas (log.getD i ByteArray.empty)).2≠0∨(zas (log.getD i ByteArray.empty)).1.seq≠seq∨(zas (log.getD i ByteArray.empty)).1.kind=1 then none
  else if(zas (log.getD i ByteArray.empty)).1.kind=4 then some (i+1,t)
  else if i+1+(zas (log.getD i ByteArray.empty)).1.tags.length≤log.length then zfb log seq (i+1+(zas (log.getD i ByteArray.empty)).1.tags.length) (more log i t (zas (log.getD i ByteArray.empty)).1)
  else none
 else none
termination_by log.length - i
decreasing_by omega
def scanP (log:List ByteArray)(pos:Nat)(seq:Int)(acc:List Tx):List Tx×Nat:=
 if _h:seq<2147483647 then
  match zfb log seq pos (zcv seq) with
  |none=>(acc,pos)
  |some (n,t)=>scanP log n (seq+1) (acc++[t])
 else(acc,pos)
termination_by (2147483647 - seq).toNat
decreasing_by omega
def logOf (d:Dk)(at0:Int):List ByteArray:=(List.range 24).map fun i:Nat=>zal d (1+(at0+(i:Int))%24)
theorem za7(d:Dk)(a:Int):(logOf d a).length=24:=by simp[logOf]
theorem zi2(d:Dk)(a:Int)(i:Nat)(h:i<24):(logOf d a).getD i ByteArray.empty=zal d (1+(a+(i:Int))%24):=by
 rw[logOf,List.getD,List.getElem?_map,List.getElem?_range h];rfl
def zaq (d:Dk):Mk:=(zas (zal d 0)).1
def scanE (d:Dk):Int:=if readE d 0≠0 then readE d 0 else if(zas (zal d 0)).2≠0∨(zaq d).kind≠1 then 1 else 0
def zbw (d:Dk):List Tx×Nat:=scanP (logOf d (zaq d).pos) 0 (zaq d).seq []
theorem zdl(log:List ByteArray)(seq:Int):∀(f i:Nat) (t:Tx) (n:Nat) (u:Tx),log.length - i≤f→zfb log seq i t=some (n,u)→i<n∧n≤log.length:=by
 intro f
 induction f with
 |zero=>intro i t n u A h;rw[zfb,dif_neg (by omega)]at h;cases h
 |succ f ih=>
  intro i t n u A h;rw[zfb]at h;split at h
  ·split at h
   ·cases h
   ·split at h
    ·cases h;omega
    ·split at h
     ·have:=ih _ _ _ _ (by omega) h;omega
     ·cases h
  ·cases h
open Go.Proofs.Tryz
def Rd (w:World)(R:Nat)(a:Option Addr)(c:Nat)(a':Option Addr)(c':Nat)(d:Dk)(p0 i:Nat):Prop:=
 w.heap[R]?=some (.cells #[.slice a d.safe.length c,.slice a' d.wr.length c',.int .i64 (((p0+i)%24:Nat):Int),.int .i64 ((24 - i:Nat):Int)] 170 (0,0))
theorem z3r{w:World}{B:Nat}{v0 v1 v2 v3:Value}{t:TypeId}(h:w.heap[B]?=some (.cells #[v0,v1,v2,v3] t (0,0))):
  (w.cell? ⟨B,0,none⟩=some v0∧w.cell? ⟨B,1,none⟩=some v1∧w.cell? ⟨B,2,none⟩=some v2∧w.cell? ⟨B,3,none⟩=some v3)∧∀k,w.frozen? ⟨B,k,none⟩=false:=by
 refine⟨⟨?_,?_,?_,?_⟩,fun k=>frozen_of_row w _ _ _ _ h⟩<;>(rw[cell_of_row w _ _ _ _ _ h];rfl)
theorem But.below{R base:Nat}{w w' w0:World}(h:But R w.heap.size w w')(hb:Below base w0 w)(hw:base≤w.heap.size)(hR:base≤R):Below base w0 w':=
 ⟨h.os.trans hb.os,h.tape.trans hb.tape,h.output.trans hb.output,Nat.le_trans hb.size h.size,fun k hk=>(h.block k (by omega) (by omega)).trans (hb.block k hk)⟩
theorem But.setCell{R base o:Nat}{w w':World}(h:But R base w w')(u:Value):But R base w (w'.setCell ⟨R,o,none⟩ u):=by
 refine⟨h.os,h.tape,h.output,by simpa[World.setCell] using h.size,fun k hk hn=>?_⟩;rw[World.setCell];simp only[Array.getElem?_modify];rw[if_neg (fun x=>hn x.symm)];exact h.block k hk hn
theorem zyp{d:Dk}(h:za3 d=true){p:Nat}(hp:p<24):readE d (1+(p:Int))=0:=by
 have:zb0 (1+(p:Int))=true:=by simp[zb0];omega
 simp[readE,h,this]
theorem zp8(R:Nat)(a:Option Addr)(c:Nat)(a':Option Addr)(c':Nat)(d:Dk)(p0:Nat)(w:World)(hR:Rd w R a c a' c' d p0 24):
  Calls prog 190 #[.pointer (some ⟨R,0,none⟩)] w fun e w'=>e=.returned (.tuple #[.string ⟨#[]⟩,.bool false])∧w=w':=by
 obtain⟨⟨x0,x1,x2,A⟩,ff⟩:=z3r hR;clear hR;simp only[Nat.sub_self]at A;go_enter func190,ntmps190;go_wp2;exact bodyPost_ret (v:=.tuple #[.string ⟨#[]⟩,.bool false]) (by simp[results,results190,go_sem]) rfl ⟨rfl,rfl⟩
theorem znl(R:Nat)(a:Option Addr)(c:Nat)(a':Option Addr)(c':Nat)(d:Dk)(p0 i:Nat)(w w0:World)(hR:Rd w R a c a' c' d p0 i)(hi:i<24)(hD:IsDk w0 (.agg #[.slice a d.safe.length c,.slice a' d.wr.length c']) d)(hg:za3 d=true)(hb:Below w0.heap.size w0 w):
  Calls prog 190 #[.pointer (some ⟨R,0,none⟩)] w fun e w'=>e=.returned (.tuple #[.string (zal d (1+(((p0+i)%24:Nat):Int))),.bool true])∧Rd w' R a c a' c' d p0 (i+1)∧But R w.heap.size w w':=by
 have X:=zab hR;have J:R<w.heap.size:=(Array.getElem?_eq_some_iff.1 hR).1;obtain⟨p,B⟩:∃p,p=(p0+i)%24:=⟨_,rfl⟩;have I:p<24:=by omega
 have U:Hid ((p0+(i+1))%24=(p+1)%24):=by rw[Hid,B];omega
 have HP:=zab B;have M:Hid ((((p0+i)%24:Nat):Int)=(p:Int)):=by rw[Hid,←B]
 obtain⟨⟨h,j,N,S⟩,Z⟩:=z3r hR;rw[←B]at N⊢;have Q:=zab hD;have F:=zab hb;have l:=zab (zyp hg I);clear hR hD hb B;have E:((24 - i:Nat):Int)=24 - (i:Int):=by omega
 rw[E]at S;have A0:((24 - (i:Int))==0)=false:=by rw[beq_eq_false_iff_ne];omega
 have ew:IntKind.i64.wrap (1+(p:Int))=1+(p:Int):=by rw[IntKind.wrap_i64];omega
 have A1:IntKind.i64.wrap ((p:Int)+1)=(p:Int)+1:=by rw[IntKind.wrap_i64];omega
 have em:((p:Int)+1).tmod 24=(((p+1)%24:Nat):Int):=by rw[Int.tmod_eq_emod_of_nonneg (by omega)];omega
 go_enter func190,ntmps190;go_wp2
 go_region_with (go_at_call 55;refine(zk4 _ d (1+(p:Int)) _ (Q.o.below (zae F.o ((Below.refl _ _).drew)))).mono ?_;rintro e K ⟨rfl,D⟩;rw[l.o];have A:Below w.heap.size w K:=((Below.refl _ _).drew).trans D;have C:=zad A J X.o;obtain⟨⟨y0,y1,b,m⟩,fg⟩:=z3r C)
 all_goals
  have L:=zab C;have O:=zab A;rw[M.o]at b;rw[E]at m;clear D A C h j N S Z Q F X;go_wp2;refine bodyPost_ret (v:=.tuple #[.string (zal d (1+(p:Int))),.bool true]) (by simp[results,results190,go_sem]) rfl ⟨rfl,?_,?_⟩
  ·have Y:=heap_setCell_same K R 2 _ _ (.int .i64 (((p+1)%24:Nat):Int)) L.o;have k:=heap_setCell_same _ R 3 _ _ (.int .i64 (24 - (i:Int) - 1)) Y;rw[Rd,U.o,show((24 - (i+1):Nat):Int)=24 - (i:Int) - 1 from by omega];exact k
  ·exact((But.of_below O.o).setCell _).setCell _
theorem znm(d:Dk)(p0 i:Nat)(h:i<24):zal d (1+(((p0+i)%24:Nat):Int))=(logOf d p0).getD i ByteArray.empty:=by
 rw[zi2 d p0 i h]
 congr 2
theorem Rd.lt{w:World}{R:Nat}{a:Option Addr}{c:Nat}{a':Option Addr}{c':Nat}{d:Dk}{p0 i:Nat}(h:Rd w R a c a' c' d p0 i):R<w.heap.size:=(Array.getElem?_eq_some_iff.1 h).1
theorem Rd.below{w w':World}{R:Nat}{a:Option Addr}{c:Nat}{a':Option Addr}{c':Nat}{d:Dk}{p0 i:Nat}(h:Rd w R a c a' c' d p0 i)(hb:Below w.heap.size w w'):Rd w' R a c a' c' d p0 i:=zad hb h.lt h
theorem Rd.setNe{w:World}{R:Nat}{a:Option Addr}{c:Nat}{a':Option Addr}{c':Nat}{d:Dk}{p0 i:Nat}(h:Rd w R a c a' c' d p0 i){p:Addr}(hn:R≠p.block)(u:Value):Rd (w.setCell p u) R a c a' c' d p0 i:=by
 rw[Rd,World.setCell];simp only[Array.getElem?_modify];rw[if_neg (fun x=>hn x.symm)];exact h
theorem But.setNew{R base:Nat}{w w':World}(h:But R base w w'){p:Addr}(hp:base≤p.block)(u:Value):But R base w (w'.setCell p u):=by
 refine⟨h.os,h.tape,h.output,by simpa[World.setCell] using h.size,fun k hk hn=>?_⟩;rw[World.setCell];simp only[Array.getElem?_modify];rw[if_neg (by omega)];exact h.block k hk hn
theorem zss{w:World}{B:Nat}{z0 z1 z2 z3 z4:Value}{t:TypeId}(h:w.heap[B]?=some (.cells #[z0,z1,z2,z3,z4] t (0,0)))(v0 v1 v2 v3 v4:Value)(o:Obj):
  ((((((w.setCell ⟨B,0,none⟩ v0).setCell ⟨B,1,none⟩ v1).setCell ⟨B,2,none⟩ v2).setCell ⟨B,3,none⟩ v3).setCell ⟨B,4,none⟩ v4).alloc o).drew.heap[B]?=some (.cells #[v0,v1,v2,v3,v4] t (0,0)):=by
 have F:=heap_setCell_same w B 0 _ _ v0 h;have E:=heap_setCell_same _ B 1 _ _ v1 F;have C:=heap_setCell_same _ B 2 _ _ v2 E;have D:=heap_setCell_same _ B 3 _ _ v3 C;have A:=heap_setCell_same _ B 4 _ _ v4 D;exact(zad (zae (zaa _ o) ((Below.refl _ _).drew)) (Array.getElem?_eq_some_iff.1 A).1 A)
theorem zyq(R:Nat)(a:Option Addr)(c:Nat)(a':Option Addr)(c':Nat)(d:Dk)(p0:Nat)(seq:Int)(w:World)(hR:Rd w R a c a' c' d p0 24):
  Calls prog 144 #[.pointer (some ⟨R,0,none⟩),.int .i64 seq] w fun e w'=>e=.returned (.tuple #[.agg #[.int .i64 0,.int .i64 0,.int .i64 0,.slice none 0 0,.slice none 0 0],.bool false])∧Below w.heap.size w w':=by
 have A:=zab hR;clear hR;go_enter func144,ntmps144;go_wp2_with fail;refine(zp8 R a c a' c' d p0 _ (A.o.below (zaa _ _))).mono ?_;rintro e w1 ⟨rfl,rfl⟩;go_wp2;refine bodyPost_ret (v:=.tuple #[.agg #[.int .i64 0,.int .i64 0,.int .i64 0,.slice none 0 0,.slice none 0 0],.bool false]) (by simp[results,results144,go_sem]) rfl ⟨rfl,?_⟩
 repeat refine Below.setCell ?_ (by simp) _
 exact zaa _ _
theorem zv5(R:Nat)(a:Option Addr)(c:Nat)(a':Option Addr)(c':Nat)(d:Dk)(p0 i:Nat)(seq:Int)(w w0:World)(hR:Rd w R a c a' c' d p0 i)(hi:i<24)(hD:IsDk w0 (.agg #[.slice a d.safe.length c,.slice a' d.wr.length c']) d)(hg:za3 d=true)(hb:Below w0.heap.size w0 w):
  Calls prog 144 #[.pointer (some ⟨R,0,none⟩),.int .i64 seq] w fun e w'=>∃v,e=.returned (.tuple #[v,.bool (decide ((zas ((logOf d p0).getD i ByteArray.empty)).2=0)&&decide ((zas ((logOf d p0).getD i ByteArray.empty)).1.seq=seq))])∧IsMkN w' w.heap.size v (zas ((logOf d p0).getD i ByteArray.empty)).1∧Rd w' R a c a' c' d p0 (i+1)∧But R w.heap.size w w':=by
 have HR:=zab hR;have A3:=hR.lt;have HD:=zab hD;have r:=zab hb;clear hR hD hb;go_enter func144,ntmps144;go_wp2_with fail;refine(znl R a c a' c' d p0 i _ w0 (HR.o.below (zaa _ _)) hi HD.o hg (zae r.o (zaa _ _))).mono ?_;rintro e w1 ⟨rfl,l,L⟩;rw[znm d p0 i hi];obtain⟨s,Y⟩:∃s,s=(logOf d p0).getD i ByteArray.empty:=⟨_,rfl⟩;rw[←Y];have I:=zab Y;clear Y;have k:=zab l;have n:=zab L;have q:w.heap.size+1≤w1.heap.size:=by have:=L.size;simpa using this
 have A0:w.heap.size<w1.heap.size:=by omega
 have K4:Hid (w1.heap[w.heap.size]?=some (.cells #[.int .i64 0,.int .i64 0,.int .i64 0,.slice none 0 0,.slice none 0 0] 119 (0,0))):=(L.block _ (by simp) (by omega)).trans (heap_alloc_new w _);clear l L HR HD r;go_wp2_with fail;refine(zgx s _).mono ?_;rintro e S ⟨v2,rfl,hN,K⟩;obtain⟨B,c2,A,c3,rfl,u,hI,n1,y,t1,t2⟩:=hN;obtain⟨m,hm⟩:∃m,m=zas s:=⟨_,rfl⟩;rw[←hm]at u hI n1 y⊢;have HT:=zab u;have HI:=zab hI;have F:Hid ((∀b off,B=some ⟨b,off,none⟩→w.heap.size+1≤b)∧∀b off,A=some ⟨b,off,none⟩→w.heap.size+1≤b):=⟨fun b off e=>Nat.le_trans q (t1 b off e),fun b off e=>Nat.le_trans q (t2 b off e)⟩;have X:=zab (k.o.below K);have j:=zab (zad K A0 K4.o);have N:Hid (But R w.heap.size w S):=(((But.of_below (zaa _ _)).trans n.o (by simp)).trans (But.of_below K) (by omega));have A4:w.heap.size<S.heap.size:=by have:=K.size;omega
 have J:=zab (And.intro n1 y);have M:=zab hm;clear u hI n1 y t1 t2 K k n K4 hm;obtain⟨⟨y0,y1,x,y3,y4⟩,z,f1,f2,f3,f4⟩:=zis j.o;obtain⟨mk,er⟩:=m;by_cases he:er=0
 ·subst he;by_cases hq:mk.seq=seq
  ·have A1:(mk.seq==seq)=true:=by simpa using hq
   go_wp2
   go_region
   all_goals
    obtain⟨W,E⟩:∃W,W=((((((S.setCell ⟨w.heap.size,0,none⟩ (.int .i64 mk.kind)).setCell ⟨w.heap.size,1,none⟩ (.int .i64 seq)).setCell ⟨w.heap.size,2,none⟩ (.int .i64 mk.pos)).setCell ⟨w.heap.size,3,none⟩ (.slice B mk.tags.length c2)).setCell ⟨w.heap.size,4,none⟩ (.slice A mk.blocks.length c3)).alloc (.cells #[.int .i64 mk.kind,.int .i64 seq,.int .i64 mk.pos,.slice B mk.tags.length c2,.slice A mk.blocks.length c3] 119)).drew:=⟨_,rfl⟩;have C:=zss j.o (.int .i64 mk.kind) (.int .i64 seq) (.int .i64 mk.pos) (.slice B mk.tags.length c2) (.slice A mk.blocks.length c3) (.cells #[.int .i64 mk.kind,.int .i64 seq,.int .i64 mk.pos,.slice B mk.tags.length c2,.slice A mk.blocks.length c3] 119);rw[←E]at C;obtain⟨⟨O,Q,h,U,Z⟩,_⟩:=zis C;have D:=zab E;rw[←E];clear E C y0 y1 x y3 y4 z f1 f2 f3 f4;go_wp2;refine bodyPost_ret (v:=.tuple #[.agg #[.int .i64 mk.kind,.int .i64 seq,.int .i64 mk.pos,.slice B mk.tags.length c2,.slice A mk.blocks.length c3],.bool true]) (by simp[results,results144,go_sem,O,Q,h,U,Z]) rfl ⟨.agg #[.int .i64 mk.kind,.int .i64 seq,.int .i64 mk.pos,.slice B mk.tags.length c2,.slice A mk.blocks.length c3],by rw[←I.o,←M.o];simp[hq],?_,?_,?_⟩
    ·rw[←I.o,←M.o];refine⟨B,c2,A,c3,by rw[hq],?_,?_,J.o.1,J.o.2,fun b off e=>(by have:=F.o.1 b off e;omega),fun b off e=>(by have:=F.o.2 b off e;omega)⟩
     ·rw[D.o];refine SegT.below ?_ (zae (zaa _ _) ((Below.refl _ _).drew))
      repeat refine SegT.setNe ?_ (fun b off e=>by have:=F.o.1 b off e;simp;omega) _
      exact HT.o
     ·rw[D.o];refine SegI.below ?_ (zae (zaa _ _) ((Below.refl _ _).drew))
      repeat refine SegI.setNe ?_ (fun b off e=>by have:=F.o.2 b off e;simp;omega) _
      exact HI.o
    ·rw[D.o];refine Rd.below ?_ (zae (zaa _ _) ((Below.refl _ _).drew))
     repeat refine Rd.setNe ?_ (show R≠w.heap.size by omega) _
     exact X.o
    ·rw[D.o];refine But.trans ?_ (But.of_below (zae (zaa _ _) ((Below.refl _ _).drew))) (by simp[World.setCell];omega);exact(((((N.o.setNew (p:=⟨w.heap.size,0,none⟩) (Nat.le_refl _) _).setNew (p:=⟨w.heap.size,1,none⟩) (Nat.le_refl _) _).setNew (p:=⟨w.heap.size,2,none⟩) (Nat.le_refl _) _).setNew (p:=⟨w.heap.size,3,none⟩) (Nat.le_refl _) _).setNew (p:=⟨w.heap.size,4,none⟩) (Nat.le_refl _) _)
  ·have A1:(mk.seq==seq)=false:=by simpa using hq
   go_wp2
   go_region
   all_goals
    obtain⟨W,E⟩:∃W,W=((((((S.setCell ⟨w.heap.size,0,none⟩ (.int .i64 mk.kind)).setCell ⟨w.heap.size,1,none⟩ (.int .i64 mk.seq)).setCell ⟨w.heap.size,2,none⟩ (.int .i64 mk.pos)).setCell ⟨w.heap.size,3,none⟩ (.slice B mk.tags.length c2)).setCell ⟨w.heap.size,4,none⟩ (.slice A mk.blocks.length c3)).alloc (.cells #[.int .i64 mk.kind,.int .i64 mk.seq,.int .i64 mk.pos,.slice B mk.tags.length c2,.slice A mk.blocks.length c3] 119)).drew:=⟨_,rfl⟩;have C:=zss j.o (.int .i64 mk.kind) (.int .i64 mk.seq) (.int .i64 mk.pos) (.slice B mk.tags.length c2) (.slice A mk.blocks.length c3) (.cells #[.int .i64 mk.kind,.int .i64 mk.seq,.int .i64 mk.pos,.slice B mk.tags.length c2,.slice A mk.blocks.length c3] 119);rw[←E]at C;obtain⟨⟨O,Q,h,U,Z⟩,_⟩:=zis C;have D:=zab E;rw[←E];clear E C y0 y1 x y3 y4 z f1 f2 f3 f4;go_wp2;refine bodyPost_ret (v:=.tuple #[.agg #[.int .i64 mk.kind,.int .i64 mk.seq,.int .i64 mk.pos,.slice B mk.tags.length c2,.slice A mk.blocks.length c3],.bool false]) (by simp[results,results144,go_sem,O,Q,h,U,Z]) rfl ⟨.agg #[.int .i64 mk.kind,.int .i64 mk.seq,.int .i64 mk.pos,.slice B mk.tags.length c2,.slice A mk.blocks.length c3],by rw[←I.o,←M.o];simp[hq],?_,?_,?_⟩
    ·rw[←I.o,←M.o];refine⟨B,c2,A,c3,rfl,?_,?_,J.o.1,J.o.2,fun b off e=>(by have:=F.o.1 b off e;omega),fun b off e=>(by have:=F.o.2 b off e;omega)⟩
     ·rw[D.o];refine SegT.below ?_ (zae (zaa _ _) ((Below.refl _ _).drew))
      repeat refine SegT.setNe ?_ (fun b off e=>by have:=F.o.1 b off e;simp;omega) _
      exact HT.o
     ·rw[D.o];refine SegI.below ?_ (zae (zaa _ _) ((Below.refl _ _).drew))
      repeat refine SegI.setNe ?_ (fun b off e=>by have:=F.o.2 b off e;simp;omega) _
      exact HI.o
    ·rw[D.o];refine Rd.below ?_ (zae (zaa _ _) ((Below.refl _ _).drew))
     repeat refine Rd.setNe ?_ (show R≠w.heap.size by omega) _
     exact X.o
    ·rw[D.o];refine But.trans ?_ (But.of_below (zae (zaa _ _) ((Below.refl _ _).drew))) (by simp[World.setCell];omega);exact(((((N.o.setNew (p:=⟨w.heap.size,0,none⟩) (Nat.le_refl _) _).setNew (p:=⟨w.heap.size,1,none⟩) (Nat.le_refl _) _).setNew (p:=⟨w.heap.size,2,none⟩) (Nat.le_refl _) _).setNew (p:=⟨w.heap.size,3,none⟩) (Nat.le_refl _) _).setNew (p:=⟨w.heap.size,4,none⟩) (Nat.le_refl _) _)
 ·have A2:(er==0)=false:=by simpa using he
  go_wp2
  go_region
  all_goals
   obtain⟨W,E⟩:∃W,W=((((((S.setCell ⟨w.heap.size,0,none⟩ (.int .i64 mk.kind)).setCell ⟨w.heap.size,1,none⟩ (.int .i64 mk.seq)).setCell ⟨w.heap.size,2,none⟩ (.int .i64 mk.pos)).setCell ⟨w.heap.size,3,none⟩ (.slice B mk.tags.length c2)).setCell ⟨w.heap.size,4,none⟩ (.slice A mk.blocks.length c3)).alloc (.cells #[.int .i64 mk.kind,.int .i64 mk.seq,.int .i64 mk.pos,.slice B mk.tags.length c2,.slice A mk.blocks.length c3] 119)).drew:=⟨_,rfl⟩;have C:=zss j.o (.int .i64 mk.kind) (.int .i64 mk.seq) (.int .i64 mk.pos) (.slice B mk.tags.length c2) (.slice A mk.blocks.length c3) (.cells #[.int .i64 mk.kind,.int .i64 mk.seq,.int .i64 mk.pos,.slice B mk.tags.length c2,.slice A mk.blocks.length c3] 119);rw[←E]at C;obtain⟨⟨O,Q,h,U,Z⟩,_⟩:=zis C;have D:=zab E;rw[←E];clear E C y0 y1 x y3 y4 z f1 f2 f3 f4;go_wp2;refine bodyPost_ret (v:=.tuple #[.agg #[.int .i64 mk.kind,.int .i64 mk.seq,.int .i64 mk.pos,.slice B mk.tags.length c2,.slice A mk.blocks.length c3],.bool false]) (by simp[results,results144,go_sem,O,Q,h,U,Z]) rfl ⟨.agg #[.int .i64 mk.kind,.int .i64 mk.seq,.int .i64 mk.pos,.slice B mk.tags.length c2,.slice A mk.blocks.length c3],by rw[←I.o,←M.o];simp[he],?_,?_,?_⟩
   ·rw[←I.o,←M.o];refine⟨B,c2,A,c3,rfl,?_,?_,J.o.1,J.o.2,fun b off e=>(by have:=F.o.1 b off e;omega),fun b off e=>(by have:=F.o.2 b off e;omega)⟩
    ·rw[D.o];refine SegT.below ?_ (zae (zaa _ _) ((Below.refl _ _).drew))
     repeat refine SegT.setNe ?_ (fun b off e=>by have:=F.o.1 b off e;simp;omega) _
     exact HT.o
    ·rw[D.o];refine SegI.below ?_ (zae (zaa _ _) ((Below.refl _ _).drew))
     repeat refine SegI.setNe ?_ (fun b off e=>by have:=F.o.2 b off e;simp;omega) _
     exact HI.o
   ·rw[D.o];refine Rd.below ?_ (zae (zaa _ _) ((Below.refl _ _).drew))
    repeat refine Rd.setNe ?_ (show R≠w.heap.size by omega) _
    exact X.o
   ·rw[D.o];refine But.trans ?_ (But.of_below (zae (zaa _ _) ((Below.refl _ _).drew))) (by simp[World.setCell];omega);exact(((((N.o.setNew (p:=⟨w.heap.size,0,none⟩) (Nat.le_refl _) _).setNew (p:=⟨w.heap.size,1,none⟩) (Nat.le_refl _) _).setNew (p:=⟨w.heap.size,2,none⟩) (Nat.le_refl _) _).setNew (p:=⟨w.heap.size,3,none⟩) (Nat.le_refl _) _).setNew (p:=⟨w.heap.size,4,none⟩) (Nat.le_refl _) _)
def bl (s:ByteArray):List UInt8:=s.data.toList
theorem zzp(s:ByteArray):(bl s).length=s.size:=rfl
theorem z5l{s t:ByteArray}(h:bl s=bl t):s=t:=ByteArray.ext (Array.ext' h)
theorem zca(s t:ByteArray):bl (s++t)=bl s++bl t:=by simp[bl,ByteArray.data_append]
theorem zl2(s:ByteArray)(k:Nat):at8 s k=(((bl s).getD k 0).toNat:Int):=by
 by_cases h:k<s.size
 ·rw[←ziy s k h,List.getD,List.getElem?_eq_getElem (show k<(bl s).length from h)];rfl
 ·have A:¬k<s.data.size:=h;rw[List.getD,List.getElem?_eq_none (by rw[zzp];omega)];unfold at8;show((s.data[k]!).toNat:Int)=_;rw[getElem!_neg s.data k A];rfl
theorem zqz(s:ByteArray)(h:4≤s.size):isMagic s=true↔at8 s 0=87∧at8 s 1=66∧at8 s 2=75∧at8 s 3=49:=by
 have e:(s.extract 0 4).toList=(bl s).take 4:=by
  rw[ByteArray.toList_eq];simp[bl,ByteArray.data_extract]
 rw[isMagic,if_pos h,e,beq_iff_eq,zl2,zl2,zl2,zl2];have A:4≤(bl s).length:=h
 match hb:bl s,A with
 |a::b::c::d::r,_=>
  simp only[List.take_succ_cons,List.take_zero,List.cons.injEq,and_true,List.getD_cons_zero,List.getD_cons_succ];constructor
  ·rintro⟨rfl,rfl,rfl,rfl⟩;exact⟨rfl,rfl,rfl,rfl⟩
  ·rintro⟨h1,h2,h3,h4⟩;exact⟨UInt8.toNat_inj.1 (by show a.toNat=87;omega),UInt8.toNat_inj.1 (by show b.toNat=66;omega),UInt8.toNat_inj.1 (by show c.toNat=75;omega),UInt8.toNat_inj.1 (by show d.toNat=49;omega)⟩
def zws (k q:Int):List UInt8:=[87,66,75,49,UInt8.ofNat k.toNat,UInt8.ofNat (q/16777216).toNat,UInt8.ofNat (q/65536%256).toNat,UInt8.ofNat (q/256%256).toNat,UInt8.ofNat (q%256).toNat]
def z1q:List (Int×Bool)→List UInt8
 |[]=>[]
 |x::r=>UInt8.ofNat x.1.toNat::(if x.2 then 1 else 0)::z1q r
def z3v (l:List Int):List UInt8:=l.map fun x=>UInt8.ofNat x.toNat
def zgn (m:Mk):List UInt8:=
 if m.kind=1 then[UInt8.ofNat m.pos.toNat] else if m.kind=2 then UInt8.ofNat m.tags.length::z1q m.tags else if m.kind=3 then UInt8.ofNat m.blocks.length::z3v m.blocks else[]
theorem zh6(n:Nat):bl (zef n)=[UInt8.ofNat n]:=rfl
theorem zo3(k q:Int):bl (zmx k q)=zws k q:=by
 rw[zmx,zca,zca,zca,zca,zca,zh6,zh6,zh6,zh6,zh6];rfl
theorem z4g(s:ByteArray)(l:List (Int×Bool)):bl (zgv s l)=bl s++z1q l:=by
 induction l generalizing s with
 |nil=>simp[zgv,z1q]
 |cons x r ih=>
  rw[zgv,ih,zca,zca,zh6,z1q];have:bl (if x.2 then(⟨#[1]⟩:ByteArray) else⟨#[0]⟩)=[if x.2 then 1 else 0]:=by cases x.2<;>rfl
  rw[this];simp
theorem z4h(s:ByteArray)(l:List Int):bl (zgw s l)=bl s++z3v l:=by
 induction l generalizing s with
 |nil=>simp[zgw,z3v]
 |cons x r ih=>rw[zgw,ih,zca,zh6];simp[z3v]
theorem zzq(m:Mk):bl (zom m)=zws m.kind m.seq++zgn m:=by
 unfold zom zgn;by_cases h1:m.kind=1
 ·rw[if_pos h1,if_pos h1,zca,zo3,zh6]
 ·rw[if_neg h1,if_neg h1];by_cases h2:m.kind=2
  ·rw[if_pos h2,if_pos h2,z4g,zca,zo3,zh6];simp
  ·rw[if_neg h2,if_neg h2];by_cases h3:m.kind=3
   ·rw[if_pos h3,if_pos h3,z4h,zca,zo3,zh6];simp
   ·rw[if_neg h3,if_neg h3,zo3];simp
theorem ztb(l:List (Int×Bool)):(z1q l).length=2*l.length:=by
 induction l with
 |nil=>rfl
 |cons x r ih=>simp only[z1q,List.length_cons,ih];omega
theorem ztc(l:List Int):(z3v l).length=l.length:=by simp[z3v]
theorem zkk{m:Mk}(h:goodM m=0):(zgn m).length≤21:=by
 obtain⟨_,_,_,A,hb,_,_⟩:=zgd h;unfold zgn;by_cases h1:m.kind=1
 ·rw[if_pos h1];simp
 ·rw[if_neg h1];by_cases h2:m.kind=2
  ·rw[if_pos h2,List.length_cons,ztb];have:=A h2;omega
  ·rw[if_neg h2];by_cases h3:m.kind=3
   ·rw[if_pos h3,List.length_cons,ztc];have:=hb h3;omega
   ·rw[if_neg h3];simp
theorem zzr{m:Mk}(h:goodM m=0):bl (encT m)=zws m.kind m.seq++(zgn m++List.replicate (23 - (zgn m).length) 0):=by
 have hl:=zkk h;have hb:(bl (zom m)).length=9+(zgn m).length:=by rw[zzq,List.length_append];rfl
 have A:(zom m).size=9+(zgn m).length:=hb;rw[encT,if_pos h];show z41 (zom m)=_;rw[z41,A];show(bl (zom m)).take 32++_=_;rw[List.take_of_length_le (by omega),zzq,List.append_assoc,show 32 - (9+(zgn m).length)=23 - (zgn m).length from by omega]
theorem zff{m:Mk}(h:goodM m=0):(encT m).size=32:=by
 have hl:=zkk h
 have:(bl (encT m)).length=32:=by
  rw[zzr h,List.length_append,List.length_append,List.length_replicate];show 9+_=32;omega
 exact this
theorem zlh{m:Mk}(h:goodM m=0)(j:Nat):at8 (encT m) (9+j)=(((zgn m).getD j 0).toNat:Int):=by
 rw[zl2,zzr h,List.getD,List.getElem?_append_right (show(zws m.kind m.seq).length≤9+j from Nat.le_add_right 9 j)];rw[show 9+j - (zws m.kind m.seq).length=j from by show 9+j - 9=j;omega];by_cases hj:j<(zgn m).length
 ·rw[List.getElem?_append_left hj,List.getD]
 ·rw[List.getElem?_append_right (by omega),List.getD,List.getElem?_eq_none (l:=zgn m) (by omega),List.getElem?_replicate];split<;>rfl
theorem zkl{x:Int}(h0:0≤x)(h1:x≤255):((UInt8.ofNat x.toNat).toNat:Int)=x:=by
 simp;omega
theorem zu6{m:Mk}(h:goodM m=0):at8 (encT m) 0=87∧at8 (encT m) 1=66∧at8 (encT m) 2=75∧at8 (encT m) 3=49∧at8 (encT m) 4=m.kind∧at8 (encT m) 5=m.seq/16777216∧at8 (encT m) 6=m.seq/65536%256∧at8 (encT m) 7=m.seq/256%256∧at8 (encT m) 8=m.seq%256:=by
 obtain⟨_,_,_,_,_,_,_⟩:=zgd h;simp only[zl2,zzr h,zws,List.cons_append,List.getD_cons_zero,List.getD_cons_succ];refine⟨rfl,rfl,rfl,rfl,zkl (by omega) (by omega),zkl (by omega) (by omega),zkl (by omega) (by omega),zkl (by omega) (by omega),zkl (by omega) (by omega)⟩
theorem zzs{m:Mk}(h:goodM m=0):isMagic (encT m)=true:=by
 obtain⟨B,A,C,D,_⟩:=zu6 h;exact(zqz _ (by rw[zff h];omega)).2 ⟨B,A,C,D⟩
theorem z4i(l:List (Int×Bool))(i:Nat)(x:Int×Bool)(h:l[i]?=some x):(z1q l).getD (2*i) 0=UInt8.ofNat x.1.toNat∧(z1q l).getD (2*i+1) 0=if x.2 then 1 else 0:=by
 induction l generalizing i with
 |nil=>simp at h
 |cons y r ih=>
  cases i with
  |zero=>simp at h;subst h;exact⟨rfl,rfl⟩
  |succ i=>
   have:=ih i (by simpa using h);rw[show 2*(i+1)=2*i+1+1 from by omega,z1q];simp only[List.getD_cons_succ];exact this
theorem z4j(l:List Int)(i:Nat)(x:Int)(h:l[i]?=some x):(z3v l).getD i 0=UInt8.ofNat x.toNat:=by
 rw[List.getD,z3v,List.getElem?_map,h];rfl
theorem back{m:Mk}(h:goodM m=0):gsM (encT m)=m:=by
 obtain⟨⟨k1,k2⟩,⟨q1,q2,p1,p2⟩,⟨f1,K,J⟩,d,hb,Y,M⟩:=zgd h;obtain⟨_,_,_,_,Z,c,a,U,X⟩:=zu6 h
 have b:zfq (encT m) 4=m.seq:=by
  simp only[zfq];rw[show 0+5=5 from rfl,show 1+5=6 from rfl,show 2+5=7 from rfl,show 3+5=8 from rfl,c,a,U,X];omega
 have F:=zlh h 0;rw[show 9+0=9 from rfl]at F;obtain⟨kind,seq,pos,B,A⟩:=m;dsimp only at *;unfold gsM;rw[b,Z];by_cases e1:kind=1
 ·rw[if_pos e1,if_neg (by omega),if_neg (by omega),K (by omega),J (by omega)];rw[zgn,if_pos e1]at F;rw[K (by omega),J (by omega)]at F;rw[F];show Mk.mk kind seq ((UInt8.ofNat pos.toNat).toNat:Int) [] []=_;rw[zkl (by omega) (by omega)]
 ·obtain rfl:=f1 e1;rw[if_neg e1];by_cases e2:kind=2
  ·have S:=d e2;rw[if_pos e2,if_neg (by omega),J (by omega)]
   have C:zdk (encT ⟨kind,seq,0,B,A⟩) 10=B.length:=by
    rw[zdk,F,zgn,if_neg e1,if_pos e2];show min (((UInt8.ofNat B.length).toNat:Int)).toNat 10=_;simp;omega
   have L:zie (encT ⟨kind,seq,0,B,A⟩)=B:=by
    apply List.ext_getElem?;intro i;by_cases hi:i<B.length
    ·rw[zoj _ i (by rw[C];exact hi)];obtain⟨x,E⟩:∃x,B[i]?=some x:=⟨_,List.getElem?_eq_getElem hi⟩;have Q:=zk6 _ _ Y (by omega) x.1 (List.mem_map.2 ⟨x,List.mem_of_getElem? E,rfl⟩);have N:=z4i B i x E;have D:=zlh h (1+2*i);have I:=zlh h (2+2*i);rw[zgn,if_neg e1,if_pos e2]at D I;rw[show 9+(1+2*i)=10+2*i from by omega,show 1+2*i=2*i+1 from by omega]at D;rw[show 9+(2+2*i)=11+2*i from by omega,show 2+2*i=2*i+1+1 from by omega]at I;simp only[List.getD_cons_succ]at D I;rw[N.1]at D;rw[N.2]at I;rw[D,I,E,zkl (by omega) (by omega)];obtain⟨xi,f⟩:=x;cases f<;>rfl
    ·rw[List.getElem?_eq_none (by rw[zd8,C];omega),List.getElem?_eq_none (by omega)]
   have O:=J (by omega);subst O;rw[L]
  ·rw[if_neg e2,K e2];by_cases e3:kind=3
   ·have S:=hb e3;rw[if_pos e3];have R:=K e2;subst R
    have C:zdk (encT ⟨kind,seq,0,[],A⟩) 20=A.length:=by
     rw[zdk,F,zgn,if_neg e1,if_neg e2,if_pos e3];show min (((UInt8.ofNat A.length).toNat:Int)).toNat 20=_;simp;omega
    have L:zdh (encT ⟨kind,seq,0,[],A⟩)=A:=by
     apply List.ext_getElem?;intro i;by_cases hi:i<A.length
     ·rw[zjv _ i (by rw[C];exact hi)];obtain⟨x,E⟩:∃x,A[i]?=some x:=⟨_,List.getElem?_eq_getElem hi⟩;have Q:=zk6 _ _ M (by omega) x (List.mem_of_getElem? E);have D:=zlh h (1+i);rw[zgn,if_neg e1,if_neg e2,if_pos e3]at D;rw[show 9+(1+i)=10+i from by omega,show 1+i=i+1 from by omega]at D;simp only[List.getD_cons_succ]at D;rw[z4j A i x E]at D;rw[D,E,zkl (by omega) (by omega)]
     ·rw[List.getElem?_eq_none (by rw[zdb,C];omega),List.getElem?_eq_none (by omega)]
    rw[L]
   ·rw[if_neg e3,J e3]
theorem zj1{m:Mk}(h:goodM m=0):zas (encT m)=(m,0):=by
 rw[zas,back h,if_pos ⟨zff h,h,rfl⟩]
theorem zq0{s:ByteArray}(h:isMagic s=false):zas s=(zp6,1):=by
 refine if_neg fun x=>?_;have:=zzs x.2.1;rw[x.2.2,h]at this;cases this
theorem zwt{s:ByteArray}(hm:isMagic s=true):(bl s).take 4=[87,66,75,49]:=by
 have e:(s.extract 0 4).toList=(bl s).take 4:=by
  rw[ByteArray.toList_eq];simp[bl,ByteArray.data_extract]
 rw[isMagic,if_pos (zel hm),e,beq_iff_eq]at hm;exact hm
theorem zo4(s:ByteArray):(escT s).size=s.size:=by
 unfold escT
 cases hm:isMagic s with
 |false=>rfl
 |true=>
  have:=zel hm;rw[if_pos rfl,ByteArray.size_append,ByteArray.size_extract];show 4+_=_;omega
theorem zzt(s:ByteArray):isMagic (escT s)=false:=by
 cases hm:isMagic s with
 |false=>rw[escT,hm];exact hm
 |true=>
  have A:=zel hm
  cases he:isMagic (escT s) with
  |false=>rfl
  |true=>
   have:=((zqz _ (by rw[zo4];exact A)).1 he).1;rw[escT,if_pos hm,zl2,zca]at this;exact absurd this (by show¬((0:Int)=87);decide)
theorem zzu(s:ByteArray):zfa (escT s) (isMagic s)=s:=by
 cases hm:isMagic s with
 |false=>rw[escT,hm,zfa,if_pos (.inl rfl)];rfl
 |true=>
  have h4:=zel hm;have hz:=zo4 s;rw[zfa,if_neg (by rintro(h|h);cases h;omega)]
  have A:bl (escT s)=[0,0,0,0]++(bl s).drop 4:=by
   rw[escT,if_pos hm,zca]
   congr 1
   simp only[bl,ByteArray.data_extract,Array.toList_extract];rw[List.extract_eq_take_drop];apply List.take_of_length_le;rw[List.length_drop];exact Nat.le_refl _
  have C:bl ((escT s).extract 4 (escT s).size)=(bl s).drop 4:=by
   have:bl ((escT s).extract 4 (escT s).size)=(bl (escT s)).drop 4:=by
    simp only[bl,ByteArray.data_extract,Array.toList_extract];rw[List.extract_eq_take_drop];apply List.take_of_length_le;rw[List.length_drop];exact Nat.le_refl _
   rw[this,A];rfl
  apply z5l;have B:bl (⟨#[87,66,75,49]⟩:ByteArray)=[87,66,75,49]:=rfl;rw[zca,C,B,←zwt hm,List.take_append_drop]
