/-
  
-/
import Derived.Test.YtjnpndfpajjihacGreatTApart
import Derived.Test.YtjnpndfpajjihacGreatGrTopSettles22
import Derived.Deep.RegionHeld3
import Derived.Test.YtjnpndfpajjihacGreatRTake2
set_option maxRecDepth 100000
set_option maxHeartbeats 40000000
namespace Go.Proofs.YtjnpndfpajjihacGreat
open Go.Proofs.Tryz
open Go.RowKit
theorem zfh(t:Tx):za9 t=(zap t.seq 1 2147483647&&(zb5 t.info&&zb5 t.data)&&(zbl (blksOf t.info)&&zbl (blksOf t.data)&&zbl t.rev)&&decide (zks t).Nodup&&(hdB t.h0&&hdB t.h1&&hdB t.h2)):=rfl
theorem zb6(v:Value)(t:Tx)(w:World)(hT:IsTx w v t)(r1:t.info.length*24≤140737488355328)(r2:t.data.length*24≤140737488355328):
  Calls prog 31 #[v] w fun e w'=>e=.returned (.bool (za9 t))∧Below w.heap.size w w':=by
 obtain⟨a,c,z,k,r,d,rfl,hM,hD,hR,n1,n2,n3⟩:=hT;have HM:=zaa hM;have HD:=zaa hD;have HR:=zaa hR;have N1:=zaa n1;have N2:=zaa n2;have N3:=zaa n3;clear hM hD hR n1 n2 n3
 cases h0:zap t.seq 1 2147483647 with
 |false=>
  have C:Hid (za9 t=false):=by rw[Hid,zfh,h0];rfl
  go_enter func31,ntmps31;go_wp2_with (go_at_call 59;refine(zaz _ _ _ _).mono ?_;rintro e w' ⟨rfl,rfl⟩);go_ret;exact⟨by rw[C.o];rfl,zab _ _⟩
 |true=>
  have H0:=zaa h0;go_enter func31,ntmps31;go_wp2_with (go_at_call 59;refine(zaz _ _ _ _).mono ?_;rintro e w' ⟨rfl,rfl⟩);clear h0;refine(zuy a c t.info _ (HM.o.below (zab _ _)) N1.o).mono ?_;rintro e w1 ⟨rfl,Q⟩;have A7:w.heap.size<w1.heap.size:=by have:=Q.size;simp at this;omega
  have K1:=zaa (z3v Q);obtain⟨⟨_,l,s,X,_⟩,_⟩:=zaj K1.o;have M:=zaa (zae (zab _ _) Q);clear Q
  cases h1:zb5 t.info with
  |false=>
   have C:Hid (za9 t=false):=by rw[Hid,zfh,h1];simp
   go_wp2;go_ret;exact⟨by rw[C.o];rfl,M.o⟩
  |true=>
   have H1:=zaa h1;clear h1;go_wp2_with fail;refine(zuy z k t.data _ (HD.o.below M.o) N2.o).mono ?_;rintro e D ⟨rfl,L⟩;have U:w.heap.size<D.heap.size:=by have:=L.size;omega
   have K2:=zaa (zad L A7 K1.o);have N:=zaa (zae M.o L);clear L K1 l s X M;obtain⟨⟨x0,l,s,X,u,m,p,j,q,y⟩,_⟩:=zaj K2.o
   cases h2:zb5 t.data with
   |false=>
    have C:Hid (za9 t=false):=by rw[Hid,zfh,h2];simp
    go_wp2;go_ret;exact⟨by rw[C.o];rfl,N.o⟩
   |true=>
    have H2:=zaa h2;clear h2;go_wp2
    have K:Hid (∀w',Below D.heap.size D w'→Hid (Below D.heap.size D w')∧w'.cell? ⟨w.heap.size,1,none⟩=some (.slice a t.info.length c)∧w'.cell? ⟨w.heap.size,2,none⟩=some (.slice z t.data.length k)):=
     fun w' hb=>⟨hb,zac hb U l,zac hb U s⟩
    clear x0 l s X u m p j q y
    go_region_held3 (fun w'=>Hid (Below D.heap.size D w')∧w'.cell? ⟨w.heap.size,1,none⟩=some (.slice a t.info.length c)∧w'.cell? ⟨w.heap.size,2,none⟩=some (.slice z t.data.length k))
     (first|exact K.o _ ((Below.refl _ _).drew)|(refine K.o _ ?_;assumption))
     (first
      |(go_at_call_of 61 (t.info);(have A:=(‹Hid (Below D.heap.size D _)∧_›).1);have I:=zaa A.o;refine(zng a c t.info _ ?_ r1).mono ?_;exact HM.o.below (zae N.o A.o);clear A;rintro e B2 ⟨Z,Y,rfl,A1,E⟩;have A9:=zae I.o E;have A8:=zaa A1;clear E I A1)
      |(go_at_call_of 61 (t.data);(have A:=(‹Hid (Below D.heap.size D _)∧_›).1);have I:=zaa A.o;refine(zng z k t.data _ ?_ r2).mono ?_;exact HD.o.below (zae N.o A.o);clear A;rintro e B ⟨h,R,rfl,A2,E⟩;have A9:=zae I.o E;have A4:=zaa A2;have b:=zaa (A8.o.below E);clear E I A2))
    have A:=(‹Hid (Below D.heap.size D B)∧_›).1;have J:=zaa (zae N.o A.o);have A6:w.heap.size<B.heap.size:=by have:=A.o.size;omega
    have K3:=zaa (zad A.o U K2.o);have A0:=zaa (HR.o.below J.o);obtain⟨⟨_,_,_,X,u,m,p,j,q,y⟩,_⟩:=zaj K3.o;have rM:=zk5 Z Y (blksOf t.info) B b.o (by rw[zcz];exact N1.o);have rD:=zk5 h R (blksOf t.data) B A4.o (by rw[zcz];exact N2.o);have rR:=zk5 r d t.rev B A0.o N3.o;rw[zcz]at rM rD;clear A K HM HD HR;go_wp2_with fail;refine rM.mono ?_;rintro e O ⟨rfl,rfl⟩
    cases h3:zbl (blksOf t.info) with
    |false=>
     have C:Hid (za9 t=false):=by rw[Hid,zfh,h3];simp
     go_wp2;go_ret;exact⟨by rw[C.o];rfl,J.o⟩
    |true=>
     go_wp2_with fail;refine rD.mono ?_;rintro e O ⟨rfl,rfl⟩
     cases h4:zbl (blksOf t.data) with
     |false=>
      have C:Hid (za9 t=false):=by rw[Hid,zfh,h4];simp
      go_wp2;go_ret;exact⟨by rw[C.o];rfl,J.o⟩
     |true=>
      go_wp2_with fail;refine rR.mono ?_;rintro e O ⟨rfl,rfl⟩
      cases h5:zbl t.rev with
      |false=>
       have C:Hid (za9 t=false):=by rw[Hid,zfh,h5];simp
       go_wp2;go_ret;exact⟨by rw[C.o];rfl,J.o⟩
      |true=>
       have q3:=zdm h3;have q4:=zdm h4;have q5:=zdm h5;have HN:=zaa (zy8 t h3 h4 h5);have HF:Hid (flatI [(Z,Y,blksOf t.info),(h,R,blksOf t.data),(r,d,t.rev)]=zks t):=by simp[Hid,flatI,zks]
       have HL:Hid (∀w',Below B.heap.size B w'→w'.cell? ⟨B.heap.size,0,none⟩=some (.slice Z (blksOf t.info).length Y)→w'.cell? ⟨B.heap.size,1,none⟩=some (.slice h (blksOf t.data).length R)→w'.cell? ⟨B.heap.size,2,none⟩=some (.slice r t.rev.length d)→B.heap.size<w'.heap.size→zyo w' B.heap.size [(Z,Y,blksOf t.info),(h,R,blksOf t.data),(r,d,t.rev)]):=by
        intro w' hb c0 c1 c2 A5;refine⟨A5,fun i x hx=>?_⟩
        match i,hx with
        |0,hx=>cases hx;exact⟨c0,b.o.below hb⟩
        |1,hx=>cases hx;exact⟨c1,A4.o.below hb⟩
        |2,hx=>cases hx;exact⟨c2,A0.o.below hb⟩
        |n+3,hx=>simp at hx
       go_wp2_with fail;refine(zzb B.heap.size 3 3 [(Z,Y,blksOf t.info),(h,R,blksOf t.data),(r,d,t.rev)] _ rfl (by omega) (HL.o _ (zab _ _) (by rw[zcz];simp[go_sem]) (by rw[zcz];simp[go_sem]) (by simp[go_sem]) (by simp)) (by rw[HF.o,zks,List.length_append,List.length_append];omega)).mono ?_;rintro e O ⟨rfl,S⟩;rw[HF.o,HN.o];have F:=zae (zab _ _) S;have A3:=zaa (zae J.o F);have B0:w.heap.size<O.heap.size:=by have:=F.size;omega
       have K4:=zaa (zad F A6 K3.o);clear X u m p j q y S F;obtain⟨⟨_,_,_,_,u,m,p,j,q,y⟩,_⟩:=zaj K4.o
       cases h6:decide (zks t).Nodup with
       |false=>
        have C:Hid (za9 t=false):=by rw[Hid,zfh,h6];simp
        go_wp2;go_ret;exact⟨by rw[C.o];rfl,A3.o⟩
       |true=>
        have C:Hid (za9 t=(hdB t.h0&&hdB t.h1&&hdB t.h2)):=by rw[Hid,zfh,H0.o,H1.o,H2.o,h3,h4,h5,h6];simp
        go_wp2_with fail;refine(zsv t.h0 t.h1 t.h2 _).mono ?_;rintro e B1 ⟨rfl,F⟩;go_wp2;go_ret;exact⟨by rw[C.o];rfl,zae A3.o F⟩
theorem zaw{t:Tx}(h:za9 t=true):t.info.length≤12∧t.data.length≤12∧t.rev.length≤12:=by
 have:=(za3 t).1 h;have A:=zdm this.2.2.1.1;have B:=zdm this.2.2.1.2.1;have C:=zdm this.2.2.1.2.2;rw[zcz]at A B;exact⟨A,B,C⟩
open Go.Proofs.Tryz
def sealE (h u:Int)(t:Tx):Int:=if zgo h u=false∨za9 t=false∨zfm t=true then 2 else takeE h u (needN t.info.length t.rev.length)
def zcf (h u:Int)(t:Tx):Int:=if sealE h u t=0 then takeH h u (needN t.info.length t.rev.length) else h
def zca (h u:Int)(t:Tx):Int:=if sealE h u t=0 then takeU h u (needN t.info.length t.rev.length) else u
def sealP (h u:Int)(t:Tx):List Int:=if sealE h u t=0 then takeL h u (needN t.info.length t.rev.length) else[]
theorem zuz(h u:Int)(v:Value)(t:Tx)(w:World)(hT:IsTx w v t)(r1:t.info.length*24≤140737488355328)(r2:t.data.length*24≤140737488355328):
  Calls prog 163 #[.agg #[.int .i64 h,.int .i64 u],v] w fun e w'=>∃a c,e=.returned (.tuple #[.agg #[.int .i64 (zcf h u t),.int .i64 (zca h u t)],.slice a (sealP h u t).length c,.int .i64 (sealE h u t)])∧(SegI w' a (sealP h u t)∧(∀b off,a=some ⟨b,off,none⟩→w.heap.size≤b)∧(sealP h u t).length≤c)∧Below w.heap.size w w':=by
 have HT:=zaa hT;obtain⟨a0,a1,a2,a3,a4,a5,rfl,_,_,_,n1,n2,n3⟩:=hT;go_enter func163,ntmps163;go_wp2_with fail;refine(zkc h u _).mono ?_;rintro e w1 ⟨rfl,l⟩;obtain⟨K1,K2,K3,z⟩:=zj5 l;have L:=zaa K1;have M:=zaa K2;have K:=zaa K3;have A1:w.heap.size<w1.heap.size:=by omega
 have p:w.heap.size+1<w1.heap.size:=by omega
 have O:=zaa (zae (zae (zae (zab _ _) (zab _ _)) (zab _ _)) l);clear K1 K2 K3 l;obtain⟨⟨X,I⟩,_⟩:=zgr L.o;obtain⟨⟨D,C⟩,R,f1⟩:=zgr K.o;obtain⟨⟨Y,k,i,m,j,U,Z,S,d,n⟩,_⟩:=zaj M.o
 cases hg:zgo h u with
 |false=>
  have B:Hid (sealE h u t=2):=by rw[Hid,sealE,if_pos (.inl hg)]
  have A:Hid (zcf h u t=h∧zca h u t=u∧sealP h u t=[]):=by simp[Hid,zcf,zca,sealP,B.o]
  go_wp2;refine bodyPost_ret (v:=.tuple #[.agg #[.int .i64 h,.int .i64 u],.slice none 0 0,.int .i64 2]) (by simp[results,results163,go_sem,D,C]) rfl ⟨none,0,by rw[B.o,A.o.1,A.o.2.1,A.o.2.2];rfl,⟨.inl A.o.2.2,fun _ _ e=>(by cases e),(by rw[A.o.2.2];exact Nat.le_refl _)⟩,?_⟩
  repeat refine Below.setCell ?_ (by simp;try omega) _
  exact O.o
 |true=>
  have HG:=zaa hg;clear hg;go_wp2_with fail;refine(zb6 _ t _ (HT.o.below O.o) r1 r2).mono ?_;rintro e w2 ⟨rfl,E⟩
  replace L:=zaa (zad E A1 L.o)
  replace M:=zaa (zad E p M.o)
  replace K:=zaa (zad E z K.o)
  have N:=zaa (zae O.o E);have x:=Nat.lt_of_lt_of_le z E.size;have A2:w.heap.size<w2.heap.size:=by omega
  have q:w.heap.size+1<w2.heap.size:=by omega
  clear E X I D C R f1 Y k i m j U Z S d n O;obtain⟨⟨X,I⟩,_⟩:=zgr L.o;obtain⟨⟨D,C⟩,R,f1⟩:=zgr K.o;obtain⟨⟨Y,k,i,m,j,U,Z,S,d,n⟩,_⟩:=zaj M.o
  cases hx:za9 t with
  |false=>
   have B:Hid (sealE h u t=2):=by rw[Hid,sealE,if_pos (.inr (.inl hx))]
   have A:Hid (zcf h u t=h∧zca h u t=u∧sealP h u t=[]):=by simp[Hid,zcf,zca,sealP,B.o]
   go_wp2;refine bodyPost_ret (v:=.tuple #[.agg #[.int .i64 h,.int .i64 u],.slice none 0 0,.int .i64 2]) (by simp[results,results163,go_sem,D,C]) rfl ⟨none,0,by rw[B.o,A.o.1,A.o.2.1,A.o.2.2];rfl,⟨.inl A.o.2.2,fun _ _ e=>(by cases e),(by rw[A.o.2.2];exact Nat.le_refl _)⟩,?_⟩
   repeat refine Below.setCell ?_ (by simp;try omega) _
   exact N.o
  |true=>
   have A0:=zaa hx;clear hx;go_wp2_with fail;refine(zqm _ t _ (HT.o.below N.o)).mono ?_;rintro e w3 ⟨rfl,F⟩
   replace L:=zaa (zad F A2 L.o)
   replace M:=zaa (zad F q M.o)
   replace K:=zaa (zad F x K.o)
   have r:=zaa (zae N.o F);have y:=Nat.lt_of_lt_of_le x F.size;have A5:w.heap.size<w3.heap.size:=by omega
   clear F X I D C R f1 Y k i m j U Z S d n N;obtain⟨⟨X,I⟩,_⟩:=zgr L.o;obtain⟨⟨D,C⟩,R,f1⟩:=zgr K.o;obtain⟨⟨Y,k,i,m,j,U,Z,S,d,n⟩,_⟩:=zaj M.o
   cases ho:zfm t with
   |true=>
    have B:Hid (sealE h u t=2):=by rw[Hid,sealE,if_pos (.inr (.inr ho))]
    have A:Hid (zcf h u t=h∧zca h u t=u∧sealP h u t=[]):=by simp[Hid,zcf,zca,sealP,B.o]
    go_wp2;refine bodyPost_ret (v:=.tuple #[.agg #[.int .i64 h,.int .i64 u],.slice none 0 0,.int .i64 2]) (by simp[results,results163,go_sem,D,C]) rfl ⟨none,0,by rw[B.o,A.o.1,A.o.2.1,A.o.2.2];rfl,⟨.inl A.o.2.2,fun _ _ e=>(by cases e),(by rw[A.o.2.2];exact Nat.le_refl _)⟩,?_⟩
    repeat refine Below.setCell ?_ (by simp;try omega) _
    exact r.o
   |false=>
    have A6:=zaw A0.o;have HN:Hid (zh4 (t.info.length:Int) (t.rev.length:Int)=0):=by rw[Hid,zh4,if_neg];omega
    have B:Hid (sealE h u t=takeE h u (needN t.info.length t.rev.length)):=by
     rw[Hid,sealE,if_neg];rw[HG.o,A0.o,ho];simp
    have HS:Hid (zcf h u t=takeH h u (needN t.info.length t.rev.length)∧zca h u t=takeU h u (needN t.info.length t.rev.length)∧sealP h u t=takeL h u (needN t.info.length t.rev.length)):=by
     by_cases e:takeE h u (needN t.info.length t.rev.length)=0
     ·simp[Hid,zcf,zca,sealP,B.o,e]
     ·simp[Hid,zcf,zca,sealP,B.o,takeH,takeU,takeL,e]
    go_wp2_with fail;refine(zql (t.info.length:Int) (t.rev.length:Int) _).mono ?_;rintro e w4 ⟨rfl,rfl⟩;rw[HN.o];generalize needN (t.info.length:Int) (t.rev.length:Int)=nn at *;go_wp2_with fail;refine(zqi h u nn _).mono ?_;rintro e w5 ⟨a,c,rfl,s,Q⟩;have J:=zaa s;have A4:=zaa (zae r.o Q);have A3:=zaa (zad Q y K.o);have A7:=Nat.lt_of_lt_of_le y Q.size;clear s Q X I D C R f1 Y k i m j U Z S d n;obtain⟨⟨D,C⟩,R,f1⟩:=zgr A3.o;generalize takeE h u nn=te at *;generalize takeH h u nn=th at *;generalize takeU h u nn=tu at *;generalize takeL h u nn=tl at *;go_wp2;refine bodyPost_ret (v:=.tuple #[.agg #[.int .i64 th,.int .i64 tu],.slice a tl.length c,.int .i64 te]) (by simp[results,results163,go_sem,D,C]) rfl ?_;rw[B.o,HS.o.1,HS.o.2.1,HS.o.2.2];refine⟨a,c,rfl,⟨?_,fun b off e=>(by have:=J.o.2.1 b off e;omega),J.o.2.2⟩,?_⟩
    ·refine(J.o.1.setNe (fun b off e=>?_) _).setNe (fun b off e=>?_) _
     ·have:=J.o.2.1 b off e;simp;omega
     ·have:=J.o.2.1 b off e;simp;omega
    ·repeat refine Below.setCell ?_ (by simp;try omega) _
     exact A4.o
