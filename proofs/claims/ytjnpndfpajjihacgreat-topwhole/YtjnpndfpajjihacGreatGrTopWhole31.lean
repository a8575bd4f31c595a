/-
  
-/
import Derived.Test.YtjnpndfpajjihacGreatTApart
import Derived.Test.YtjnpndfpajjihacGreatGrTopWhole23
import Derived.Deep.RegionHeld3
import Derived.Test.YtjnpndfpajjihacGreatRTake2
set_option maxRecDepth 100000
set_option maxHeartbeats 40000000
namespace Go.Proofs.YtjnpndfpajjihacGreat
open Tryz
open Go.RowKit
theorem ze9 (t:Tx):za8 t=(zao t.seq 1 2147483647&&(zb7 t.info&&zb7 t.data)&&(zbk (blksOf t.info)&&zbk (blksOf t.data)&&zbk t.rev)&&decide (zkn t).Nodup&&(hdB t.h0&&hdB t.h1&&hdB t.h2)):=rfl
theorem zb8 (v:Value)(t:Tx)(w:World)(hT:IsTx w v t)(r1:t.info.length*24≤140737488355328)(r2:t.data.length*24≤140737488355328):
  Calls prog 31 #[v] w fun e w'=>e=.returned (.bool (za8 t))∧Below w.heap.size w w':=by
 obtain⟨a,c,j,s,r,d,rfl,hM,hD,hR,n1,n2,n3⟩:=hT;have HM:=zab hM;have HD:=zab hD;have HR:=zab hR;have N1:=zab n1;have N2:=zab n2;have N3:=zab n3;clear hM hD hR n1 n2 n3
 cases h0:zao t.seq 1 2147483647 with
 |false=>
  have C:Hid (za8 t=false):=by rw[Hid,ze9,h0];rfl
  go_enter func31,ntmps31;go_wp2_with (go_at_call 59;refine(zay _ _ _ _).mono ?_;rintro e w' ⟨rfl,rfl⟩);go_ret;exact⟨by rw[C.o];rfl,zaa _ _⟩
 |true=>
  have H0:=zab h0;go_enter func31,ntmps31;go_wp2_with (go_at_call 59;refine(zay _ _ _ _).mono ?_;rintro e w' ⟨rfl,rfl⟩);clear h0;refine(zuu a c t.info _ (HM.o.below (zaa _ _)) N1.o).mono ?_;rintro e w1 ⟨rfl,N⟩;have A8:w.heap.size<w1.heap.size:=by have:=N.size;simp at this;omega
  have K1:=zab (z30 N);obtain⟨⟨_,q,k,Z,_⟩,_⟩:=zaj K1.o;have M:=zab (zae (zaa _ _) N);clear N
  cases h1:zb7 t.info with
  |false=>
   have C:Hid (za8 t=false):=by rw[Hid,ze9,h1];simp
   go_wp2;go_ret;exact⟨by rw[C.o];rfl,M.o⟩
  |true=>
   have H1:=zab h1;clear h1;go_wp2_with fail;refine(zuu j s t.data _ (HD.o.below M.o) N2.o).mono ?_;rintro e D ⟨rfl,Q⟩;have b:w.heap.size<D.heap.size:=by have:=Q.size;omega
   have K2:=zab (zad Q A8 K1.o);have L:=zab (zae M.o Q);clear Q K1 q k Z M;obtain⟨⟨x0,q,k,Z,l,p,m,z,u,y⟩,_⟩:=zaj K2.o
   cases h2:zb7 t.data with
   |false=>
    have C:Hid (za8 t=false):=by rw[Hid,ze9,h2];simp
    go_wp2;go_ret;exact⟨by rw[C.o];rfl,L.o⟩
   |true=>
    have H2:=zab h2;clear h2;go_wp2
    have K:Hid (∀w',Below D.heap.size D w'→Hid (Below D.heap.size D w')∧w'.cell? ⟨w.heap.size,1,none⟩=some (.slice a t.info.length c)∧w'.cell? ⟨w.heap.size,2,none⟩=some (.slice j t.data.length s)):=
     fun w' hb=>⟨hb,zac hb b q,zac hb b k⟩
    clear x0 q k Z l p m z u y
    go_region_held3 (fun w'=>Hid (Below D.heap.size D w')∧w'.cell? ⟨w.heap.size,1,none⟩=some (.slice a t.info.length c)∧w'.cell? ⟨w.heap.size,2,none⟩=some (.slice j t.data.length s))
     (first|exact K.o _ ((Below.refl _ _).drew)|(refine K.o _ ?_;assumption))
     (first
      |(go_at_call_of 61 (t.info);(have A:=(‹Hid (Below D.heap.size D _)∧_›).1);have I:=zab A.o;refine(znm a c t.info _ ?_ r1).mono ?_;exact HM.o.below (zae L.o A.o);clear A;rintro e B1 ⟨Y,U,rfl,A2,E⟩;have A5:=zae I.o E;have A6:=zab A2;clear E I A2)
      |(go_at_call_of 61 (t.data);(have A:=(‹Hid (Below D.heap.size D _)∧_›).1);have I:=zab A.o;refine(znm j s t.data _ ?_ r2).mono ?_;exact HD.o.below (zae L.o A.o);clear A;rintro e B ⟨R,X,rfl,A4,E⟩;have A5:=zae I.o E;have A3:=zab A4;have h:=zab (A6.o.below E);clear E I A4))
    have A:=(‹Hid (Below D.heap.size D B)∧_›).1;have J:=zab (zae L.o A.o);have A7:w.heap.size<B.heap.size:=by have:=A.o.size;omega
    have K3:=zab (zad A.o b K2.o);have A1:=zab (HR.o.below J.o);obtain⟨⟨_,_,_,Z,l,p,m,z,u,y⟩,_⟩:=zaj K3.o;have rM:=zk1 Y U (blksOf t.info) B h.o (by rw[zcv];exact N1.o);have rD:=zk1 R X (blksOf t.data) B A3.o (by rw[zcv];exact N2.o);have rR:=zk1 r d t.rev B A1.o N3.o;rw[zcv] at rM rD;clear A K HM HD HR;go_wp2_with fail;refine rM.mono ?_;rintro e O ⟨rfl,rfl⟩
    cases h3:zbk (blksOf t.info) with
    |false=>
     have C:Hid (za8 t=false):=by rw[Hid,ze9,h3];simp
     go_wp2;go_ret;exact⟨by rw[C.o];rfl,J.o⟩
    |true=>
     go_wp2_with fail;refine rD.mono ?_;rintro e O ⟨rfl,rfl⟩
     cases h4:zbk (blksOf t.data) with
     |false=>
      have C:Hid (za8 t=false):=by rw[Hid,ze9,h4];simp
      go_wp2;go_ret;exact⟨by rw[C.o];rfl,J.o⟩
     |true=>
      go_wp2_with fail;refine rR.mono ?_;rintro e O ⟨rfl,rfl⟩
      cases h5:zbk t.rev with
      |false=>
       have C:Hid (za8 t=false):=by rw[Hid,ze9,h5];simp
       go_wp2;go_ret;exact⟨by rw[C.o];rfl,J.o⟩
      |true=>
       have q3:=zdj h3;have q4:=zdj h4;have q5:=zdj h5;have HN:=zab (zy8 t h3 h4 h5);have HF:Hid (flatI [(Y,U,blksOf t.info),(R,X,blksOf t.data),(r,d,t.rev)]=zkn t):=by simp[Hid,flatI,zkn]
       have HL:Hid (∀w',Below B.heap.size B w'→w'.cell? ⟨B.heap.size,0,none⟩=some (.slice Y (blksOf t.info).length U)→w'.cell? ⟨B.heap.size,1,none⟩=some (.slice R (blksOf t.data).length X)→w'.cell? ⟨B.heap.size,2,none⟩=some (.slice r t.rev.length d)→B.heap.size<w'.heap.size→zyo w' B.heap.size [(Y,U,blksOf t.info),(R,X,blksOf t.data),(r,d,t.rev)]):=by
        intro w' hb c0 c1 c2 A9;refine⟨A9,fun i x hx=>?_⟩
        match i,hx with
        |0,hx=>cases hx;exact⟨c0,h.o.below hb⟩
        |1,hx=>cases hx;exact⟨c1,A3.o.below hb⟩
        |2,hx=>cases hx;exact⟨c2,A1.o.below hb⟩
        |n+3,hx=>simp at hx
       go_wp2_with fail;refine(zzb B.heap.size 3 3 [(Y,U,blksOf t.info),(R,X,blksOf t.data),(r,d,t.rev)] _ rfl (by omega) (HL.o _ (zaa _ _) (by rw[zcv];simp[go_sem]) (by rw[zcv];simp[go_sem]) (by simp[go_sem]) (by simp)) (by rw[HF.o,zkn,List.length_append,List.length_append];omega)).mono ?_;rintro e O ⟨rfl,S⟩;rw[HF.o,HN.o];have F:=zae (zaa _ _) S;have A0:=zab (zae J.o F);have B2:w.heap.size<O.heap.size:=by have:=F.size;omega
       have K4:=zab (zad F A7 K3.o);clear Z l p m z u y S F;obtain⟨⟨_,_,_,_,l,p,m,z,u,y⟩,_⟩:=zaj K4.o
       cases h6:decide (zkn t).Nodup with
       |false=>
        have C:Hid (za8 t=false):=by rw[Hid,ze9,h6];simp
        go_wp2;go_ret;exact⟨by rw[C.o];rfl,A0.o⟩
       |true=>
        have C:Hid (za8 t=(hdB t.h0&&hdB t.h1&&hdB t.h2)):=by rw[Hid,ze9,H0.o,H1.o,H2.o,h3,h4,h5,h6];simp
        go_wp2_with fail;refine(zsq t.h0 t.h1 t.h2 _).mono ?_;rintro e B0 ⟨rfl,F⟩;go_wp2;go_ret;exact⟨by rw[C.o];rfl,zae A0.o F⟩
end Go.Proofs.YtjnpndfpajjihacGreat


namespace Go.Proofs.YtjnpndfpajjihacGreat
open Go.RowKit
theorem za1 {t:Tx}(h:za8 t=true):t.info.length≤12∧t.data.length≤12∧t.rev.length≤12:=by
 have:=(za6 t).1 h;have B:=zdj this.2.2.1.1;have A:=zdj this.2.2.1.2.1;have C:=zdj this.2.2.1.2.2;rw[zcv] at B A;exact⟨B,A,C⟩
end Go.Proofs.YtjnpndfpajjihacGreat


namespace Go.Proofs.YtjnpndfpajjihacGreat
open Tryz
open Go.RowKit
def sealE (h u:Int)(t:Tx):Int:=if zie h u=false∨za8 t=false∨zh6 t=true then 2 else takeE h u (needN t.info.length t.rev.length)
def zcn (h u:Int)(t:Tx):Int:=if sealE h u t=0 then takeH h u (needN t.info.length t.rev.length) else h
def zci (h u:Int)(t:Tx):Int:=if sealE h u t=0 then takeU h u (needN t.info.length t.rev.length) else u
def sealP (h u:Int)(t:Tx):List Int:=if sealE h u t=0 then takeL h u (needN t.info.length t.rev.length) else[]
theorem zuv (h u:Int)(v:Value)(t:Tx)(w:World)(hT:IsTx w v t)(r1:t.info.length*24≤140737488355328)(r2:t.data.length*24≤140737488355328):
  Calls prog 163 #[.agg #[.int .i64 h,.int .i64 u],v] w fun e w'=>∃a c,e=.returned (.tuple #[.agg #[.int .i64 (zcn h u t),.int .i64 (zci h u t)],.slice a (sealP h u t).length c,.int .i64 (sealE h u t)])∧(SegI w' a (sealP h u t)∧(∀b off,a=some ⟨b,off,none⟩→w.heap.size≤b)∧(sealP h u t).length≤c)∧Below w.heap.size w w':=by
 have HT:=zab hT;obtain⟨a0,a1,a2,a3,a4,a5,rfl,_,_,_,n1,n2,n3⟩:=hT;go_enter func163,ntmps163;go_wp2_with fail;refine(zj7 h u _).mono ?_;rintro e w1 ⟨rfl,k⟩;obtain⟨K1,K2,K3,r⟩:=zjz k;have L:=zab K1;have M:=zab K2;have I:=zab K3;have A2:w.heap.size<w1.heap.size:=by omega
 have p:w.heap.size+1<w1.heap.size:=by omega
 have O:=zab (zae (zae (zae (zaa _ _) (zaa _ _)) (zaa _ _)) k);clear K1 K2 K3 k;obtain⟨⟨S,J⟩,_⟩:=zgk L.o;obtain⟨⟨C,D⟩,R,f1⟩:=zgk I.o;obtain⟨⟨X,l,U,Y,Z,j,d,n,m,i⟩,_⟩:=zaj M.o
 cases hg:zie h u with
 |false=>
  have B:Hid (sealE h u t=2):=by rw[Hid,sealE,if_pos (.inl hg)]
  have A:Hid (zcn h u t=h∧zci h u t=u∧sealP h u t=[]):=by simp[Hid,zcn,zci,sealP,B.o]
  go_wp2;refine bodyPost_ret (v:=.tuple #[.agg #[.int .i64 h,.int .i64 u],.slice none 0 0,.int .i64 2]) (by simp[results,results163,go_sem,C,D]) rfl ⟨none,0,by rw[B.o,A.o.1,A.o.2.1,A.o.2.2];rfl,⟨.inl A.o.2.2,fun _ _ e=>(by cases e),(by rw[A.o.2.2];exact Nat.le_refl _)⟩,?_⟩
  repeat refine Below.setCell ?_ (by simp;try omega) _
  exact O.o
 |true=>
  have HG:=zab hg;clear hg;go_wp2_with fail;refine(zb8 _ t _ (HT.o.below O.o) r1 r2).mono ?_;rintro e w2 ⟨rfl,F⟩
  replace L:=zab (zad F A2 L.o)
  replace M:=zab (zad F p M.o)
  replace I:=zab (zad F r I.o)
  have N:=zab (zae O.o F);have y:=Nat.lt_of_lt_of_le r F.size;have A1:w.heap.size<w2.heap.size:=by omega
  have q:w.heap.size+1<w2.heap.size:=by omega
  clear F S J C D R f1 X l U Y Z j d n m i O;obtain⟨⟨S,J⟩,_⟩:=zgk L.o;obtain⟨⟨C,D⟩,R,f1⟩:=zgk I.o;obtain⟨⟨X,l,U,Y,Z,j,d,n,m,i⟩,_⟩:=zaj M.o
  cases hx:za8 t with
  |false=>
   have B:Hid (sealE h u t=2):=by rw[Hid,sealE,if_pos (.inr (.inl hx))]
   have A:Hid (zcn h u t=h∧zci h u t=u∧sealP h u t=[]):=by simp[Hid,zcn,zci,sealP,B.o]
   go_wp2;refine bodyPost_ret (v:=.tuple #[.agg #[.int .i64 h,.int .i64 u],.slice none 0 0,.int .i64 2]) (by simp[results,results163,go_sem,C,D]) rfl ⟨none,0,by rw[B.o,A.o.1,A.o.2.1,A.o.2.2];rfl,⟨.inl A.o.2.2,fun _ _ e=>(by cases e),(by rw[A.o.2.2];exact Nat.le_refl _)⟩,?_⟩
   repeat refine Below.setCell ?_ (by simp;try omega) _
   exact N.o
  |true=>
   have s:=zab hx;clear hx;go_wp2_with fail;refine(zqq _ t _ (HT.o.below N.o)).mono ?_;rintro e w3 ⟨rfl,E⟩
   replace L:=zab (zad E A1 L.o)
   replace M:=zab (zad E q M.o)
   replace I:=zab (zad E y I.o)
   have z:=zab (zae N.o E);have A0:=Nat.lt_of_lt_of_le y E.size;have A5:w.heap.size<w3.heap.size:=by omega
   clear E S J C D R f1 X l U Y Z j d n m i N;obtain⟨⟨S,J⟩,_⟩:=zgk L.o;obtain⟨⟨C,D⟩,R,f1⟩:=zgk I.o;obtain⟨⟨X,l,U,Y,Z,j,d,n,m,i⟩,_⟩:=zaj M.o
   cases ho:zh6 t with
   |true=>
    have B:Hid (sealE h u t=2):=by rw[Hid,sealE,if_pos (.inr (.inr ho))]
    have A:Hid (zcn h u t=h∧zci h u t=u∧sealP h u t=[]):=by simp[Hid,zcn,zci,sealP,B.o]
    go_wp2;refine bodyPost_ret (v:=.tuple #[.agg #[.int .i64 h,.int .i64 u],.slice none 0 0,.int .i64 2]) (by simp[results,results163,go_sem,C,D]) rfl ⟨none,0,by rw[B.o,A.o.1,A.o.2.1,A.o.2.2];rfl,⟨.inl A.o.2.2,fun _ _ e=>(by cases e),(by rw[A.o.2.2];exact Nat.le_refl _)⟩,?_⟩
    repeat refine Below.setCell ?_ (by simp;try omega) _
    exact z.o
   |false=>
    have A6:=za1 s.o;have HN:Hid (zkm (t.info.length:Int) (t.rev.length:Int)=0):=by rw[Hid,zkm,if_neg];omega
    have B:Hid (sealE h u t=takeE h u (needN t.info.length t.rev.length)):=by
     rw[Hid,sealE,if_neg];rw[HG.o,s.o,ho];simp
    have HS:Hid (zcn h u t=takeH h u (needN t.info.length t.rev.length)∧zci h u t=takeU h u (needN t.info.length t.rev.length)∧sealP h u t=takeL h u (needN t.info.length t.rev.length)):=by
     by_cases e:takeE h u (needN t.info.length t.rev.length)=0
     ·simp[Hid,zcn,zci,sealP,B.o,e]
     ·simp[Hid,zcn,zci,sealP,B.o,takeH,takeU,takeL,e]
    go_wp2_with fail;refine(zqp (t.info.length:Int) (t.rev.length:Int) _).mono ?_;rintro e w4 ⟨rfl,rfl⟩;rw[HN.o];generalize needN (t.info.length:Int) (t.rev.length:Int)=nn at *;go_wp2_with fail;refine(zqm h u nn _).mono ?_;rintro e w5 ⟨a,c,rfl,x,Q⟩;have K:=zab x;have A3:=zab (zae z.o Q);have A4:=zab (zad Q A0 I.o);have A7:=Nat.lt_of_lt_of_le A0 Q.size;clear x Q S J C D R f1 X l U Y Z j d n m i;obtain⟨⟨C,D⟩,R,f1⟩:=zgk A4.o;generalize takeE h u nn=te at *;generalize takeH h u nn=th at *;generalize takeU h u nn=tu at *;generalize takeL h u nn=tl at *;go_wp2;refine bodyPost_ret (v:=.tuple #[.agg #[.int .i64 th,.int .i64 tu],.slice a tl.length c,.int .i64 te]) (by simp[results,results163,go_sem,C,D]) rfl ?_;rw[B.o,HS.o.1,HS.o.2.1,HS.o.2.2];refine⟨a,c,rfl,⟨?_,fun b off e=>(by have:=K.o.2.1 b off e;omega),K.o.2.2⟩,?_⟩
    ·refine(K.o.1.setNe (fun b off e=>?_) _).setNe (fun b off e=>?_) _
     ·have:=K.o.2.1 b off e;simp;omega
     ·have:=K.o.2.1 b off e;simp;omega
    ·repeat refine Below.setCell ?_ (by simp;try omega) _
     exact A3.o
end Go.Proofs.YtjnpndfpajjihacGreat

