/-
  
-/
import Derived.Test.YtjnpndfpajjihacGreatTApart
import Derived.Test.YtjnpndfpajjihacGreatGrTopOrdered22
import Derived.Deep.RegionHeld3
import Derived.Test.YtjnpndfpajjihacGreatRTake2
set_option maxRecDepth 100000
set_option maxHeartbeats 40000000
namespace Go.Proofs.YtjnpndfpajjihacGreat
open Go.Proofs.Tryz
open Go.RowKit
theorem zfc(t:Tx):zba t=(zap t.seq 1 2147483647&&(zb6 t.info&&zb6 t.data)&&(zbk (blksOf t.info)&&zbk (blksOf t.data)&&zbk t.rev)&&decide (zky t).Nodup&&(hdB t.h0&&hdB t.h1&&hdB t.h2)):=rfl
theorem zb7(v:Value)(t:Tx)(w:World)(hT:IsTx w v t)(r1:t.info.length*24≤140737488355328)(r2:t.data.length*24≤140737488355328):
  Calls prog 31 #[v] w fun e w'=>e=.returned (.bool (zba t))∧Below w.heap.size w w':=by
 obtain⟨a,c,y,u,r,d,rfl,hM,hD,hR,n1,n2,n3⟩:=hT;have HM:=zab hM;have HD:=zab hD;have HR:=zab hR;have N1:=zab n1;have N2:=zab n2;have N3:=zab n3;clear hM hD hR n1 n2 n3
 cases h0:zap t.seq 1 2147483647 with
 |false=>
  have C:Hid (zba t=false):=by rw[Hid,zfc,h0];rfl
  go_enter func31,ntmps31;go_wp2_with (go_at_call 59;refine(za0 _ _ _ _).mono ?_;rintro e w' ⟨rfl,rfl⟩);go_ret;exact⟨by rw[C.o];rfl,zaa _ _⟩
 |true=>
  have H0:=zab h0;go_enter func31,ntmps31;go_wp2_with (go_at_call 59;refine(za0 _ _ _ _).mono ?_;rintro e w' ⟨rfl,rfl⟩);clear h0;refine(zu2 a c t.info _ (HM.o.below (zaa _ _)) N1.o).mono ?_;rintro e w1 ⟨rfl,N⟩;have A8:w.heap.size<w1.heap.size:=by have:=N.size;simp at this;omega
  have K1:=zab (z32 N);obtain⟨⟨_,p,k,Y,_⟩,_⟩:=zaj K1.o;have Q:=zab (zae (zaa _ _) N);clear N
  cases h1:zb6 t.info with
  |false=>
   have C:Hid (zba t=false):=by rw[Hid,zfc,h1];simp
   go_wp2;go_ret;exact⟨by rw[C.o];rfl,Q.o⟩
  |true=>
   have H1:=zab h1;clear h1;go_wp2_with fail;refine(zu2 y u t.data _ (HD.o.below Q.o) N2.o).mono ?_;rintro e E ⟨rfl,O⟩;have b:w.heap.size<E.heap.size:=by have:=O.size;omega
   have K2:=zab (zad O A8 K1.o);have L:=zab (zae Q.o O);clear O K1 p k Y Q;obtain⟨⟨x0,p,k,Y,j,q,s,m,l,z⟩,_⟩:=zaj K2.o
   cases h2:zb6 t.data with
   |false=>
    have C:Hid (zba t=false):=by rw[Hid,zfc,h2];simp
    go_wp2;go_ret;exact⟨by rw[C.o];rfl,L.o⟩
   |true=>
    have H2:=zab h2;clear h2;go_wp2
    have K:Hid (∀w',Below E.heap.size E w'→Hid (Below E.heap.size E w')∧w'.cell? ⟨w.heap.size,1,none⟩=some (.slice a t.info.length c)∧w'.cell? ⟨w.heap.size,2,none⟩=some (.slice y t.data.length u)):=
     fun w' hb=>⟨hb,zac hb b p,zac hb b k⟩
    clear x0 p k Y j q s m l z
    go_region_held3 (fun w'=>Hid (Below E.heap.size E w')∧w'.cell? ⟨w.heap.size,1,none⟩=some (.slice a t.info.length c)∧w'.cell? ⟨w.heap.size,2,none⟩=some (.slice y t.data.length u))
     (first|exact K.o _ ((Below.refl _ _).drew)|(refine K.o _ ?_;assumption))
     (first
      |(go_at_call_of 61 (t.info);(have A:=(‹Hid (Below E.heap.size E _)∧_›).1);have I:=zab A.o;refine(znu a c t.info _ ?_ r1).mono ?_;exact HM.o.below (zae L.o A.o);clear A;rintro e B0 ⟨Z,X,rfl,A3,F⟩;have A5:=zae I.o F;have A7:=zab A3;clear F I A3)
      |(go_at_call_of 61 (t.data);(have A:=(‹Hid (Below E.heap.size E _)∧_›).1);have I:=zab A.o;refine(znu y u t.data _ ?_ r2).mono ?_;exact HD.o.below (zae L.o A.o);clear A;rintro e B ⟨h,R,rfl,A0,F⟩;have A5:=zae I.o F;have A1:=zab A0;have U:=zab (A7.o.below F);clear F I A0))
    have A:=(‹Hid (Below E.heap.size E B)∧_›).1;have J:=zab (zae L.o A.o);have A9:w.heap.size<B.heap.size:=by have:=A.o.size;omega
    have K3:=zab (zad A.o b K2.o);have A4:=zab (HR.o.below J.o);obtain⟨⟨_,_,_,Y,j,q,s,m,l,z⟩,_⟩:=zaj K3.o;have rM:=zlc Z X (blksOf t.info) B U.o (by rw[zcw];exact N1.o);have rD:=zlc h R (blksOf t.data) B A1.o (by rw[zcw];exact N2.o);have rR:=zlc r d t.rev B A4.o N3.o;rw[zcw]at rM rD;clear A K HM HD HR;go_wp2_with fail;refine rM.mono ?_;rintro e M ⟨rfl,rfl⟩
    cases h3:zbk (blksOf t.info) with
    |false=>
     have C:Hid (zba t=false):=by rw[Hid,zfc,h3];simp
     go_wp2;go_ret;exact⟨by rw[C.o];rfl,J.o⟩
    |true=>
     go_wp2_with fail;refine rD.mono ?_;rintro e M ⟨rfl,rfl⟩
     cases h4:zbk (blksOf t.data) with
     |false=>
      have C:Hid (zba t=false):=by rw[Hid,zfc,h4];simp
      go_wp2;go_ret;exact⟨by rw[C.o];rfl,J.o⟩
     |true=>
      go_wp2_with fail;refine rR.mono ?_;rintro e M ⟨rfl,rfl⟩
      cases h5:zbk t.rev with
      |false=>
       have C:Hid (zba t=false):=by rw[Hid,zfc,h5];simp
       go_wp2;go_ret;exact⟨by rw[C.o];rfl,J.o⟩
      |true=>
       have q3:=zdm h3;have q4:=zdm h4;have q5:=zdm h5;have HN:=zab (zzd t h3 h4 h5);have HF:Hid (flatI [(Z,X,blksOf t.info),(h,R,blksOf t.data),(r,d,t.rev)]=zky t):=by simp[Hid,flatI,zky]
       have HL:Hid (∀w',Below B.heap.size B w'→w'.cell? ⟨B.heap.size,0,none⟩=some (.slice Z (blksOf t.info).length X)→w'.cell? ⟨B.heap.size,1,none⟩=some (.slice h (blksOf t.data).length R)→w'.cell? ⟨B.heap.size,2,none⟩=some (.slice r t.rev.length d)→B.heap.size<w'.heap.size→zyt w' B.heap.size [(Z,X,blksOf t.info),(h,R,blksOf t.data),(r,d,t.rev)]):=by
        intro w' hb c0 c1 c2 A6;refine⟨A6,fun i x hx=>?_⟩
        match i,hx with
        |0,hx=>cases hx;exact⟨c0,U.o.below hb⟩
        |1,hx=>cases hx;exact⟨c1,A1.o.below hb⟩
        |2,hx=>cases hx;exact⟨c2,A4.o.below hb⟩
        |n+3,hx=>simp at hx
       go_wp2_with fail;refine(zzg B.heap.size 3 3 [(Z,X,blksOf t.info),(h,R,blksOf t.data),(r,d,t.rev)] _ rfl (by omega) (HL.o _ (zaa _ _) (by rw[zcw];simp[go_sem]) (by rw[zcw];simp[go_sem]) (by simp[go_sem]) (by simp)) (by rw[HF.o,zky,List.length_append,List.length_append];omega)).mono ?_;rintro e M ⟨rfl,S⟩;rw[HF.o,HN.o];have D:=zae (zaa _ _) S;have A2:=zab (zae J.o D);have B2:w.heap.size<M.heap.size:=by have:=D.size;omega
       have K4:=zab (zad D A9 K3.o);clear Y j q s m l z S D;obtain⟨⟨_,_,_,_,j,q,s,m,l,z⟩,_⟩:=zaj K4.o
       cases h6:decide (zky t).Nodup with
       |false=>
        have C:Hid (zba t=false):=by rw[Hid,zfc,h6];simp
        go_wp2;go_ret;exact⟨by rw[C.o];rfl,A2.o⟩
       |true=>
        have C:Hid (zba t=(hdB t.h0&&hdB t.h1&&hdB t.h2)):=by rw[Hid,zfc,H0.o,H1.o,H2.o,h3,h4,h5,h6];simp
        go_wp2_with fail;refine(zs0 t.h0 t.h1 t.h2 _).mono ?_;rintro e B1 ⟨rfl,D⟩;go_wp2;go_ret;exact⟨by rw[C.o];rfl,zae A2.o D⟩
theorem zaz{t:Tx}(h:zba t=true):t.info.length≤12∧t.data.length≤12∧t.rev.length≤12:=by
 have:=(za9 t).1 h;have B:=zdm this.2.2.1.1;have A:=zdm this.2.2.1.2.1;have C:=zdm this.2.2.1.2.2;rw[zcw]at B A;exact⟨B,A,C⟩
open Go.Proofs.Tryz
def sealE (h u:Int)(t:Tx):Int:=if zii h u=false∨zba t=false∨zia t=true then 2 else takeE h u (needN t.info.length t.rev.length)
def zcl (h u:Int)(t:Tx):Int:=if sealE h u t=0 then takeH h u (needN t.info.length t.rev.length) else h
def zce (h u:Int)(t:Tx):Int:=if sealE h u t=0 then takeU h u (needN t.info.length t.rev.length) else u
def sealP (h u:Int)(t:Tx):List Int:=if sealE h u t=0 then takeL h u (needN t.info.length t.rev.length) else[]
theorem zu3(h u:Int)(v:Value)(t:Tx)(w:World)(hT:IsTx w v t)(r1:t.info.length*24≤140737488355328)(r2:t.data.length*24≤140737488355328):
  Calls prog 163 #[.agg #[.int .i64 h,.int .i64 u],v] w fun e w'=>∃a c,e=.returned (.tuple #[.agg #[.int .i64 (zcl h u t),.int .i64 (zce h u t)],.slice a (sealP h u t).length c,.int .i64 (sealE h u t)])∧(SegI w' a (sealP h u t)∧(∀b off,a=some ⟨b,off,none⟩→w.heap.size≤b)∧(sealP h u t).length≤c)∧Below w.heap.size w w':=by
 have HT:=zab hT;obtain⟨a0,a1,a2,a3,a4,a5,rfl,_,_,_,n1,n2,n3⟩:=hT;go_enter func163,ntmps163;go_wp2_with fail;refine(zki h u _).mono ?_;rintro e w1 ⟨rfl,j⟩;obtain⟨K1,K2,K3,z⟩:=zkb j;have M:=zab K1;have L:=zab K2;have J:=zab K3;have A2:w.heap.size<w1.heap.size:=by omega
 have p:w.heap.size+1<w1.heap.size:=by omega
 have Q:=zab (zae (zae (zae (zaa _ _) (zaa _ _)) (zaa _ _)) j);clear K1 K2 K3 j;obtain⟨⟨k,K⟩,_⟩:=zgq M.o;obtain⟨⟨C,D⟩,R,f1⟩:=zgq J.o;obtain⟨⟨X,n,i,m,Z,S,U,l,d,Y⟩,_⟩:=zaj L.o
 cases hg:zii h u with
 |false=>
  have B:Hid (sealE h u t=2):=by rw[Hid,sealE,if_pos (.inl hg)]
  have A:Hid (zcl h u t=h∧zce h u t=u∧sealP h u t=[]):=by simp[Hid,zcl,zce,sealP,B.o]
  go_wp2;refine bodyPost_ret (v:=.tuple #[.agg #[.int .i64 h,.int .i64 u],.slice none 0 0,.int .i64 2]) (by simp[results,results163,go_sem,C,D]) rfl ⟨none,0,by rw[B.o,A.o.1,A.o.2.1,A.o.2.2];rfl,⟨.inl A.o.2.2,fun _ _ e=>(by cases e),(by rw[A.o.2.2];exact Nat.le_refl _)⟩,?_⟩
  repeat refine Below.setCell ?_ (by simp;try omega) _
  exact Q.o
 |true=>
  have HG:=zab hg;clear hg;go_wp2_with fail;refine(zb7 _ t _ (HT.o.below Q.o) r1 r2).mono ?_;rintro e w2 ⟨rfl,F⟩
  replace M:=zab (zad F A2 M.o)
  replace L:=zab (zad F p L.o)
  replace J:=zab (zad F z J.o)
  have N:=zab (zae Q.o F);have s:=Nat.lt_of_lt_of_le z F.size;have A1:w.heap.size<w2.heap.size:=by omega
  have q:w.heap.size+1<w2.heap.size:=by omega
  clear F k K C D R f1 X n i m Z S U l d Y Q;obtain⟨⟨k,K⟩,_⟩:=zgq M.o;obtain⟨⟨C,D⟩,R,f1⟩:=zgq J.o;obtain⟨⟨X,n,i,m,Z,S,U,l,d,Y⟩,_⟩:=zaj L.o
  cases hx:zba t with
  |false=>
   have B:Hid (sealE h u t=2):=by rw[Hid,sealE,if_pos (.inr (.inl hx))]
   have A:Hid (zcl h u t=h∧zce h u t=u∧sealP h u t=[]):=by simp[Hid,zcl,zce,sealP,B.o]
   go_wp2;refine bodyPost_ret (v:=.tuple #[.agg #[.int .i64 h,.int .i64 u],.slice none 0 0,.int .i64 2]) (by simp[results,results163,go_sem,C,D]) rfl ⟨none,0,by rw[B.o,A.o.1,A.o.2.1,A.o.2.2];rfl,⟨.inl A.o.2.2,fun _ _ e=>(by cases e),(by rw[A.o.2.2];exact Nat.le_refl _)⟩,?_⟩
   repeat refine Below.setCell ?_ (by simp;try omega) _
   exact N.o
  |true=>
   have r:=zab hx;clear hx;go_wp2_with fail;refine(zqu _ t _ (HT.o.below N.o)).mono ?_;rintro e w3 ⟨rfl,E⟩
   replace M:=zab (zad E A1 M.o)
   replace L:=zab (zad E q L.o)
   replace J:=zab (zad E s J.o)
   have y:=zab (zae N.o E);have A0:=Nat.lt_of_lt_of_le s E.size;have A5:w.heap.size<w3.heap.size:=by omega
   clear E k K C D R f1 X n i m Z S U l d Y N;obtain⟨⟨k,K⟩,_⟩:=zgq M.o;obtain⟨⟨C,D⟩,R,f1⟩:=zgq J.o;obtain⟨⟨X,n,i,m,Z,S,U,l,d,Y⟩,_⟩:=zaj L.o
   cases ho:zia t with
   |true=>
    have B:Hid (sealE h u t=2):=by rw[Hid,sealE,if_pos (.inr (.inr ho))]
    have A:Hid (zcl h u t=h∧zce h u t=u∧sealP h u t=[]):=by simp[Hid,zcl,zce,sealP,B.o]
    go_wp2;refine bodyPost_ret (v:=.tuple #[.agg #[.int .i64 h,.int .i64 u],.slice none 0 0,.int .i64 2]) (by simp[results,results163,go_sem,C,D]) rfl ⟨none,0,by rw[B.o,A.o.1,A.o.2.1,A.o.2.2];rfl,⟨.inl A.o.2.2,fun _ _ e=>(by cases e),(by rw[A.o.2.2];exact Nat.le_refl _)⟩,?_⟩
    repeat refine Below.setCell ?_ (by simp;try omega) _
    exact y.o
   |false=>
    have A7:=zaz r.o;have HN:Hid (zkx (t.info.length:Int) (t.rev.length:Int)=0):=by rw[Hid,zkx,if_neg];omega
    have B:Hid (sealE h u t=takeE h u (needN t.info.length t.rev.length)):=by
     rw[Hid,sealE,if_neg];rw[HG.o,r.o,ho];simp
    have HS:Hid (zcl h u t=takeH h u (needN t.info.length t.rev.length)∧zce h u t=takeU h u (needN t.info.length t.rev.length)∧sealP h u t=takeL h u (needN t.info.length t.rev.length)):=by
     by_cases e:takeE h u (needN t.info.length t.rev.length)=0
     ·simp[Hid,zcl,zce,sealP,B.o,e]
     ·simp[Hid,zcl,zce,sealP,B.o,takeH,takeU,takeL,e]
    go_wp2_with fail;refine(zqt (t.info.length:Int) (t.rev.length:Int) _).mono ?_;rintro e w4 ⟨rfl,rfl⟩;rw[HN.o];generalize needN (t.info.length:Int) (t.rev.length:Int)=nn at *;go_wp2_with fail;refine(zqq h u nn _).mono ?_;rintro e w5 ⟨a,c,rfl,x,O⟩;have I:=zab x;have A4:=zab (zae y.o O);have A3:=zab (zad O A0 J.o);have A6:=Nat.lt_of_lt_of_le A0 O.size;clear x O k K C D R f1 X n i m Z S U l d Y;obtain⟨⟨C,D⟩,R,f1⟩:=zgq A3.o;generalize takeE h u nn=te at *;generalize takeH h u nn=th at *;generalize takeU h u nn=tu at *;generalize takeL h u nn=tl at *;go_wp2;refine bodyPost_ret (v:=.tuple #[.agg #[.int .i64 th,.int .i64 tu],.slice a tl.length c,.int .i64 te]) (by simp[results,results163,go_sem,C,D]) rfl ?_;rw[B.o,HS.o.1,HS.o.2.1,HS.o.2.2];refine⟨a,c,rfl,⟨?_,fun b off e=>(by have:=I.o.2.1 b off e;omega),I.o.2.2⟩,?_⟩
    ·refine(I.o.1.setNe (fun b off e=>?_) _).setNe (fun b off e=>?_) _
     ·have:=I.o.2.1 b off e;simp;omega
     ·have:=I.o.2.1 b off e;simp;omega
    ·repeat refine Below.setCell ?_ (by simp;try omega) _
     exact A4.o
