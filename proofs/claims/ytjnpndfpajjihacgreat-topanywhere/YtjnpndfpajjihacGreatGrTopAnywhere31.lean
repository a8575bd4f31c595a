/-
  
-/
import Derived.Test.YtjnpndfpajjihacGreatTApart
import Derived.Test.YtjnpndfpajjihacGreatGrTopAnywhere23
import Derived.Deep.RegionHeld3
import Derived.Test.YtjnpndfpajjihacGreatRTake2
set_option maxRecDepth 100000
set_option maxHeartbeats 40000000
namespace Go.Proofs.YtjnpndfpajjihacGreat
open Go.Proofs.Tryz
open Go.RowKit
theorem zfc(t:Tx):za9 t=(zao t.seq 1 2147483647&&(zb7 t.info&&zb7 t.data)&&(zbk (blksOf t.info)&&zbk (blksOf t.data)&&zbk t.rev)&&decide (zkx t).Nodup&&(hdB t.h0&&hdB t.h1&&hdB t.h2)):=rfl
theorem zb8(v:Value)(t:Tx)(w:World)(hT:IsTx w v t)(r1:t.info.length*24≤140737488355328)(r2:t.data.length*24≤140737488355328):
  Calls prog 31 #[v] w fun e w'=>e=.returned (.bool (za9 t))∧Below w.heap.size w w':=by
 obtain⟨a,c,s,k,r,d,rfl,hM,hD,hR,n1,n2,n3⟩:=hT;have HM:=zaa hM;have HD:=zaa hD;have HR:=zaa hR;have N1:=zaa n1;have N2:=zaa n2;have N3:=zaa n3;clear hM hD hR n1 n2 n3
 cases h0:zao t.seq 1 2147483647 with
 |false=>
  have C:Hid (za9 t=false):=by rw[Hid,zfc,h0];rfl
  go_enter func31,ntmps31;go_wp2_with (go_at_call 59;refine(zaz _ _ _ _).mono ?_;rintro e w' ⟨rfl,rfl⟩);go_ret;exact⟨by rw[C.o];rfl,zab _ _⟩
 |true=>
  have H0:=zaa h0;go_enter func31,ntmps31;go_wp2_with (go_at_call 59;refine(zaz _ _ _ _).mono ?_;rintro e w' ⟨rfl,rfl⟩);clear h0;refine(zu0 a c t.info _ (HM.o.below (zab _ _)) N1.o).mono ?_;rintro e w1 ⟨rfl,Q⟩;have A7:w.heap.size<w1.heap.size:=by have:=Q.size;simp at this;omega
  have K1:=zaa (z4b Q);obtain⟨⟨_,j,z,b,_⟩,_⟩:=zaj K1.o;have L:=zaa (zae (zab _ _) Q);clear Q
  cases h1:zb7 t.info with
  |false=>
   have C:Hid (za9 t=false):=by rw[Hid,zfc,h1];simp
   go_wp2;go_ret;exact⟨by rw[C.o];rfl,L.o⟩
  |true=>
   have H1:=zaa h1;clear h1;go_wp2_with fail;refine(zu0 s k t.data _ (HD.o.below L.o) N2.o).mono ?_;rintro e E ⟨rfl,M⟩;have Y:w.heap.size<E.heap.size:=by have:=M.size;omega
   have K2:=zaa (zad M A7 K1.o);have N:=zaa (zae L.o M);clear M K1 j z b L;obtain⟨⟨x0,j,z,b,y,u,l,p,q,m⟩,_⟩:=zaj K2.o
   cases h2:zb7 t.data with
   |false=>
    have C:Hid (za9 t=false):=by rw[Hid,zfc,h2];simp
    go_wp2;go_ret;exact⟨by rw[C.o];rfl,N.o⟩
   |true=>
    have H2:=zaa h2;clear h2;go_wp2
    have K:Hid (∀w',Below E.heap.size E w'→Hid (Below E.heap.size E w')∧w'.cell? ⟨w.heap.size,1,none⟩=some (.slice a t.info.length c)∧w'.cell? ⟨w.heap.size,2,none⟩=some (.slice s t.data.length k)):=
     fun w' hb=>⟨hb,zac hb Y j,zac hb Y z⟩
    clear x0 j z b y u l p q m
    go_region_held3 (fun w'=>Hid (Below E.heap.size E w')∧w'.cell? ⟨w.heap.size,1,none⟩=some (.slice a t.info.length c)∧w'.cell? ⟨w.heap.size,2,none⟩=some (.slice s t.data.length k))
     (first|exact K.o _ ((Below.refl _ _).drew)|(refine K.o _ ?_;assumption))
     (first
      |(go_at_call_of 61 (t.info);(have A:=(‹Hid (Below E.heap.size E _)∧_›).1);have I:=zaa A.o;refine(znu a c t.info _ ?_ r1).mono ?_;exact HM.o.below (zae N.o A.o);clear A;rintro e B2 ⟨S,U,rfl,A1,D⟩;have A6:=zae I.o D;have A5:=zaa A1;clear D I A1)
      |(go_at_call_of 61 (t.data);(have A:=(‹Hid (Below E.heap.size E _)∧_›).1);have I:=zaa A.o;refine(znu s k t.data _ ?_ r2).mono ?_;exact HD.o.below (zae N.o A.o);clear A;rintro e B ⟨h,X,rfl,A2,D⟩;have A6:=zae I.o D;have A3:=zaa A2;have Z:=zaa (A5.o.below D);clear D I A2))
    have A:=(‹Hid (Below E.heap.size E B)∧_›).1;have J:=zaa (zae N.o A.o);have A8:w.heap.size<B.heap.size:=by have:=A.o.size;omega
    have K3:=zaa (zad A.o Y K2.o);have A4:=zaa (HR.o.below J.o);obtain⟨⟨_,_,_,b,y,u,l,p,q,m⟩,_⟩:=zaj K3.o;have rM:=zla S U (blksOf t.info) B Z.o (by rw[zcu];exact N1.o);have rD:=zla h X (blksOf t.data) B A3.o (by rw[zcu];exact N2.o);have rR:=zla r d t.rev B A4.o N3.o;rw[zcu]at rM rD;clear A K HM HD HR;go_wp2_with fail;refine rM.mono ?_;rintro e O ⟨rfl,rfl⟩
    cases h3:zbk (blksOf t.info) with
    |false=>
     have C:Hid (za9 t=false):=by rw[Hid,zfc,h3];simp
     go_wp2;go_ret;exact⟨by rw[C.o];rfl,J.o⟩
    |true=>
     go_wp2_with fail;refine rD.mono ?_;rintro e O ⟨rfl,rfl⟩
     cases h4:zbk (blksOf t.data) with
     |false=>
      have C:Hid (za9 t=false):=by rw[Hid,zfc,h4];simp
      go_wp2;go_ret;exact⟨by rw[C.o];rfl,J.o⟩
     |true=>
      go_wp2_with fail;refine rR.mono ?_;rintro e O ⟨rfl,rfl⟩
      cases h5:zbk t.rev with
      |false=>
       have C:Hid (za9 t=false):=by rw[Hid,zfc,h5];simp
       go_wp2;go_ret;exact⟨by rw[C.o];rfl,J.o⟩
      |true=>
       have q3:=zdk h3;have q4:=zdk h4;have q5:=zdk h5;have HN:=zaa (zzd t h3 h4 h5);have HF:Hid (flatI [(S,U,blksOf t.info),(h,X,blksOf t.data),(r,d,t.rev)]=zkx t):=by simp[Hid,flatI,zkx]
       have HL:Hid (∀w',Below B.heap.size B w'→w'.cell? ⟨B.heap.size,0,none⟩=some (.slice S (blksOf t.info).length U)→w'.cell? ⟨B.heap.size,1,none⟩=some (.slice h (blksOf t.data).length X)→w'.cell? ⟨B.heap.size,2,none⟩=some (.slice r t.rev.length d)→B.heap.size<w'.heap.size→zyt w' B.heap.size [(S,U,blksOf t.info),(h,X,blksOf t.data),(r,d,t.rev)]):=by
        intro w' hb c0 c1 c2 A9;refine⟨A9,fun i x hx=>?_⟩
        match i,hx with
        |0,hx=>cases hx;exact⟨c0,Z.o.below hb⟩
        |1,hx=>cases hx;exact⟨c1,A3.o.below hb⟩
        |2,hx=>cases hx;exact⟨c2,A4.o.below hb⟩
        |n+3,hx=>simp at hx
       go_wp2_with fail;refine(zzg B.heap.size 3 3 [(S,U,blksOf t.info),(h,X,blksOf t.data),(r,d,t.rev)] _ rfl (by omega) (HL.o _ (zab _ _) (by rw[zcu];simp[go_sem]) (by rw[zcu];simp[go_sem]) (by simp[go_sem]) (by simp)) (by rw[HF.o,zkx,List.length_append,List.length_append];omega)).mono ?_;rintro e O ⟨rfl,R⟩;rw[HF.o,HN.o];have F:=zae (zab _ _) R;have A0:=zaa (zae J.o F);have B0:w.heap.size<O.heap.size:=by have:=F.size;omega
       have K4:=zaa (zad F A8 K3.o);clear b y u l p q m R F;obtain⟨⟨_,_,_,_,y,u,l,p,q,m⟩,_⟩:=zaj K4.o
       cases h6:decide (zkx t).Nodup with
       |false=>
        have C:Hid (za9 t=false):=by rw[Hid,zfc,h6];simp
        go_wp2;go_ret;exact⟨by rw[C.o];rfl,A0.o⟩
       |true=>
        have C:Hid (za9 t=(hdB t.h0&&hdB t.h1&&hdB t.h2)):=by rw[Hid,zfc,H0.o,H1.o,H2.o,h3,h4,h5,h6];simp
        go_wp2_with fail;refine(zsx t.h0 t.h1 t.h2 _).mono ?_;rintro e B1 ⟨rfl,F⟩;go_wp2;go_ret;exact⟨by rw[C.o];rfl,zae A0.o F⟩
theorem za3{t:Tx}(h:za9 t=true):t.info.length≤12∧t.data.length≤12∧t.rev.length≤12:=by
 have:=(za7 t).1 h;have B:=zdk this.2.2.1.1;have A:=zdk this.2.2.1.2.1;have C:=zdk this.2.2.1.2.2;rw[zcu]at B A;exact⟨B,A,C⟩
open Go.Proofs.Tryz
def sealE (h u:Int)(t:Tx):Int:=if zik h u=false∨za9 t=false∨zic t=true then 2 else takeE h u (needN t.info.length t.rev.length)
def zcm (h u:Int)(t:Tx):Int:=if sealE h u t=0 then takeH h u (needN t.info.length t.rev.length) else h
def zch (h u:Int)(t:Tx):Int:=if sealE h u t=0 then takeU h u (needN t.info.length t.rev.length) else u
def sealP (h u:Int)(t:Tx):List Int:=if sealE h u t=0 then takeL h u (needN t.info.length t.rev.length) else[]
theorem zu1(h u:Int)(v:Value)(t:Tx)(w:World)(hT:IsTx w v t)(r1:t.info.length*24≤140737488355328)(r2:t.data.length*24≤140737488355328):
  Calls prog 163 #[.agg #[.int .i64 h,.int .i64 u],v] w fun e w'=>∃a c,e=.returned (.tuple #[.agg #[.int .i64 (zcm h u t),.int .i64 (zch h u t)],.slice a (sealP h u t).length c,.int .i64 (sealE h u t)])∧(SegI w' a (sealP h u t)∧(∀b off,a=some ⟨b,off,none⟩→w.heap.size≤b)∧(sealP h u t).length≤c)∧Below w.heap.size w w':=by
 have HT:=zaa hT;obtain⟨a0,a1,a2,a3,a4,a5,rfl,_,_,_,n1,n2,n3⟩:=hT;go_enter func163,ntmps163;go_wp2_with fail;refine(zkh h u _).mono ?_;rintro e w1 ⟨rfl,k⟩;obtain⟨K1,K2,K3,x⟩:=zj9 k;have L:=zaa K1;have M:=zaa K2;have J:=zaa K3;have A1:w.heap.size<w1.heap.size:=by omega
 have p:w.heap.size+1<w1.heap.size:=by omega
 have N:=zaa (zae (zae (zae (zab _ _) (zab _ _)) (zab _ _)) k);clear K1 K2 K3 k;obtain⟨⟨i,K⟩,_⟩:=zgo L.o;obtain⟨⟨D,C⟩,R,f1⟩:=zgo J.o;obtain⟨⟨n,X,S,U,m,l,Y,j,Z,d⟩,_⟩:=zaj M.o
 cases hg:zik h u with
 |false=>
  have B:Hid (sealE h u t=2):=by rw[Hid,sealE,if_pos (.inl hg)]
  have A:Hid (zcm h u t=h∧zch h u t=u∧sealP h u t=[]):=by simp[Hid,zcm,zch,sealP,B.o]
  go_wp2;refine bodyPost_ret (v:=.tuple #[.agg #[.int .i64 h,.int .i64 u],.slice none 0 0,.int .i64 2]) (by simp[results,results163,go_sem,D,C]) rfl ⟨none,0,by rw[B.o,A.o.1,A.o.2.1,A.o.2.2];rfl,⟨.inl A.o.2.2,fun _ _ e=>(by cases e),(by rw[A.o.2.2];exact Nat.le_refl _)⟩,?_⟩
  repeat refine Below.setCell ?_ (by simp;try omega) _
  exact N.o
 |true=>
  have HG:=zaa hg;clear hg;go_wp2_with fail;refine(zb8 _ t _ (HT.o.below N.o) r1 r2).mono ?_;rintro e w2 ⟨rfl,F⟩
  replace L:=zaa (zad F A1 L.o)
  replace M:=zaa (zad F p M.o)
  replace J:=zaa (zad F x J.o)
  have Q:=zaa (zae N.o F);have z:=Nat.lt_of_lt_of_le x F.size;have A2:w.heap.size<w2.heap.size:=by omega
  have q:w.heap.size+1<w2.heap.size:=by omega
  clear F i K D C R f1 n X S U m l Y j Z d N;obtain⟨⟨i,K⟩,_⟩:=zgo L.o;obtain⟨⟨D,C⟩,R,f1⟩:=zgo J.o;obtain⟨⟨n,X,S,U,m,l,Y,j,Z,d⟩,_⟩:=zaj M.o
  cases hx:za9 t with
  |false=>
   have B:Hid (sealE h u t=2):=by rw[Hid,sealE,if_pos (.inr (.inl hx))]
   have A:Hid (zcm h u t=h∧zch h u t=u∧sealP h u t=[]):=by simp[Hid,zcm,zch,sealP,B.o]
   go_wp2;refine bodyPost_ret (v:=.tuple #[.agg #[.int .i64 h,.int .i64 u],.slice none 0 0,.int .i64 2]) (by simp[results,results163,go_sem,D,C]) rfl ⟨none,0,by rw[B.o,A.o.1,A.o.2.1,A.o.2.2];rfl,⟨.inl A.o.2.2,fun _ _ e=>(by cases e),(by rw[A.o.2.2];exact Nat.le_refl _)⟩,?_⟩
   repeat refine Below.setCell ?_ (by simp;try omega) _
   exact Q.o
  |true=>
   have r:=zaa hx;clear hx;go_wp2_with fail;refine(zqw _ t _ (HT.o.below Q.o)).mono ?_;rintro e w3 ⟨rfl,E⟩
   replace L:=zaa (zad E A2 L.o)
   replace M:=zaa (zad E q M.o)
   replace J:=zaa (zad E z J.o)
   have y:=zaa (zae Q.o E);have A0:=Nat.lt_of_lt_of_le z E.size;have A5:w.heap.size<w3.heap.size:=by omega
   clear E i K D C R f1 n X S U m l Y j Z d Q;obtain⟨⟨i,K⟩,_⟩:=zgo L.o;obtain⟨⟨D,C⟩,R,f1⟩:=zgo J.o;obtain⟨⟨n,X,S,U,m,l,Y,j,Z,d⟩,_⟩:=zaj M.o
   cases ho:zic t with
   |true=>
    have B:Hid (sealE h u t=2):=by rw[Hid,sealE,if_pos (.inr (.inr ho))]
    have A:Hid (zcm h u t=h∧zch h u t=u∧sealP h u t=[]):=by simp[Hid,zcm,zch,sealP,B.o]
    go_wp2;refine bodyPost_ret (v:=.tuple #[.agg #[.int .i64 h,.int .i64 u],.slice none 0 0,.int .i64 2]) (by simp[results,results163,go_sem,D,C]) rfl ⟨none,0,by rw[B.o,A.o.1,A.o.2.1,A.o.2.2];rfl,⟨.inl A.o.2.2,fun _ _ e=>(by cases e),(by rw[A.o.2.2];exact Nat.le_refl _)⟩,?_⟩
    repeat refine Below.setCell ?_ (by simp;try omega) _
    exact y.o
   |false=>
    have A7:=za3 r.o;have HN:Hid (zkw (t.info.length:Int) (t.rev.length:Int)=0):=by rw[Hid,zkw,if_neg];omega
    have B:Hid (sealE h u t=takeE h u (needN t.info.length t.rev.length)):=by
     rw[Hid,sealE,if_neg];rw[HG.o,r.o,ho];simp
    have HS:Hid (zcm h u t=takeH h u (needN t.info.length t.rev.length)∧zch h u t=takeU h u (needN t.info.length t.rev.length)∧sealP h u t=takeL h u (needN t.info.length t.rev.length)):=by
     by_cases e:takeE h u (needN t.info.length t.rev.length)=0
     ·simp[Hid,zcm,zch,sealP,B.o,e]
     ·simp[Hid,zcm,zch,sealP,B.o,takeH,takeU,takeL,e]
    go_wp2_with fail;refine(zqv (t.info.length:Int) (t.rev.length:Int) _).mono ?_;rintro e w4 ⟨rfl,rfl⟩;rw[HN.o];generalize needN (t.info.length:Int) (t.rev.length:Int)=nn at *;go_wp2_with fail;refine(zqs h u nn _).mono ?_;rintro e w5 ⟨a,c,rfl,s,O⟩;have I:=zaa s;have A3:=zaa (zae y.o O);have A4:=zaa (zad O A0 J.o);have A6:=Nat.lt_of_lt_of_le A0 O.size;clear s O i K D C R f1 n X S U m l Y j Z d;obtain⟨⟨D,C⟩,R,f1⟩:=zgo A4.o;generalize takeE h u nn=te at *;generalize takeH h u nn=th at *;generalize takeU h u nn=tu at *;generalize takeL h u nn=tl at *;go_wp2;refine bodyPost_ret (v:=.tuple #[.agg #[.int .i64 th,.int .i64 tu],.slice a tl.length c,.int .i64 te]) (by simp[results,results163,go_sem,D,C]) rfl ?_;rw[B.o,HS.o.1,HS.o.2.1,HS.o.2.2];refine⟨a,c,rfl,⟨?_,fun b off e=>(by have:=I.o.2.1 b off e;omega),I.o.2.2⟩,?_⟩
    ·refine(I.o.1.setNe (fun b off e=>?_) _).setNe (fun b off e=>?_) _
     ·have:=I.o.2.1 b off e;simp;omega
     ·have:=I.o.2.1 b off e;simp;omega
    ·repeat refine Below.setCell ?_ (by simp;try omega) _
     exact A3.o
